package conflict

import (
	"iter"
	"slices"

	"workpiece/api"
	"workpiece/cluster"
	"workpiece/sketch"
	"workpiece/solve"
)

// isSubset reports whether subset is a subset of a sketch with count constraints.
func isSubset(subset []int, count int) bool {
	least := 0
	for _, i := range subset {
		if i < least || i >= count {
			return false
		}
		least = i + 1
	}
	return len(subset) > 0
}

// subsets returns the subsets with size elements of a sketch with count constraints,
// in order. There must be as many constraints. Each subset is new memory.
func subsets(count int, size int) iter.Seq[[]int] {
	return func(yield func(subset []int) bool) {
		subset := make([]int, size)
		for i := range subset {
			subset[i] = i
		}
		for ok := true; ok && yield(slices.Clone(subset)); {
			ok = advance(subset, count)
		}
	}
}

// advance changes subset to the next one of the same length, and returns false if
// there is none.
func advance(subset []int, count int) bool {
	for i, element := range slices.Backward(subset) {
		if element < count-len(subset)+i {
			for k := range subset[i:] {
				subset[i+k] = element + 1 + k
			}
			return true
		}
	}
	return false
}

// isRefuted reports whether the subset of the valid sketch s is refuted.
func isRefuted(s api.Sketch, subset []int) bool {
	part := partOf(s, subset)
	plan, err := cluster.Plan(part)
	if err != api.OK || len(plan.Unplaced) > 0 {
		return false
	}
	list, err := solve.Solve(part)
	return err == api.OK && len(list) == 0
}

// partOf returns the part of the subset of the valid sketch s.
func partOf(s api.Sketch, subset []int) api.Sketch {
	var chosen []api.Constraint
	var used []int
	for _, i := range subset {
		chosen = append(chosen, s.Constraints[i])
		used = append(used, sketch.Uses(s.Constraints[i])...)
	}
	slices.Sort(used)
	used = slices.Compact(used)
	numbers := map[int]int{}
	for number, point := range used {
		numbers[point] = number
	}
	for i := range chosen {
		c := &chosen[i]
		// A field that the kind does not use is 0, and stays so: point 0 keeps its
		// number if it is used, and has none otherwise.
		c.P, c.Q, c.R, c.S = numbers[c.P], numbers[c.Q], numbers[c.R], numbers[c.S]
	}
	return api.Sketch{Points: len(used), Constraints: chosen}
}
