package cluster

import (
	"iter"

	"workpiece/api"
)

// single is the Second of a step whose First determines the point.
const single = -1

// placedBy returns the points that the steps place.
func placedBy(steps []api.Step) set {
	var placed set
	for _, step := range steps {
		placed |= setOf(step.Point)
	}
	return placed
}

// possible returns the steps that can follow the given ones. The first one is that of
// Plan: the points are in ascending order, and so are the constraints that place one.
func (f frame) possible(steps []api.Step) iter.Seq[api.Step] {
	placed := placedBy(steps)
	return func(yield func(api.Step) bool) {
		for _, point := range below(f.points, placed.lacks) {
			for step := range f.placing(point, placed) {
				if !yield(step) {
					return
				}
			}
		}
	}
}

// placing returns the steps that can place the point: those by a constraint that
// determines it, then those by two loci.
func (f frame) placing(point int, placed set) iter.Seq[api.Step] {
	isNear := func(i int) bool { return f.ties[i].points&^placed == setOf(point) }
	return func(yield func(api.Step) bool) {
		near := below(len(f.ties), isNear)
		for _, first := range near {
			if f.ties[first].places(point) && !yield(api.Step{Point: point, First: first, Second: single}) {
				return
			}
		}
		for k, first := range near {
			for _, second := range near[k+1:] {
				if f.ties[first].crosses(f.ties[second], point) && !yield(api.Step{Point: point, First: first, Second: second}) {
					return
				}
			}
		}
	}
}

// next returns the first step that can follow the given ones, and false if there is
// none.
func (f frame) next(steps []api.Step) (api.Step, bool) {
	for step := range f.possible(steps) {
		return step, true
	}
	return api.Step{}, false
}

// allows reports whether step can follow the given ones.
func (f frame) allows(steps []api.Step, step api.Step) bool {
	for other := range f.possible(steps) {
		if other == step {
			return true
		}
	}
	return false
}

// completed returns the steps with the constraints that are left to be checked, and
// the points that are left.
func (f frame) completed(steps []api.Step) api.Construction {
	placed := placedBy(steps)
	var used set
	for _, step := range steps {
		used |= setOf(step.First)
		if step.Second != single {
			used |= setOf(step.Second)
		}
	}
	isCheck := func(i int) bool { return used.lacks(i) && f.ties[i].points&^placed == 0 }
	return api.Construction{Steps: steps, Checks: below(len(f.ties), isCheck), Unplaced: below(f.points, placed.lacks)}
}

// plan returns the construction that takes the first possible step each time.
func (f frame) plan() api.Construction {
	var steps []api.Step
	for step, ok := f.next(steps); ok; step, ok = f.next(steps) {
		steps = append(steps, step)
	}
	return f.completed(steps)
}
