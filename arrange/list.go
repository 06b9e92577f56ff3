package arrange

import (
	"iter"
	"slices"
)

// each returns what change makes of each item of list.
func each[From any, To any](list []From, change func(item From) To) []To {
	var out []To
	for _, item := range list {
		out = append(out, change(item))
	}
	return out
}

// sorted returns the items in ascending order; of equal ones, only the first one.
func sorted[T any](items iter.Seq[T], compare func(left, right T) int) []T {
	var out []T
	for item := range items {
		if at, known := slices.BinarySearchFunc(out, item, compare); !known {
			out = slices.Insert(out, at, item)
		}
	}
	return out
}
