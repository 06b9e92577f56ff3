package sample

import "slices"

// spare is how much spare capacity a guarded slice has.
const spare = 20

// Guarded returns a copy of list with spare capacity, in which marker stands.
func Guarded[T any](list []T, marker T) []T {
	out := slices.Repeat([]T{marker}, len(list)+spare)
	copy(out, list)
	return out[:len(list)]
}

// Intact reports whether the guarded slice is still a copy of list.
func Intact[T comparable](guarded []T, list []T, marker T) bool {
	return isIntact(guarded, list, marker, func(a, b T) bool { return a == b })
}

// isIntact is Intact for items that are compared by a function.
func isIntact[T any](guarded []T, list []T, marker T, same func(a, b T) bool) bool {
	return slices.EqualFunc(guarded[:cap(guarded)], Guarded(list, marker)[:len(list)+spare], same)
}

// Spoil overwrites list and its spare capacity.
func Spoil[T any](list []T, marker T) {
	for i := range list[:cap(list)] {
		list[:cap(list)][i] = marker
	}
}
