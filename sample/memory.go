package sample

import "slices"

// spare is how much spare capacity a guarded slice has.
const spare = 20

// Guarded returns a copy of list with spare capacity, in which marker stands.
func Guarded[T any](list []T, marker T) []T {
	out := slices.Repeat([]T{marker}, len(list)+spare)
	copy(out, list)
	return out[:len(list)]
}

// Intact reports whether the guarded slice is still a copy of list.
func Intact[T comparable](guarded []T, list []T, marker T) bool {
	return slices.Equal(guarded[:cap(guarded)], Guarded(list, marker)[:len(list)+spare])
}

// Spoil overwrites list and its spare capacity.
func Spoil[T any](list []T, marker T) {
	for i := range list[:cap(list)] {
		list[:cap(list)][i] = marker
	}
}
