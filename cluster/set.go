package cluster

// A set is a set of indices of points or constraints, which are less than 64. The
// bit of an index says whether it is in the set.
type set uint64

// setOf returns the set of the indices in list.
func setOf(list ...int) set {
	var s set
	for _, i := range list {
		s |= 1 << i
	}
	return s
}

func (s set) has(i int) bool   { return s>>i&1 == 1 }
func (s set) lacks(i int) bool { return !s.has(i) }

// below returns the indices less than n for which keep holds, in ascending order.
func below(n int, keep func(i int) bool) []int {
	var out []int
	for i := range n {
		if keep(i) {
			out = append(out, i)
		}
	}
	return out
}
