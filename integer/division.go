package integer

// leading is the number of groups of a divisor by which a group of a quotient is
// estimated. With one group more, they fit into a word.
const leading = wordGroups - 1

// dividedBy returns the quotient and the remainder of a by b, which must not be
// 0.
func (a natural) dividedBy(b natural) (natural, natural) {
	quotient := make(natural, max(len(a)-len(b)+1, 0))
	rest := a.shifted(0)
	for place := len(quotient) - 1; place >= 0; place-- {
		quotient[place] = rest.reduce(b, place)
	}
	return quotient.trimmed(), rest.trimmed()
}

// reduce subtracts from the groups of rest from place on the greatest multiple of
// the divisor, and returns the factor. The higher places must have been reduced.
func (rest natural) reduce(divisor natural, place int) uint32 {
	window := rest[place:min(place+len(divisor)+1, len(rest))]
	factor := window.factor(divisor)
	window.take(divisor, factor)
	return factor
}

// factor returns how many times a contains the divisor, which must be less than
// the base; the highest group of a may be 0. It searches from an estimate by the
// leading groups: what is cut off leaves a less than above + 1, and the divisor
// less than below + 1, so that hardly anything is left to search.
func (a natural) factor(divisor natural) uint32 {
	cut := max(len(divisor)-leading, 0)
	above, below := a[cut:].word(), divisor[cut:].word()
	low, high := above/(below+1), above/below
	if cut == 0 {
		low = high
	}
	multiple := divisor.times
	return uint32(greatest(low, high, func(factor uint64) bool {
		return multiple(natural{uint32(factor)}).compare(a.trimmed()) <= 0
	}))
}

// greatest returns the greatest number from low to high that fits. low must fit,
// and with a number each one below it.
func greatest(low uint64, high uint64, fits func(uint64) bool) uint64 {
	for low < high {
		middle := high - (high-low)/2
		if fits(middle) {
			low = middle
		} else {
			high = middle - 1
		}
	}
	return low
}

// gcd returns the greatest common divisor of a and b.
func (a natural) gcd(b natural) natural {
	x, y := a.shifted(0), b.shifted(0)
	for len(y) > 0 {
		if len(x) <= wordGroups && len(y) <= wordGroups {
			return ofWord(gcdOfWords(x.word(), y.word()))
		}
		for place := len(x) - len(y); place >= 0; place-- {
			x.reduce(y, place)
		}
		x, y = y, x.trimmed()
	}
	return x
}

func gcdOfWords(x, y uint64) uint64 {
	for y > 0 {
		x, y = y, x%y
	}
	return x
}

// root returns the greatest number whose square is not greater than a.
func (a natural) root() natural {
	// An even number of groups is cut off, which are half as many of the root.
	cut := max(len(a)-leading, 0) / 2 * 2
	above := a[cut:].word()
	estimate := greatest(0, base*base-1, func(x uint64) bool { return x*x <= above })
	if cut == 0 {
		return ofWord(estimate)
	}
	// Newton's method falls from above the root, until it is there.
	root := ofWord(estimate + 1).shifted(cut / 2)
	for {
		quotient, _ := a.dividedBy(root)
		next, _ := root.plus(quotient).dividedBy(natural{2})
		if next.compare(root) >= 0 {
			return root
		}
		root = next
	}
}
