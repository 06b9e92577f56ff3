package solid

import (
	"iter"

	"workpiece/api"
	"workpiece/rational"
	"workpiece/region"
)

// isPrism reports whether p is valid: it is over a valid region, and ends above where it
// begins.
func isPrism(p api.Prism) bool {
	return region.Valid(p.Region) && areFractions(p.Lo, p.Hi) && rational.Compare(p.Lo, p.Hi) < 0 &&
		p.Feature >= 0 && p.Feature <= api.MaxID
}

// areFractions reports whether all of list are valid.
func areFractions(list ...api.Ratio) bool {
	for _, r := range list {
		if !rational.Valid(r) {
			return false
		}
	}
	return true
}

// samePrism reports whether all fields of p and q are equal.
func samePrism(p, q api.Prism) bool {
	return region.Same(p.Region, q.Region) && p.Lo == q.Lo && p.Hi == q.Hi && p.Cut == q.Cut && p.Feature == q.Feature
}

// prismsAt yields the prisms of the valid solid s that reach the height z, in order.
func prismsAt(s api.Solid, z api.Ratio) iter.Seq[api.Prism] {
	return func(yield func(api.Prism) bool) {
		for _, p := range s.Prisms {
			reaches := rational.Compare(p.Lo, z) <= 0 && rational.Compare(z, p.Hi) <= 0
			if reaches && !yield(p) {
				return
			}
		}
	}
}

// moved returns the valid prism p over a shifted region, and dz higher.
func moved(p api.Prism, shift func(r api.Region) api.Region, dz api.Ratio) api.Prism {
	p.Region = shift(p.Region)
	p.Lo = must(rational.Add(p.Lo, dz))
	p.Hi = must(rational.Add(p.Hi, dz))
	return p
}

// stacked returns list with one more prism, by which the last one becomes higher if it
// is over the same region and ends where the new one begins.
func stacked(list []api.Prism, p api.Prism) []api.Prism {
	if last := len(list) - 1; last >= 0 && list[last].Hi == p.Lo && region.Same(list[last].Region, p.Region) {
		list[last].Hi = p.Hi
		return list
	}
	refuseIf(len(list) >= api.MaxPrisms)
	return append(list, p)
}
