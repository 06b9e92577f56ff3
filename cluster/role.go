package cluster

import "workpiece/api"

// A role says what the constraints of a kind do: how many equations they have,
// whether all lines that are loci by them have one direction, and whether a
// constraint determines a point that it uses, or is a locus of it, when the other
// points that it uses are placed.
type role struct {
	equations  int
	isAxial    bool
	determines func(c api.Constraint, point int) bool
	isLocus    func(c api.Constraint, point int) bool
}

// roles returns the roles of the kinds.
func roles() [api.CEqual + 1]role {
	position := role{equations: 2, determines: always, isLocus: never}
	curve := role{equations: 1, determines: never, isLocus: always}
	axial := role{equations: 1, isAxial: true, determines: never, isLocus: always}
	return [...]role{
		api.CFix:           position,
		api.CDistance:      curve,
		api.CHorizontal:    axial,
		api.CVertical:      axial,
		api.COnLine:        curve,
		api.CPerpendicular: {equations: 1, determines: never, isLocus: once},
		api.CMidpoint:      position,
		api.CEqual:         curve,
	}
}

func always(c api.Constraint, point int) bool { return true }
func never(c api.Constraint, point int) bool  { return false }

// once reports whether only one of P, Q, R and S is the point.
func once(c api.Constraint, point int) bool {
	count := 0
	for _, index := range [...]int{c.P, c.Q, c.R, c.S} {
		if index == point {
			count++
		}
	}
	return count == 1
}
