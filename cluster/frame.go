package cluster

import (
	"workpiece/api"
	"workpiece/sketch"
)

// A tie is a constraint with the role of its kind, and the points that it uses.
type tie struct {
	role
	api.Constraint
	points set
}

// places reports whether t determines the point.
func (t tie) places(point int) bool { return t.determines(t.Constraint, point) }

// crosses reports whether t and other are loci of the point that are not parallel.
func (t tie) crosses(other tie, point int) bool {
	isParallel := t.isAxial && t.Kind == other.Kind
	return !isParallel && t.isLocus(t.Constraint, point) && other.isLocus(other.Constraint, point)
}

// A frame is a valid sketch, made ready for constructions.
type frame struct {
	points int
	ties   []tie
}

// frameOf returns the frame of s, and false if s is not valid.
func frameOf(s api.Sketch) (frame, bool) {
	if !sketch.Valid(s) {
		return frame{}, false
	}
	f, known := frame{points: s.Points}, roles()
	for _, c := range s.Constraints {
		f.ties = append(f.ties, tie{known[c.Kind], c, setOf(sketch.Uses(c)...)})
	}
	return f, true
}

// linked returns the points that are linked with the given one by constraints.
func (f frame) linked(point int) set {
	group := setOf(point)
	for before := set(0); before != group; {
		before = group
		for _, t := range f.ties {
			if t.points&group != 0 {
				group |= t.points
			}
		}
	}
	return group
}
