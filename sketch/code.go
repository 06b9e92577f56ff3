package sketch

import (
	"workpiece/api"
	"workpiece/wire"
)

// encoded returns the encoding of the valid sketch s.
func encoded(s api.Sketch) string {
	code := must(wire.PutInt(s.Points)) + must(wire.PutInt(len(s.Constraints)))
	for _, c := range s.Constraints {
		r := rowOf(c)
		code += r.encoded()
	}
	return code
}

// encoded returns the encoding of the valid constraint r.
func (r *row) encoded() string {
	code := must(wire.PutInt(r.Kind))
	for _, index := range r.indices() {
		code += must(wire.PutInt(*index))
	}
	for _, value := range r.fractions() {
		code += must(wire.PutString(value.Num)) + must(wire.PutString(value.Den))
	}
	return code
}

// A reader reads a text from the front.
type reader struct {
	text string
	at   int
}

// next returns what decode finds where r is, and moves r behind it.
func next[T any](r *reader, decode func(s string, at int) (T, int, api.Errno)) T {
	value, end, err := decode(r.text, r.at)
	if err != api.OK {
		panic(api.ErrWire)
	}
	r.at = end
	return value
}

// sketch reads an encoding to its end.
func (r *reader) sketch() api.Sketch {
	s := api.Sketch{Points: next(r, wire.Int)}
	count := next(r, wire.Int)
	refuseIf(count < 0 || count > api.MaxConstraints)
	for range count {
		s.Constraints = append(s.Constraints, r.constraint())
	}
	if r.at < len(r.text) {
		panic(api.ErrWire)
	}
	return s
}

// constraint reads the encoding of a constraint, whose fields may have any values.
func (r *reader) constraint() api.Constraint {
	c := rowOf(api.Constraint{Kind: next(r, wire.Int)})
	refuseIf(!c.isKnown())
	for _, index := range c.indices() {
		*index = next(r, wire.Int)
	}
	for _, value := range c.fractions() {
		value.Num = next(r, wire.String)
		value.Den = next(r, wire.String)
	}
	return c.Constraint
}
