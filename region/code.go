package region

import (
	"workpiece/api"
	"workpiece/wire"
)

// texts returns the fields of c that are encoded as strings, in order.
func texts(c *api.Curve) [6]*string {
	return [...]*string{&c.A.Num, &c.A.Den, &c.B.Num, &c.B.Den, &c.C.Num, &c.C.Den}
}

// numbers returns the fields of n, in order.
func numbers(n *api.RegionNode) [4]*int {
	return [...]*int{&n.Op, &n.Curve, &n.Left, &n.Right}
}

// encoded returns the encoding of the valid region r.
func encoded(r api.Region) string {
	out := ""
	// No number and no string of a valid region is too long to be encoded.
	put := func(code string, _ api.Errno) { out += code }
	put(wire.PutInt(len(r.Curves)))
	for _, c := range r.Curves {
		put(wire.PutInt(c.Kind))
		for _, text := range texts(&c) {
			put(wire.PutString(*text))
		}
	}
	put(wire.PutInt(len(r.Nodes)))
	for _, n := range r.Nodes {
		for _, number := range numbers(&n) {
			put(wire.PutInt(*number))
		}
	}
	return out
}

// A reader reads a text from the front, up to the first error.
type reader struct {
	text string
	at   int
	err  api.Errno
}

// next returns what decode finds where r is, and moves r behind it. After an error it
// returns a zero value.
func next[T any](r *reader, decode func(s string, at int) (T, int, api.Errno)) T {
	if r.err != api.OK {
		var none T
		return none
	}
	value, end, err := decode(r.text, r.at)
	r.at = end
	r.refuseIf(err != api.OK, api.ErrWire)
	return value
}

// refuseIf notes err if condition holds, unless there was an error before.
func (r *reader) refuseIf(condition bool, err api.Errno) {
	if condition && r.err == api.OK {
		r.err = err
	}
}

// count reads the number of parts, of which there are at most so many.
func (r *reader) count(most int) int {
	n := next(r, wire.Int)
	if n < 0 || n > most {
		r.refuseIf(true, api.ErrRegion)
		return 0
	}
	return n
}

// region reads an encoding to its end.
func (r *reader) region() api.Region {
	var out api.Region
	for range r.count(api.MaxCurves) {
		c := api.Curve{Kind: next(r, wire.Int)}
		for _, text := range texts(&c) {
			*text = next(r, wire.String)
		}
		out.Curves = append(out.Curves, c)
	}
	for range r.count(api.MaxNodes) {
		var n api.RegionNode
		for _, number := range numbers(&n) {
			*number = next(r, wire.Int)
		}
		out.Nodes = append(out.Nodes, n)
	}
	r.refuseIf(r.at < len(r.text), api.ErrWire)
	r.refuseIf(r.err == api.OK && !Valid(out), api.ErrRegion)
	return out
}
