package solid

import (
	"workpiece/api"
	"workpiece/region"
	"workpiece/wire"
)

// texts returns the fields of the ends of p that are encoded as strings, in order.
func texts(p *api.Prism) [4]*string {
	return [...]*string{&p.Lo.Num, &p.Lo.Den, &p.Hi.Num, &p.Hi.Den}
}

// encoded returns the encoding of the valid solid s.
func encoded(s api.Solid) string {
	out := must(wire.PutInt(len(s.Prisms)))
	for _, p := range s.Prisms {
		// No region is so large that its encoding could not be encoded as a string.
		out += must(wire.PutString(must(region.Encode(p.Region))))
		for _, text := range texts(&p) {
			out += must(wire.PutString(*text))
		}
		cut := 0
		if p.Cut {
			cut = 1
		}
		out += must(wire.PutInt(cut)) + must(wire.PutInt(p.Feature))
	}
	return out
}

// A reader reads a text from the front.
type reader struct {
	text string
	at   int
}

// next returns what decode finds where r is, and moves r behind it.
func next[T any](r *reader, decode func(s string, at int) (T, int, api.Errno)) T {
	value, end, err := decode(r.text, r.at)
	brokenIf(err != api.OK)
	r.at = end
	return value
}

// brokenIf ends the decoding if condition holds, since there is no encoding.
func brokenIf(condition bool) {
	if condition {
		panic(errBroken)
	}
}

// solid reads an encoding to its end.
func (r *reader) solid() api.Solid {
	count := next(r, wire.Int)
	refuseIf(count < 0 || count > api.MaxPrisms)
	var out api.Solid
	for range count {
		out.Prisms = append(out.Prisms, r.prism())
	}
	brokenIf(r.at < len(r.text))
	return out
}

// prism reads the encoding of a prism, whose ends and Feature may have any values.
func (r *reader) prism() api.Prism {
	var p api.Prism
	code := next(r, wire.String)
	for _, text := range texts(&p) {
		*text = next(r, wire.String)
	}
	cut := next(r, wire.Int)
	p.Feature = next(r, wire.Int)
	p.Region = must(region.Decode(code))
	refuseIf(cut != 0 && cut != 1)
	p.Cut = cut == 1
	return p
}
