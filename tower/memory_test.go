package tower_test

import (
	"slices"
	"testing"

	"workpiece/api"
	"workpiece/sample"
	"workpiece/tower"
)

// marker stands where nothing is to be written to.
var marker = api.Ratio{Num: "marker", Den: "marker"}

// guardedTower returns a copy of u with spare capacity everywhere.
func guardedTower(u api.Tower) api.Tower {
	out := api.Tower{Radicands: make([][]api.Ratio, 0, len(u.Radicands)+2)}
	for _, d := range u.Radicands {
		out.Radicands = append(out.Radicands, sample.Guarded(d, marker))
	}
	return out
}

// intactTower reports whether the guarded tower is still a copy of u.
func intactTower(guarded api.Tower, u api.Tower) bool {
	ok := len(guarded.Radicands) == len(u.Radicands)
	for i, d := range guarded.Radicands[:cap(guarded.Radicands)] {
		if i < len(u.Radicands) {
			ok = ok && sample.Intact(d, u.Radicands[i], marker)
		} else {
			ok = ok && d == nil
		}
	}
	return ok
}

// P6.1: no function modifies its arguments or their spare capacity, and nothing
// that is written into a result reaches them.
func TestMemory(t *testing.T) {
	for _, s := range sample.Extensions() {
		u := sample.Tower(s.Text)
		for i, a := range s.Small(6, 8) {
			b := s.Small(6, 9)[i]
			tight, x, y := guardedTower(u), sample.Guarded(a, marker), sample.Guarded(b, marker)
			for name, call := range map[string]func() ([]api.Ratio, api.Errno){
				"FromRatio": func() ([]api.Ratio, api.Errno) { return tower.FromRatio(tight, x[0]) },
				"Embed":     func() ([]api.Ratio, api.Errno) { return tower.Embed(tight, x) },
				"Embed, 1":  func() ([]api.Ratio, api.Errno) { return tower.Embed(tight, x[:1]) },
				"Root":      func() ([]api.Ratio, api.Errno) { return tower.Root(tight) },
				"Add":       func() ([]api.Ratio, api.Errno) { return tower.Add(tight, x, y) },
				"Sub":       func() ([]api.Ratio, api.Errno) { return tower.Sub(tight, x, y) },
				"Mul":       func() ([]api.Ratio, api.Errno) { return tower.Mul(tight, x, y) },
				"Inverse":   func() ([]api.Ratio, api.Errno) { return tower.Inverse(tight, x) },
				"Sign":      func() ([]api.Ratio, api.Errno) { _, err := tower.Sign(tight, x); return nil, err },
				"Compare":   func() ([]api.Ratio, api.Errno) { _, err := tower.Compare(tight, x, y); return nil, err },
				"Enclose":   func() ([]api.Ratio, api.Errno) { _, err := tower.Enclose(tight, x, 5); return nil, err },
				"Rational":  func() ([]api.Ratio, api.Errno) { tower.Rational(tight, x); return nil, api.OK },
				"Valid":     func() ([]api.Ratio, api.Errno) { tower.Valid(tight); return nil, api.OK },
			} {
				first, err := call()
				kept := slices.Clone(first)
				sample.Spoil(first, api.Ratio{})
				second, errAgain := call()
				if !slices.Equal(kept, second) || err != errAgain {
					t.Errorf("%s in %s: %s, and then %s", name, s.Text, text(kept), text(second))
				}
				if !intactTower(tight, u) || !sample.Intact(x, a, marker) || !sample.Intact(y, b, marker) {
					t.Errorf("%s in %s modifies its arguments", name, s.Text)
				}
			}
		}
	}
}

// P6.1: the radicands of an extended tower share no memory with each other or with
// the arguments.
func TestExtendMemory(t *testing.T) {
	for _, s := range sample.Extensions() {
		u := sample.Tower(s.Text)
		for _, d := range s.Small(6, 10) {
			want, err := tower.Extend(u, d)
			if err != api.OK {
				continue
			}
			for i := range want.Radicands {
				tight, x := guardedTower(u), sample.Guarded(d, marker)
				got, err := tower.Extend(tight, x)
				sample.Spoil(got.Radicands[i], api.Ratio{})
				clear(got.Radicands[len(got.Radicands):cap(got.Radicands)])
				for k, radicand := range got.Radicands {
					if k != i && text(radicand) != text(want.Radicands[k]) || err != api.OK {
						t.Errorf("radicand %d of %s changes with radicand %d", k, towerText(want), i)
					}
				}
				got.Radicands[0] = nil
				if !intactTower(tight, u) || !sample.Intact(x, d, marker) {
					t.Errorf("the arguments of Extend change with radicand %d of %s", i, towerText(want))
				}
			}
		}
	}
}
