package sample

import (
	"strings"

	"workpiece/api"
	"workpiece/tower"
)

// A Refusal is what the reference for a layer panics with if there is no result, with
// the reason.
type Refusal string

// Needed returns value, which a function of a lower layer has returned. It panics if
// there is none.
func Needed[T any](value T, err api.Errno) T {
	if err != api.OK {
		panic(Refusal("too large"))
	}
	return value
}

// Calculated returns what calculate returns, or the outcome of a call that returns err
// if it panics with a Refusal.
func Calculated(err api.Errno, calculate func() string) (outcome string) {
	defer func() {
		switch cause := recover().(type) {
		case nil:
		case Refusal:
			outcome = Failure(err)
		default:
			panic(cause)
		}
	}()
	return calculate()
}

// A Scope is a tower, and the elements that have names in formulas.
type Scope struct {
	Tower  api.Tower
	Values map[string][]api.Ratio
}

// ScopeOf returns a scope without names.
func ScopeOf(t api.Tower) Scope { return Scope{t, map[string][]api.Ratio{}} }

// Let gives the values of formulas to names, in order.
func (s Scope) Let(names string, formulas ...string) {
	for i, name := range strings.Fields(names) {
		s.Values[name] = s.Value(formulas[i])
	}
}

// Sign returns the sign of the element with a name.
func (s Scope) Sign(name string) int { return Needed(tower.Sign(s.Tower, s.Values[name])) }

// Constant returns the element whose value is the fraction with a text.
func (s Scope) Constant(word string) []api.Ratio {
	return Needed(tower.FromRatio(s.Tower, Number(word)))
}

// Value returns the value of a formula, computed from the left to the right, products
// before sums.
func (s Scope) Value(formula string) []api.Ratio {
	rest := words(formula)
	value := s.sum(&rest)
	if len(rest) > 0 {
		panic("not a formula: " + formula)
	}
	return value
}

// words returns the names, integers and signs of a formula. A name begins with a letter,
// and can end in digits and primes.
func words(formula string) []string {
	var out []string
	isName, isJoined := false, false
	for _, r := range formula {
		isLetter := r >= 'A' && r <= 'Z' || r >= 'a' && r <= 'z'
		isDigit := r >= '0' && r <= '9'
		isPart := isLetter || isDigit || r == '\''
		switch {
		case r == ' ':
		case isJoined && isPart && (isName || isDigit):
			out[len(out)-1] += string(r)
		default:
			out = append(out, string(r))
			isName = isLetter
		}
		isJoined = isPart
	}
	return out
}

// next removes the first word of rest if it is among the given ones, and returns it.
func next(rest *[]string, among string) string {
	if len(*rest) == 0 || !strings.Contains(among, (*rest)[0]) {
		return ""
	}
	word := (*rest)[0]
	*rest = (*rest)[1:]
	return word
}

func (s Scope) sum(rest *[]string) []api.Ratio {
	value := s.product(rest)
	for {
		switch next(rest, "+-") {
		case "+":
			value = Needed(tower.Add(s.Tower, value, s.product(rest)))
		case "-":
			value = Needed(tower.Sub(s.Tower, value, s.product(rest)))
		default:
			return value
		}
	}
}

func (s Scope) product(rest *[]string) []api.Ratio {
	value := s.factor(rest)
	for {
		switch next(rest, "*/^") {
		case "*":
			value = Needed(tower.Mul(s.Tower, value, s.factor(rest)))
		case "/":
			value = Needed(tower.Mul(s.Tower, value, Needed(tower.Inverse(s.Tower, s.factor(rest)))))
		case "^":
			next(rest, "2")
			value = Needed(tower.Mul(s.Tower, value, value))
		default:
			return value
		}
	}
}

func (s Scope) factor(rest *[]string) []api.Ratio {
	if next(rest, "-") != "" {
		return Needed(tower.Sub(s.Tower, s.Constant("0"), s.factor(rest)))
	}
	if next(rest, "(") != "" {
		value := s.sum(rest)
		next(rest, ")")
		return value
	}
	word := (*rest)[0]
	*rest = (*rest)[1:]
	if value, ok := s.Values[word]; ok {
		return value
	}
	return s.Constant(word)
}
