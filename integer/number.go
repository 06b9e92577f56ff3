package integer

// A number is an integer of any size. Zero is not negative.
type number struct {
	negative bool
	size     natural
}

// signed returns the number with the given sign and size; the sign of 0 does not
// matter.
func signed(negative bool, size natural) number {
	return number{negative && len(size) > 0, size}
}

// cutSign returns whether s begins with a sign, and what follows it.
func cutSign(s string) (bool, string) {
	if len(s) > 0 && s[0] == '-' {
		return true, s[1:]
	}
	return false, s
}

// parse returns the number s, and whether it is a valid integer.
func parse(s string) (number, bool) {
	if !Valid(s) {
		return number{}, false
	}
	negative, digits := cutSign(s)
	return number{negative, ofDigits(digits)}, true
}

// parseBoth returns the numbers a and b, and whether they are valid integers.
func parseBoth(a string, b string) (number, number, bool) {
	x, okA := parse(a)
	y, okB := parse(b)
	return x, y, okA && okB
}

// text returns the integer n.
func (n number) text() string {
	if n.isZero() {
		return "0"
	}
	if n.negative {
		return "-" + n.size.digits()
	}
	return n.size.digits()
}

func (n number) isZero() bool { return len(n.size) == 0 }

func (n number) negated() number { return signed(!n.negative, n.size) }

func (n number) compare(m number) int {
	switch {
	case n.negative && m.negative:
		return m.size.compare(n.size)
	case n.negative:
		return -1
	case m.negative:
		return 1
	}
	return n.size.compare(m.size)
}

func (n number) plus(m number) number {
	if n.negative == m.negative {
		return number{n.negative, n.size.plus(m.size)}
	}
	if n.size.compare(m.size) < 0 {
		n, m = m, n
	}
	return signed(n.negative, n.size.minus(m.size))
}

func (n number) minus(m number) number { return n.plus(m.negated()) }

func (n number) times(m number) number {
	return signed(n.negative != m.negative, n.size.times(m.size))
}

func (n number) gcd(m number) number { return number{size: n.size.gcd(m.size)} }

// dividedBy returns the quotient and the remainder of n by m, which must not be
// 0; the remainder is not negative.
func (n number) dividedBy(m number) (number, number) {
	quotient, rest := n.size.dividedBy(m.size)
	if n.negative && len(rest) > 0 {
		quotient, rest = quotient.plus(natural{1}), m.size.minus(rest)
	}
	return signed(n.negative != m.negative, quotient), number{size: rest}
}
