package integer

const (
	// width is the number of digits of a group.
	width = 4
	base  = 10000

	// wordGroups is a number of groups that fit into a word together.
	wordGroups = 4
)

// A natural is a number that is not negative, in groups of four digits. The
// lowest group is the first one. The highest group is not 0, so that 0 has none.
type natural []uint32

// fold adds the items to start with step, one after the other.
func fold[T, S any](items []T, start S, step func(sum S, place int, item T) S) S {
	sum := start
	for place, item := range items {
		sum = step(sum, place, item)
	}
	return sum
}

// ofDigits returns the number with the given digits.
func ofDigits(digits string) natural {
	a := make(natural, 0, (len(digits)+width-1)/width)
	for end := len(digits); end > 0; end -= width {
		group := []byte(digits[max(end-width, 0):end])
		a = append(a, fold(group, 0, func(sum uint32, _ int, digit byte) uint32 {
			return 10*sum + uint32(digit-'0')
		}))
	}
	return a.trimmed()
}

// ofWord returns the number w.
func ofWord(w uint64) natural {
	var a natural
	for ; w > 0; w /= base {
		a = append(a, uint32(w%base))
	}
	return a
}

// word returns the number a, which may begin with groups of 0, and must fit into
// a word.
func (a natural) word() uint64 {
	w := uint64(0)
	for i := len(a) - 1; i >= 0; i-- {
		w = base*w + uint64(a[i])
	}
	return w
}

// digits returns the digits of a, which are none if it is 0.
func (a natural) digits() string {
	out := make([]byte, width*len(a))
	end := len(out)
	for _, group := range a {
		for range width {
			end--
			out[end] = byte('0' + group%10)
			group /= 10
		}
	}
	for len(out) > 0 && out[0] == '0' {
		out = out[1:]
	}
	return string(out)
}

// trimmed returns a without its highest groups as far as they are 0.
func (a natural) trimmed() natural {
	for len(a) > 0 && a[len(a)-1] == 0 {
		a = a[:len(a)-1]
	}
	return a
}

// shifted returns a times a power of the base.
func (a natural) shifted(power int) natural { return append(make(natural, power), a...) }

func (a natural) compare(b natural) int {
	if len(a) != len(b) {
		return order(len(a), len(b))
	}
	for i := len(a) - 1; i >= 0; i-- {
		if a[i] != b[i] {
			return order(a[i], b[i])
		}
	}
	return 0
}

// order returns -1 if x is less than y, and otherwise 1.
func order[T int | uint32](x, y T) int {
	if x < y {
		return -1
	}
	return 1
}

func (a natural) plus(b natural) natural {
	sum := make(natural, max(len(a), len(b))+1)
	copy(sum, a)
	sum.add(b, 1)
	return sum.trimmed()
}

// minus returns a minus b, which must not be greater.
func (a natural) minus(b natural) natural {
	rest := a.shifted(0)
	rest.take(b, 1)
	return rest.trimmed()
}

func (a natural) times(b natural) natural {
	product := fold(b, make(natural, len(a)+len(b)), func(sum natural, place int, group uint32) natural {
		sum[place:].add(a, group)
		return sum
	})
	return product.trimmed()
}

// add adds the product of term and factor to sum, which must have the room.
func (sum natural) add(term natural, factor uint32) {
	carry := uint32(0)
	for i := 0; i < len(term) || carry > 0; i++ {
		if i < len(term) {
			carry += term[i] * factor
		}
		carry += sum[i]
		sum[i] = carry % base
		carry /= base
	}
}

// take subtracts the product of term and factor from rest, which must not be
// less. It does not trim rest.
func (rest natural) take(term natural, factor uint32) {
	carry := uint32(0)
	for i := 0; i < len(term) || carry > 0; i++ {
		if i < len(term) {
			carry += term[i] * factor
		}
		group := carry % base
		carry /= base
		if rest[i] < group {
			rest[i] += base
			carry++
		}
		rest[i] -= group
	}
}
