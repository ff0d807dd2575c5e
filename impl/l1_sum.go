package impl

const MaxText = 200

const modulus = 255

// The modulus times each power of two up to the one that is more than half of
// what remainder is ever asked for (254*MaxText and two more sums).
const (
	modulus1 = modulus << iota
	modulus2
	modulus4
	modulus8
	modulus16
	modulus32
	modulus64
	modulus128
)

var moduli = [...]int{
	modulus128, modulus64, modulus32, modulus16,
	modulus8, modulus4, modulus2, modulus1,
}

// remainder takes a number in 0..2*modulus128-1: each multiple then fits in at
// most once, since the ones ahead have left less than twice of it.
func remainder(n int) int {
	k := 0
next:
	if n >= moduli[k] {
		n -= moduli[k]
	}
	k++
	if k < len(moduli) {
		goto next
	}
	return n
}

func isText(s string) bool {
	return len(s) <= MaxText
}

func hasPlace(s string, at int) bool {
	return isText(s) && at >= 0 && at < len(s)
}

// hasPair does not ask for at+1, which goes round at the greatest int.
func hasPair(s string, at int) bool {
	return isText(s) && at >= 0 && at < len(s)-1
}

func isSum(n int) bool {
	return n >= 0 && n < modulus
}

func sumBytes(l []byte) (int, int) {
	a, b := 0, 0
	for _, x := range l {
		a = remainder(a + int(x))
		// a is added once for each byte from here on, so that each byte is
		// counted as often as its place asks for.
		b = remainder(b + a)
	}
	return a, b
}

func SumOf(s string) (int, int, bool) {
	if !isText(s) {
		return 0, 0, false
	}
	a, b := sumBytes([]byte(s))
	return a, b, true
}

func AddSums(a int, b int, c int, d int, long int) (int, int, bool) {
	if !isSum(a) || !isSum(b) || !isSum(c) || !isSum(d) {
		return 0, 0, false
	}
	if long < 0 || long > MaxText {
		return 0, 0, false
	}
	// Each byte of the first text is counted once more for each byte behind it.
	return remainder(a + c), remainder(b + a*long + d), true
}

func FillSum(s string, at int) (string, bool) {
	if !hasPair(s, at) {
		return "", false
	}
	l := []byte(s)
	l[at], l[at+1] = 0, 0
	a, b := sumBytes(l)
	// Both bytes together take away a, counted as often as the second one is;
	// the first one is counted once more, and that once has to take away what
	// is left of b.
	first := remainder(a*(len(l)-at-1) + modulus - b)
	l[at] = byte(first)
	l[at+1] = byte(remainder(2*modulus - a - first))
	return string(l), true
}

func IsWhole(s string) (bool, bool) {
	a, b, ok := SumOf(s)
	return ok && a == 0 && b == 0, ok
}

func SwapTwo(s string, i int) (string, bool) {
	if !hasPair(s, i) {
		return "", false
	}
	l := []byte(s)
	l[i], l[i+1] = l[i+1], l[i]
	return string(l), true
}

func MendByte(s string, at int) (string, bool) {
	if !hasPlace(s, at) {
		return "", false
	}
	l := []byte(s)
	l[at] = 0
	a, _ := sumBytes(l)
	l[at] = byte(remainder(modulus - a))
	return string(l), true
}

func WeightAt(s string, k int) (int, bool) {
	if !hasPlace(s, k) {
		return 0, false
	}
	return len(s) - k, true
}
