package tests

import (
	"math"
	"math/rand"
	"strings"
	"testing"

	"loop.example/g00575/impl"
)

// sumsByWords is the document's sentence, word by word, without any limit.
func sumsByWords(s string) (int, int) {
	a, b := 0, 0
	for i := 0; i < len(s); i++ {
		a += int(s[i])
		b += int(s[i]) * (len(s) - i)
	}
	return a % 255, b % 255
}

func randomText(r *rand.Rand, long int) string {
	l := make([]byte, long)
	for i := range l {
		l[i] = byte(r.Intn(256))
	}
	return string(l)
}

// sampleTexts has texts of each length up to MaxText: of any bytes, and of the
// bytes at which the sums turn over.
func sampleTexts() []string {
	r := rand.New(rand.NewSource(1))
	var l []string
	for long := 0; long <= impl.MaxText; long++ {
		l = append(l, randomText(r, long))
		for _, x := range []string{"\x00", "\x01", "\x7f", "\x80", "\xfe", "\xff"} {
			l = append(l, strings.Repeat(x, long))
		}
	}
	return l
}

func mustSum(t *testing.T, s string) (int, int) {
	t.Helper()
	a, b, ok := impl.SumOf(s)
	if !ok {
		t.Fatalf("SumOf of %d bytes: false", len(s))
	}
	return a, b
}

// sameBut says whether g is s but for the many places from at on.
func sameBut(s string, g string, at int, many int) bool {
	return len(s) == len(g) && s[:at] == g[:at] && s[at+many:] == g[at+many:]
}

func TestMaxText(t *testing.T) {
	if impl.MaxText != 200 {
		t.Error(impl.MaxText)
	}
}

func TestSumOfByHand(t *testing.T) {
	for _, c := range []struct {
		s    string
		a, b int
	}{
		{"", 0, 0},
		{"\x00", 0, 0},
		{"\xff", 0, 0},
		{"\x01", 1, 1},
		{"\xfe", 254, 254},
		{"\x01\x02", 3, 4},
		{"\x02\x01", 3, 5},
		{"\x00\x01", 1, 1},
		{"\x01\x00", 1, 2},
		{"\xfe\x01", 0, 254},
		{"\x01\xfe", 0, 1},
		{"\xff\xff\xff", 0, 0},
		{"\x80\x80", 1, 129},
		{"abc", 39, 76},
		{"é", 109, 49},
	} {
		if a, b, ok := impl.SumOf(c.s); a != c.a || b != c.b || !ok {
			t.Errorf("SumOf(%q) = %d, %d, %t; asked for %d, %d, true", c.s, a, b, ok, c.a, c.b)
		}
	}
}

func TestSumOfByWords(t *testing.T) {
	for _, s := range sampleTexts() {
		wantA, wantB := sumsByWords(s)
		if a, b, ok := impl.SumOf(s); a != wantA || b != wantB || !ok {
			t.Fatalf("SumOf(%q) = %d, %d, %t; asked for %d, %d, true", s, a, b, ok, wantA, wantB)
		}
	}
}

func TestSumOfEachByte(t *testing.T) {
	for x := 0; x < 256; x++ {
		for long := 1; long <= impl.MaxText; long += 199 {
			s := string([]byte{byte(x)}) + strings.Repeat("\x00", long-1)
			a, b, ok := impl.SumOf(s)
			if a != x%255 || b != x*long%255 || !ok {
				t.Errorf("byte %d ahead of %d noughts: %d, %d, %t", x, long-1, a, b, ok)
			}
		}
	}
}

func TestSumSeesEachByte(t *testing.T) {
	r := rand.New(rand.NewSource(2))
	for _, long := range []int{1, 2, 37, impl.MaxText} {
		s := randomText(r, long)
		a, _ := mustSum(t, s)
		for at := 0; at < long; at++ {
			for x := 0; x < 256; x++ {
				g := s[:at] + string([]byte{byte(x)}) + s[at+1:]
				c, _ := mustSum(t, g)
				if alike := x%255 == int(s[at])%255; (c == a) != alike {
					t.Fatalf("byte %d for %d at %d of %d: a was %d and is %d", x, s[at], at, long, a, c)
				}
			}
		}
	}
}

func TestSumSeesPlaces(t *testing.T) {
	for _, s := range sampleTexts() {
		a, b := mustSum(t, s)
		for i := 0; i+1 < len(s); i++ {
			g, ok := impl.SwapTwo(s, i)
			if !ok {
				t.Fatalf("SwapTwo(%q, %d): false", s, i)
			}
			c, d := mustSum(t, g)
			if c != a {
				t.Fatalf("SwapTwo(%q, %d) changes a", s, i)
			}
			if alike := s[i]%255 == s[i+1]%255; (d == b) != alike {
				t.Fatalf("SwapTwo(%q, %d): b was %d and is %d", s, i, b, d)
			}
		}
	}
}

func TestByteOf255WeighsAsNought(t *testing.T) {
	r := rand.New(rand.NewSource(3))
	for long := 0; long <= impl.MaxText; long++ {
		s := randomText(r, long)
		for i := 0; i < long; i += 3 {
			s = s[:i] + "\xff" + s[i+1:]
		}
		a, b := mustSum(t, s)
		c, d := mustSum(t, strings.ReplaceAll(s, "\xff", "\x00"))
		if a != c || b != d {
			t.Fatalf("%q: %d, %d with bytes of 255, %d, %d with noughts", s, a, b, c, d)
		}
	}
}

func TestAddSumsOfTwoTexts(t *testing.T) {
	for _, s := range sampleTexts() {
		wantA, wantB := mustSum(t, s)
		for at := 0; at <= len(s); at++ {
			a, b := mustSum(t, s[:at])
			c, d := mustSum(t, s[at:])
			gotA, gotB, ok := impl.AddSums(a, b, c, d, len(s)-at)
			if gotA != wantA || gotB != wantB || !ok {
				t.Fatalf("%q cut at %d: %d, %d, %t; asked for %d, %d, true", s, at, gotA, gotB, ok, wantA, wantB)
			}
		}
	}
}

// Two texts that are together longer than MaxText have sums all the same.
func TestAddSumsOfTwoLongTexts(t *testing.T) {
	r := rand.New(rand.NewSource(4))
	for i := 0; i < 200; i++ {
		s, g := randomText(r, impl.MaxText-i%7), randomText(r, impl.MaxText-i%5)
		a, b := mustSum(t, s)
		c, d := mustSum(t, g)
		wantA, wantB := sumsByWords(s + g)
		gotA, gotB, ok := impl.AddSums(a, b, c, d, len(g))
		if gotA != wantA || gotB != wantB || !ok {
			t.Fatalf("%q and %q: %d, %d, %t; asked for %d, %d, true", s, g, gotA, gotB, ok, wantA, wantB)
		}
	}
}

func TestAddSumsAtEdges(t *testing.T) {
	edges := []int{0, 1, 127, 128, 253, 254}
	longs := []int{0, 1, 2, 127, 128, impl.MaxText - 1, impl.MaxText}
	for _, a := range edges {
		for _, b := range edges {
			for _, c := range edges {
				for _, d := range edges {
					for _, long := range longs {
						wantA, wantB := (a+c)%255, (b+a*long+d)%255
						gotA, gotB, ok := impl.AddSums(a, b, c, d, long)
						if gotA != wantA || gotB != wantB || !ok {
							t.Fatalf("AddSums(%d, %d, %d, %d, %d) = %d, %d, %t; asked for %d, %d, true", a, b, c, d, long, gotA, gotB, ok, wantA, wantB)
						}
					}
				}
			}
		}
	}
}

func TestAddSumsEachSum(t *testing.T) {
	for a := 0; a < 255; a++ {
		for long := 0; long <= impl.MaxText; long++ {
			gotA, gotB, ok := impl.AddSums(a, 254-a, a, 7, long)
			if gotA != 2*a%255 || gotB != (254-a+a*long+7)%255 || !ok {
				t.Fatalf("AddSums(%d, %d, %d, 7, %d) = %d, %d, %t", a, 254-a, a, long, gotA, gotB, ok)
			}
		}
	}
}

func TestFillSumAtEachPlace(t *testing.T) {
	for _, s := range sampleTexts() {
		for at := 0; at+1 < len(s); at++ {
			g, ok := impl.FillSum(s, at)
			if !ok || !sameBut(s, g, at, 2) {
				t.Fatalf("FillSum(%q, %d) = %q, %t", s, at, g, ok)
			}
			if g[at] == 255 || g[at+1] == 255 {
				t.Fatalf("FillSum(%q, %d) = %q has a byte of 255", s, at, g)
			}
			if a, b := sumsByWords(g); a != 0 || b != 0 {
				t.Fatalf("FillSum(%q, %d) = %q has sums %d, %d", s, at, g, a, b)
			}
			if whole, ok := impl.IsWhole(g); !whole || !ok {
				t.Fatalf("IsWhole(%q) = %t, %t", g, whole, ok)
			}
		}
	}
}

func TestFillSumTwice(t *testing.T) {
	for _, s := range sampleTexts() {
		for at := 0; at+1 < len(s); at += 5 {
			g, _ := impl.FillSum(s, at)
			if again, ok := impl.FillSum(g, at); again != g || !ok {
				t.Fatalf("FillSum(%q, %d) = %q, %t: it was filled there", g, at, again, ok)
			}
		}
	}
}

func TestFillSumByHand(t *testing.T) {
	for _, c := range []struct {
		s    string
		at   int
		want string
	}{
		{"ab\x00\x00", 2, "ab\x17\x25"},
		{"abxy", 2, "ab\x17\x25"},
		{"xy", 0, "\x00\x00"},
		{"\xff\xff", 0, "\x00\x00"},
		{"xy\xff", 0, "\x00\x00\xff"},
		{"xy\x01", 0, "\x01\xfd\x01"},
		{"\x01xy", 1, "\x01\xfd\x01"},
		{"\x01xy\x01", 1, "\x01\xfe\xfe\x01"},
	} {
		if g, ok := impl.FillSum(c.s, c.at); g != c.want || !ok {
			t.Errorf("FillSum(%q, %d) = %q, %t; asked for %q, true", c.s, c.at, g, ok, c.want)
		}
	}
}

func TestIsWhole(t *testing.T) {
	for _, c := range []struct {
		s    string
		want bool
	}{
		{"", true},
		{"\x00", true},
		{"\xff", true},
		{"\x00\xff\x00", true},
		{strings.Repeat("\xff", impl.MaxText), true},
		{"\x01", false},
		{"\xfe", false},
		{"\x01\xfe", false},          // a alone is nought
		{"\x01\xfd", false},          // b alone is: 2 and 253
		{"\x01\xfd\x01", true},       // 3, 506 and 1
		{"ab\x17\x25", true},         // as the sums ask for
		{"ab\x25\x17", false},        // a alone is nought
		{"\x00ab\x17\x25", true},     // noughts ahead count for nothing
		{"ab\x17\x25\x00\xff", true}, // nor do they behind, where both sums are nought
	} {
		if whole, ok := impl.IsWhole(c.s); whole != c.want || !ok {
			t.Errorf("IsWhole(%q) = %t, %t; asked for %t, true", c.s, whole, ok, c.want)
		}
	}
	for _, s := range sampleTexts() {
		a, b := sumsByWords(s)
		if whole, ok := impl.IsWhole(s); whole != (a == 0 && b == 0) || !ok {
			t.Fatalf("IsWhole(%q) = %t, %t", s, whole, ok)
		}
	}
}

func TestMendByteAtEachPlace(t *testing.T) {
	for _, s := range sampleTexts() {
		for at := 0; at < len(s); at++ {
			g, ok := impl.MendByte(s, at)
			if !ok || !sameBut(s, g, at, 1) {
				t.Fatalf("MendByte(%q, %d) = %q, %t", s, at, g, ok)
			}
			if g[at] == 255 {
				t.Fatalf("MendByte(%q, %d) = %q has a byte of 255", s, at, g)
			}
			if a, _ := sumsByWords(g); a != 0 {
				t.Fatalf("MendByte(%q, %d) = %q has a of %d", s, at, g, a)
			}
			if a, _ := mustSum(t, g); a != 0 {
				t.Fatalf("SumOf(%q) has a of %d", g, a)
			}
		}
	}
}

func TestMendByteByHand(t *testing.T) {
	for _, c := range []struct {
		s    string
		at   int
		want string
	}{
		{"ab", 1, "a\x9e"},
		{"ab", 0, "\x9db"},
		{"x", 0, "\x00"},
		{"\xff", 0, "\x00"},
		{"\xffx", 1, "\xff\x00"},
		{"\xfex", 1, "\xfe\x01"},
		{"\x01x", 1, "\x01\xfe"},
	} {
		if g, ok := impl.MendByte(c.s, c.at); g != c.want || !ok {
			t.Errorf("MendByte(%q, %d) = %q, %t; asked for %q, true", c.s, c.at, g, ok, c.want)
		}
	}
}

func TestSwapTwo(t *testing.T) {
	for _, s := range sampleTexts() {
		for i := 0; i+1 < len(s); i++ {
			want := s[:i] + s[i+1:i+2] + s[i:i+1] + s[i+2:]
			g, ok := impl.SwapTwo(s, i)
			if g != want || !ok {
				t.Fatalf("SwapTwo(%q, %d) = %q, %t", s, i, g, ok)
			}
			if again, ok := impl.SwapTwo(g, i); again != s || !ok {
				t.Fatalf("SwapTwo(%q, %d) = %q, %t; asked for what it was", g, i, again, ok)
			}
		}
	}
}

// One more in a byte is counted in b as often as WeightAt tells.
func TestWeightAt(t *testing.T) {
	for _, s := range sampleTexts() {
		_, b := mustSum(t, s)
		for k := 0; k < len(s); k++ {
			n, ok := impl.WeightAt(s, k)
			if n != len(s)-k || !ok {
				t.Fatalf("WeightAt(%q, %d) = %d, %t", s, k, n, ok)
			}
			more := s[:k] + string([]byte{byte((int(s[k]) + 1) % 255)}) + s[k+1:]
			if _, d := mustSum(t, more); d != (b+n)%255 {
				t.Fatalf("WeightAt(%q, %d) = %d, but b goes from %d to %d", s, k, n, b, d)
			}
		}
	}
}

// refused asks for the zero answer of the functions that take a text and a
// place: of those that need the next place too, of those that do not, or both.
func refused(t *testing.T, s string, at int, pairs bool, singles bool) {
	t.Helper()
	kept := strings.Clone(s)
	if pairs {
		if g, ok := impl.FillSum(s, at); g != "" || ok {
			t.Errorf("FillSum of %d bytes at %d = %q, %t", len(s), at, g, ok)
		}
		if g, ok := impl.SwapTwo(s, at); g != "" || ok {
			t.Errorf("SwapTwo of %d bytes at %d = %q, %t", len(s), at, g, ok)
		}
	}
	if singles {
		if g, ok := impl.MendByte(s, at); g != "" || ok {
			t.Errorf("MendByte of %d bytes at %d = %q, %t", len(s), at, g, ok)
		}
		if n, ok := impl.WeightAt(s, at); n != 0 || ok {
			t.Errorf("WeightAt of %d bytes at %d = %d, %t", len(s), at, n, ok)
		}
	}
	if s != kept {
		t.Errorf("a text of %d bytes was written into", len(kept))
	}
}

func TestPlacesThatAreNotThere(t *testing.T) {
	r := rand.New(rand.NewSource(5))
	for _, long := range []int{0, 1, 2, 3, 17, impl.MaxText - 1, impl.MaxText} {
		s := randomText(r, long)
		for _, at := range []int{
			math.MinInt, math.MinInt + 1, -impl.MaxText, -2, -1,
			long, long + 1, long + 2, impl.MaxText, impl.MaxText + 1,
			256, 1 << 32, math.MaxInt - 1, math.MaxInt,
		} {
			if at < 0 || at >= long {
				refused(t, s, at, true, true)
			}
		}
		// The last place is within the text, but the next one is not.
		refused(t, s, long-1, true, long == 0)
	}
}

func TestLastPlacesThatAreThere(t *testing.T) {
	for _, long := range []int{1, 2, 3, impl.MaxText - 1, impl.MaxText} {
		s := strings.Repeat("m", long)
		for _, at := range []int{0, long - 1} {
			if g, ok := impl.MendByte(s, at); len(g) != long || !ok {
				t.Errorf("MendByte of %d bytes at %d = %q, %t", long, at, g, ok)
			}
			if n, ok := impl.WeightAt(s, at); n != long-at || !ok {
				t.Errorf("WeightAt of %d bytes at %d = %d, %t", long, at, n, ok)
			}
		}
		if long < 2 {
			continue
		}
		for _, at := range []int{0, long - 2} {
			if g, ok := impl.FillSum(s, at); len(g) != long || !ok {
				t.Errorf("FillSum of %d bytes at %d = %q, %t", long, at, g, ok)
			}
			if g, ok := impl.SwapTwo(s, at); g != s || !ok {
				t.Errorf("SwapTwo of %d bytes at %d = %q, %t", long, at, g, ok)
			}
		}
	}
}

func TestTextsThatAreTooLong(t *testing.T) {
	for _, long := range []int{impl.MaxText + 1, impl.MaxText + 2, 255, 256, 1000, 100000} {
		for _, x := range []string{"\x00", "a", "\xff"} {
			s := strings.Repeat(x, long)
			if a, b, ok := impl.SumOf(s); a != 0 || b != 0 || ok {
				t.Errorf("SumOf of %d bytes = %d, %d, %t", long, a, b, ok)
			}
			if whole, ok := impl.IsWhole(s); whole || ok {
				t.Errorf("IsWhole of %d bytes = %t, %t", long, whole, ok)
			}
			for _, at := range []int{0, 1, impl.MaxText - 2, impl.MaxText - 1, impl.MaxText, long - 2, long - 1, -1, math.MinInt, math.MaxInt} {
				refused(t, s, at, true, true)
			}
		}
	}
}

func TestSumsThatAreNone(t *testing.T) {
	wrong := []int{math.MinInt, -256, -255, -1, 255, 256, 510, math.MaxInt}
	wrongLong := []int{math.MinInt, -200, -1, impl.MaxText + 1, 255, 1 << 32, math.MaxInt}
	for at := 0; at < 5; at++ {
		values := wrong
		if at == 4 {
			values = wrongLong
		}
		for _, fill := range []int{0, 1, impl.MaxText} {
			for _, x := range values {
				g := [5]int{fill, fill, fill, fill, fill}
				g[at] = x
				if a, b, ok := impl.AddSums(g[0], g[1], g[2], g[3], g[4]); a != 0 || b != 0 || ok {
					t.Errorf("AddSums of %v = %d, %d, %t", g, a, b, ok)
				}
			}
		}
	}
}

func TestAllSumsAreWrongAtOnce(t *testing.T) {
	for _, x := range []int{math.MinInt, -1, 255, math.MaxInt} {
		if a, b, ok := impl.AddSums(x, x, x, x, x); a != 0 || b != 0 || ok {
			t.Errorf("AddSums of %d throughout = %d, %d, %t", x, a, b, ok)
		}
	}
}

func TestNoTextIsWrittenInto(t *testing.T) {
	for _, s := range sampleTexts() {
		kept := strings.Clone(s)
		impl.SumOf(s)
		impl.IsWhole(s)
		for at := -1; at <= len(s); at++ {
			impl.FillSum(s, at)
			impl.SwapTwo(s, at)
			impl.MendByte(s, at)
			impl.WeightAt(s, at)
			if s != kept {
				t.Fatalf("%q was written into at %d", kept, at)
			}
		}
	}
}
