package tests

import (
	"math"
	"math/rand"
	"slices"
	"strings"
	"testing"

	"loop.example/g00575/impl"
)

// strangeParts are of no kind that a frame may have, whatever they hold.
var strangeParts = []string{
	"\x00\x00", "\x00\x01a", "\x05\x00", "\x05\x02\x00\x01", "\x09\x01z",
	"\x80\x03abc", "\xff\x00", "\xff\x04\x01\x02ab", "\x06\x29" + strings.Repeat("\x00", 41),
}

func name(s string) impl.Part      { return impl.Part{Kind: impl.PtName, Text: s} }
func links(l ...int) impl.Part     { return impl.Part{Kind: impl.PtLinks, Nums: l} }
func groupList(l ...int) impl.Part { return impl.Part{Kind: impl.PtGroups, Nums: l} }
func flag(l ...int) impl.Part      { return impl.Part{Kind: impl.PtFlag, Nums: l} }

func risingTo(many int, last int) []int {
	l := make([]int, many)
	for i := range l {
		l[i] = last - many + 1 + i
	}
	return l
}

// samePart takes the empty list and the nil list for the same.
func samePart(a impl.Part, b impl.Part) bool {
	return a.Kind == b.Kind && a.Text == b.Text && slices.Equal(a.Nums, b.Nums)
}

func sameParts(a []impl.Part, b []impl.Part) bool {
	return slices.EqualFunc(a, b, samePart)
}

func copyOfParts(l []impl.Part) []impl.Part {
	c := slices.Clone(l)
	for i := range c {
		c[i].Nums = slices.Clone(c[i].Nums)
	}
	return c
}

// goodByWords is the document's sentence on good parts, word by word.
func goodByWords(p impl.Part) bool {
	switch p.Kind {
	case 1:
		return len(p.Text) >= 1 && len(p.Text) <= 20 && strings.Trim(p.Text, "abcdefghijklmnopqrstuvwxyz") == "" && len(p.Nums) == 0
	case 2, 3:
		for i, n := range p.Nums {
			if n < 0 || n > 65535 || slices.Contains(p.Nums[:i], n) {
				return false
			}
		}
		return len(p.Nums) <= 20 && slices.IsSorted(p.Nums) && p.Text == ""
	case 4:
		return p.Text == "" && (slices.Equal(p.Nums, []int{0}) || slices.Equal(p.Nums, []int{1}))
	}
	return false
}

func textByWords(p impl.Part) string {
	s := p.Text
	for _, n := range p.Nums {
		s += string([]byte{byte(n / 256), byte(n % 256)})
	}
	return string([]byte{byte(p.Kind), byte(len(s))}) + s
}

// readByWords reads a frame of any length part by part, as the document tells it.
func readByWords(s string) ([]impl.Part, int, int) {
	var l []impl.Part
	left := 0
	for at := 0; at < len(s); {
		if at+1 >= len(s) || at+2+int(s[at+1]) > len(s) {
			return nil, 0, 1
		}
		text := s[at+2 : at+2+int(s[at+1])]
		p := impl.Part{Kind: int(s[at])}
		at += 2 + len(text)
		if p.Kind < 1 || p.Kind > 4 {
			left++
			continue
		}
		if p.Kind == 1 {
			p.Text = text
		} else if len(text)%2 == 1 {
			return nil, 0, 2
		} else {
			for i := 0; i < len(text); i += 2 {
				p.Nums = append(p.Nums, int(text[i])*256+int(text[i+1]))
			}
		}
		if !goodByWords(p) {
			return nil, 0, 2
		}
		if len(l) == 10 {
			return nil, 0, 3
		}
		l = append(l, p)
	}
	return l, left, 0
}

func randomNums(r *rand.Rand, many int) []int {
	l := make([]int, many)
	for i := range l {
		switch r.Intn(3) {
		case 0:
			l[i] = r.Intn(65536)
		case 1:
			l[i] = r.Intn(40)
		default:
			l[i] = 65535 - r.Intn(40)
		}
	}
	return l
}

func randomRising(r *rand.Rand, many int) []int {
	l := randomNums(r, many)
	slices.Sort(l)
	return slices.Compact(l)
}

func randomName(r *rand.Rand, long int) string {
	l := make([]byte, long)
	for i := range l {
		l[i] = byte('a' + r.Intn(26))
	}
	return string(l)
}

func randomPart(r *rand.Rand) impl.Part {
	switch r.Intn(4) {
	case 0:
		return name(randomName(r, 1+r.Intn(20)))
	case 1:
		return links(randomRising(r, r.Intn(21))...)
	case 2:
		return groupList(randomRising(r, r.Intn(21))...)
	}
	return flag(r.Intn(2))
}

// randomFrame gives good parts that fit into a frame with room bytes left, and
// its text.
func randomFrame(r *rand.Rand, room int) ([]impl.Part, string) {
	var l []impl.Part
	s := ""
	for many := r.Intn(impl.MaxParts + 1); len(l) < many; {
		p := randomPart(r)
		text := textByWords(p)
		if len(s)+len(text) > impl.MaxFrame-room {
			break
		}
		l, s = append(l, p), s+text
	}
	return l, s
}

// partsAtEdges has each kind of good part at each edge that it has.
func partsAtEdges() []impl.Part {
	l := []impl.Part{
		name("a"), name("z"), name("az"), name(strings.Repeat("m", 19)), name(strings.Repeat("z", 20)),
		flag(0), flag(1),
		{Kind: impl.PtName, Text: "q", Nums: []int{}},
		{Kind: impl.PtLinks, Nums: []int{}},
		{Kind: impl.PtGroups, Nums: []int{}},
	}
	for _, nums := range [][]int{
		nil, {0}, {65535}, {0, 65535}, {0, 1}, {255, 256}, {256, 257}, {65534, 65535},
		risingTo(19, 18), risingTo(20, 19), risingTo(20, 65535),
	} {
		l = append(l, links(nums...), groupList(nums...))
	}
	return l
}

func partsThatAreNone() []impl.Part {
	l := []impl.Part{
		{},
		name(""), name(strings.Repeat("a", 21)), name(strings.Repeat("a", 200)), name(strings.Repeat("a", 256+3)),
		name("`"), name("{"), name("A"), name("Z"), name("a`"), name("{a"), name("a b"), name("a1"), name("\x00"), name("a\x00"), name("é"), name("ab\xff"), name("ab\n"),
		{Kind: impl.PtName, Text: "ab", Nums: []int{0}},
		{Kind: impl.PtName, Text: "ab", Nums: []int{1, 2}},
		{Kind: impl.PtName, Nums: []int{1}},
		{Kind: impl.PtFlag, Text: "a"},
		{Kind: impl.PtFlag, Text: "a", Nums: []int{1}},
		flag(), flag(2), flag(-1), flag(256), flag(65536), flag(0, 0), flag(0, 1), flag(1, 0), flag(1, 1),
		flag(math.MinInt), flag(math.MaxInt),
	}
	for _, kind := range []int{impl.PtLinks, impl.PtGroups} {
		for _, nums := range [][]int{
			{-1}, {65536}, {0, 65536}, {-1, 0}, {math.MinInt}, {math.MaxInt}, {math.MinInt, math.MaxInt},
			{3, 3}, {0, 0}, {65535, 65535}, {4, 3}, {1, 2, 2}, {1, 3, 2}, {2, 1, 3}, {65535, 0},
			risingTo(21, 20), risingTo(21, 65535), risingTo(100, 100), risingTo(20, 65536), risingTo(20, 18),
		} {
			l = append(l, impl.Part{Kind: kind, Nums: nums})
		}
		l = append(l, impl.Part{Kind: kind, Text: "a"}, impl.Part{Kind: kind, Text: "\x00", Nums: []int{1}})
	}
	for _, kind := range []int{math.MinInt, -256, -255, -4, -1, 0, 5, 6, 9, 255, 256, 257, 258, 260, 1 << 32, 1<<32 + 1, math.MaxInt} {
		l = append(l, impl.Part{Kind: kind}, impl.Part{Kind: kind, Text: "ab"}, impl.Part{Kind: kind, Nums: []int{1}})
	}
	return l
}

func TestFrameConstants(t *testing.T) {
	if impl.MaxParts != 10 || impl.MaxFrame != 200 || impl.PtName != 1 || impl.PtLinks != 2 || impl.PtGroups != 3 || impl.PtFlag != 4 {
		t.Error("a constant of the chapter is not what the document says")
	}
}

func TestGoodPart(t *testing.T) {
	for _, p := range partsAtEdges() {
		if !impl.GoodPart(p) {
			t.Errorf("GoodPart(%v) = false", p)
		}
	}
	for _, p := range partsThatAreNone() {
		if impl.GoodPart(p) {
			t.Errorf("GoodPart(%v) = true", p)
		}
	}
}

func TestNamesOfEachByte(t *testing.T) {
	for x := 0; x < 256; x++ {
		letter := x >= 97 && x <= 122
		for _, s := range []string{string([]byte{byte(x)}), string([]byte{'a', byte(x)}), string([]byte{byte(x), 'z'})} {
			if got := impl.GoodPart(name(s)); got != letter {
				t.Errorf("GoodPart of the name %q = %t", s, got)
			}
			wantCode := 2
			if letter {
				wantCode = 0
			}
			frame := string([]byte{1, byte(len(s))}) + s
			if _, _, code, _ := impl.ReadFrame(frame); code != wantCode {
				t.Errorf("ReadFrame(%q) has code %d", frame, code)
			}
		}
	}
}

func TestGoodPartByWords(t *testing.T) {
	r := rand.New(rand.NewSource(21))
	for i := 0; i < 100000; i++ {
		p := randomPart(r)
		switch r.Intn(6) {
		case 0:
			p.Kind = r.Intn(6)
		case 1:
			p.Text += string([]byte{byte('`' + r.Intn(28))})
		case 2:
			p.Nums = append(p.Nums, r.Intn(65538)-1)
		case 3:
			if len(p.Nums) > 0 {
				p.Nums[r.Intn(len(p.Nums))] = r.Intn(65538) - 1
			}
		}
		if got := impl.GoodPart(p); got != goodByWords(p) {
			t.Fatalf("GoodPart(%v) = %t", p, got)
		}
	}
}

func TestPartTextByHand(t *testing.T) {
	for _, c := range []struct {
		p    impl.Part
		want string
	}{
		{name("ab"), "\x01\x02ab"},
		{name(strings.Repeat("z", 20)), "\x01\x14zzzzzzzzzzzzzzzzzzzz"},
		{links(), "\x02\x00"},
		{links(1, 256), "\x02\x04\x00\x01\x01\x00"},
		{groupList(0, 255, 65535), "\x03\x06\x00\x00\x00\xff\xff\xff"},
		{groupList(258), "\x03\x02\x01\x02"},
		{flag(0), "\x04\x02\x00\x00"},
		{flag(1), "\x04\x02\x00\x01"},
	} {
		if s, ok := impl.PartText(c.p); s != c.want || !ok {
			t.Errorf("PartText(%v) = %q, %t; asked for %q, true", c.p, s, ok, c.want)
		}
	}
}

func TestPartTextAndSkipPart(t *testing.T) {
	r := rand.New(rand.NewSource(22))
	l := partsAtEdges()
	for i := 0; i < 2000; i++ {
		l = append(l, randomPart(r))
	}
	for _, p := range l {
		s, ok := impl.PartText(p)
		if s != textByWords(p) || !ok {
			t.Fatalf("PartText(%v) = %q, %t", p, s, ok)
		}
		for _, behind := range []string{"", "\x00", "\x01", randomText(r, r.Intn(20)), randomText(r, impl.MaxFrame-len(s))} {
			kind, long, text, ok := impl.SkipPart(s + behind)
			if kind != p.Kind || long != len(s)-2 || text != s[2:] || !ok {
				t.Fatalf("SkipPart(%q) = %d, %d, %q, %t", s+behind, kind, long, text, ok)
			}
		}
	}
}

func TestSkipPartAtEdges(t *testing.T) {
	r := rand.New(rand.NewSource(23))
	for long := 0; long <= impl.MaxFrame; long++ {
		for second := 0; second < 256; second++ {
			s := randomText(r, long)
			if long >= 2 {
				s = s[:1] + string([]byte{byte(second)}) + s[2:]
			}
			kind, n, text, ok := impl.SkipPart(s)
			if long >= 2 && 2+second <= long {
				if kind != int(s[0]) || n != second || text != s[2:2+second] || !ok {
					t.Fatalf("SkipPart(%q) = %d, %d, %q, %t", s, kind, n, text, ok)
				}
			} else if kind != 0 || n != 0 || text != "" || ok {
				t.Fatalf("SkipPart(%q) = %d, %d, %q, %t; asked for the zero answer", s, kind, n, text, ok)
			}
		}
	}
	for _, s := range []string{strings.Repeat("\x01", 201), strings.Repeat("\x00", 201), "\x01\xc7" + strings.Repeat("a", 199), "\x01\xff" + strings.Repeat("a", 300)} {
		if kind, n, text, ok := impl.SkipPart(s); kind != 0 || n != 0 || text != "" || ok {
			t.Errorf("SkipPart of %d bytes = %d, %d, %q, %t", len(s), kind, n, text, ok)
		}
	}
}

func TestPutAndTakeNums(t *testing.T) {
	r := rand.New(rand.NewSource(24))
	for many := 0; many <= 20; many++ {
		for i := 0; i < 200; i++ {
			l := randomNums(r, many)
			want := ""
			for _, n := range l {
				want += string([]byte{byte(n / 256), byte(n % 256)})
			}
			s, ok := impl.PutNums(l)
			if s != want || !ok {
				t.Fatalf("PutNums(%v) = %q, %t", l, s, ok)
			}
			if back, ok := impl.TakeNums(s); !slices.Equal(back, l) || !ok {
				t.Fatalf("TakeNums(%q) = %v, %t; asked for %v, true", s, back, ok, l)
			}
		}
	}
	for n := 0; n <= 65535; n++ {
		s, ok := impl.PutNums([]int{n})
		if len(s) != 2 || int(s[0]) != n/256 || int(s[1]) != n%256 || !ok {
			t.Fatalf("PutNums of %d = %q, %t", n, s, ok)
		}
	}
}

func TestNumsThatAreAlikeOrFall(t *testing.T) {
	for _, c := range []struct {
		l    []int
		want string
	}{
		{nil, ""},
		{[]int{}, ""},
		{[]int{7, 7}, "\x00\x07\x00\x07"},
		{[]int{65535, 0}, "\xff\xff\x00\x00"},
		{[]int{256, 255}, "\x01\x00\x00\xff"},
		{make([]int, 20), strings.Repeat("\x00", 40)},
		{slices.Repeat([]int{65535}, 20), strings.Repeat("\xff", 40)},
	} {
		if s, ok := impl.PutNums(c.l); s != c.want || !ok {
			t.Errorf("PutNums(%v) = %q, %t", c.l, s, ok)
		}
		if l, ok := impl.TakeNums(c.want); !slices.Equal(l, c.l) || !ok {
			t.Errorf("TakeNums(%q) = %v, %t", c.want, l, ok)
		}
	}
}

func TestNumsThatAreNone(t *testing.T) {
	for _, l := range [][]int{
		{-1}, {65536}, {0, -1}, {0, 65536}, {1 << 32}, {math.MinInt}, {math.MaxInt}, {5, math.MaxInt, 6},
		make([]int, 21), make([]int, 22), make([]int, 1000), append(make([]int, 19), 65536),
	} {
		kept := slices.Clone(l)
		if s, ok := impl.PutNums(l); s != "" || ok {
			t.Errorf("PutNums(%v) = %q, %t", l, s, ok)
		}
		if !slices.Equal(l, kept) {
			t.Errorf("PutNums wrote into %v", kept)
		}
	}
	for _, long := range []int{1, 3, 37, 39, 41, 42, 43, 44, 80, 200, 256, 296, 1000} {
		if l, ok := impl.TakeNums(strings.Repeat("\x01", long)); len(l) != 0 || ok {
			t.Errorf("TakeNums of %d bytes = %v, %t", long, l, ok)
		}
	}
	for long := 0; long <= 40; long += 2 {
		if l, ok := impl.TakeNums(strings.Repeat("\x01", long)); len(l) != long/2 || !ok {
			t.Errorf("TakeNums of %d bytes = %v, %t", long, l, ok)
		}
	}
}

func wantFrame(t *testing.T, s string, parts []impl.Part, left int, code int) {
	t.Helper()
	l, n, c, ok := impl.ReadFrame(s)
	if !sameParts(l, parts) || n != left || c != code || ok != (code == 0) {
		t.Fatalf("ReadFrame(%q) = %v, %d, %d, %t; asked for %v, %d, %d, %t", s, l, n, c, ok, parts, left, code, code == 0)
	}
}

func TestPartsComeBack(t *testing.T) {
	r := rand.New(rand.NewSource(25))
	for i := 0; i < 20000; i++ {
		l, want := randomFrame(r, 0)
		s, ok := impl.FrameText(l)
		if s != want || !ok {
			t.Fatalf("FrameText(%v) = %q, %t; asked for %q, true", l, s, ok, want)
		}
		wantFrame(t, s, l, 0, 0)
	}
	for _, p := range partsAtEdges() {
		s, ok := impl.FrameText([]impl.Part{p})
		if one, _ := impl.PartText(p); s != one || !ok {
			t.Fatalf("FrameText of %v alone = %q, %t", p, s, ok)
		}
		wantFrame(t, s, []impl.Part{p}, 0, 0)
	}
}

func TestStrangePartsAreLeftOut(t *testing.T) {
	r := rand.New(rand.NewSource(26))
	for _, strange := range strangeParts {
		for i := 0; i < 300; i++ {
			l, _ := randomFrame(r, len(strange))
			for at := 0; at <= len(l); at++ {
				ahead, _ := impl.FrameText(l[:at])
				behind, _ := impl.FrameText(l[at:])
				wantFrame(t, ahead+strange+behind, l, 1, 0)
			}
		}
	}
	for i := 0; i < 5000; i++ {
		l, _ := randomFrame(r, 100)
		s, left := "", 0
		for at := 0; at <= len(l); at++ {
			for r.Intn(2) == 0 {
				if strange := strangeParts[r.Intn(8)]; left < 12 {
					s, left = s+strange, left+1
				}
			}
			if at < len(l) {
				s += textByWords(l[at])
			}
		}
		if len(s) <= impl.MaxFrame {
			wantFrame(t, s, l, left, 0)
		}
	}
}

func TestEachOtherFirstByteIsLeftOut(t *testing.T) {
	for kind := 0; kind < 256; kind++ {
		if kind >= 1 && kind <= 4 {
			continue
		}
		for _, text := range []string{"", "A", "\x00\x01", "\x00\x02\x00\x01", strings.Repeat("q", 41), strings.Repeat("\x00", 190)} {
			strange := string([]byte{byte(kind), byte(len(text))}) + text
			wantFrame(t, strange, nil, 1, 0)
			wantFrame(t, "\x01\x01a"+strange+"\x04\x02\x00\x01", []impl.Part{name("a"), flag(1)}, 1, 0)
		}
	}
}

func TestFramesOfManyParts(t *testing.T) {
	ten := slices.Repeat([]impl.Part{flag(1)}, 10)
	s, ok := impl.FrameText(ten)
	if s != strings.Repeat("\x04\x02\x00\x01", 10) || !ok {
		t.Errorf("FrameText of 10 parts = %q, %t", s, ok)
	}
	wantFrame(t, s, ten, 0, 0)
	wantFrame(t, s+s[:4], nil, 0, 3)
	for _, many := range []int{11, 12, 20, 300} {
		if s, ok := impl.FrameText(slices.Repeat([]impl.Part{flag(1)}, many)); s != "" || ok {
			t.Errorf("FrameText of %d parts = %q, %t", many, s, ok)
		}
	}
	if s, ok := impl.FrameText(slices.Repeat([]impl.Part{links()}, 11)); s != "" || ok {
		t.Errorf("FrameText of 11 parts = %q, %t", s, ok)
	}
	for _, l := range [][]impl.Part{nil, {}} {
		if s, ok := impl.FrameText(l); s != "" || !ok {
			t.Errorf("FrameText of no parts = %q, %t", s, ok)
		}
	}
	wantFrame(t, "", nil, 0, 0)
	// What is left out takes no room of the ten.
	wantFrame(t, strings.Repeat("\x09\x00", 50)+s, ten, 50, 0)
	wantFrame(t, s+strings.Repeat("\x09\x00", 50), ten, 50, 0)
	wantFrame(t, strings.Repeat("\x09\x01z\x04\x02\x00\x01", 10)+"\x05\x00", ten, 11, 0)
	wantFrame(t, strings.Repeat("\x09\x01z\x04\x02\x00\x01", 11), nil, 0, 3)
	wantFrame(t, strings.Repeat("\x09\x00", 100), nil, 100, 0)
}

func TestFramesOfManyBytes(t *testing.T) {
	most := []impl.Part{links(risingTo(20, 30)...), links(risingTo(20, 40)...), groupList(risingTo(20, 65535)...), groupList(risingTo(20, 20)...)}
	// 4 parts of 42 bytes are 168; 22 and 10 more are 200.
	exact := append(slices.Clone(most), name(strings.Repeat("a", 20)), links(1, 2, 3, 4))
	s, ok := impl.FrameText(exact)
	if len(s) != impl.MaxFrame || !ok {
		t.Fatalf("FrameText of parts of %d bytes = %q, %t", impl.MaxFrame, s, ok)
	}
	wantFrame(t, s, exact, 0, 0)
	for _, more := range [][]impl.Part{
		append(slices.Clone(most), name(strings.Repeat("a", 20)), name(strings.Repeat("b", 9))),
		append(slices.Clone(exact), links()),
		append(slices.Clone(most), most...),
		slices.Repeat([]impl.Part{name(strings.Repeat("a", 20))}, 10),
	} {
		if s, ok := impl.FrameText(more); s != "" || ok {
			t.Errorf("FrameText of %v = %q, %t", more, s, ok)
		}
	}
	for _, long := range []int{201, 202, 256, 1000} {
		for _, s := range []string{s + strings.Repeat("\x09", long-200), strings.Repeat("\x09", long), strings.Repeat("\x01", long), strings.Repeat("\x09\x00", long)} {
			l, n, code, ok := impl.ReadFrame(s)
			if len(l) != 0 || n != 0 || code != 0 || ok {
				t.Errorf("ReadFrame of %d bytes = %v, %d, %d, %t", len(s), l, n, code, ok)
			}
		}
	}
}

func TestFrameCodes(t *testing.T) {
	ten := strings.Repeat("\x04\x02\x00\x01", 10)
	for _, c := range []struct {
		s    string
		code int
	}{
		{"\x01", 1}, {"\x00", 1}, {"\x09", 1}, {"\xff", 1}, {"\x01\x01a\x01", 1}, {"\x01\x01a\x09", 1},
		{"\x01\x01", 1}, {"\x01\x02a", 1}, {"\x09\x01", 1}, {"\x09\x02z", 1}, {"\x01\xffa", 1},
		{"\x02\x02\x00", 1}, {"\x04\x02\x00", 1}, {"\x01\x01a\x09\x05abcd", 1},
		{"\x01\x00", 2}, {"\x01\x01A", 2}, {"\x01\x15" + strings.Repeat("a", 21), 2}, {"\x01\x03a{b", 2},
		{"\x02\x01a", 2}, {"\x02\x03\x00\x01\x00", 2}, {"\x03\x01\x00", 2}, {"\x03\x29" + strings.Repeat("\x00", 41), 2},
		{"\x02\x04\x00\x01\x00\x01", 2}, {"\x03\x04\x00\x02\x00\x01", 2}, {"\x02\x04\x01\x00\x00\xff", 2},
		{"\x04\x00", 2}, {"\x04\x01\x01", 2}, {"\x04\x02\x00\x02", 2}, {"\x04\x02\x01\x00", 2}, {"\x04\x02\x01\x01", 2},
		{"\x04\x03\x00\x01\x00", 2}, {"\x04\x04\x00\x01\x00\x01", 2}, {"\x04\x04\x00\x00\x00\x01", 2},
		{ten + "\x01\x01a", 3}, {ten + "\x02\x00", 3}, {"\x09\x00" + ten + "\x09\x00\x03\x00", 3},
		// Of two faults the one that comes first counts.
		{"\x01\x00\x01", 2}, {"\x01\x01A\x09\x05a", 2}, {"\x04\x00" + ten + "\x02\x00", 2},
		{"\x01\x05A", 1}, {"\x01\x15aaa", 1}, {"\x02\x03\x00\x01", 1}, {"\x04\x03\x00", 1}, {"\x01\x02a\x01\x00", 2},
		{ten + "\x01", 1}, {ten + "\x01\x02a", 1}, {ten + "\x01\x01A", 2}, {ten + "\x04\x00", 2}, {ten + "\x09\x05", 1},
		{ten + "\x02\x00\x01", 3}, {ten + "\x02\x00\x01\x00", 3}, {ten + "\x02\x00\x09\x05a", 3},
		{"\x09\x00\x01\x00", 2}, {"\x09\x00\x01\x01", 1},
	} {
		wantFrame(t, c.s, nil, 0, c.code)
	}
}

func TestListsOfTooManyNumbersInAFrame(t *testing.T) {
	for _, kind := range []int{2, 3} {
		for many := 0; many <= 25; many++ {
			s := string([]byte{byte(kind), byte(2 * many)})
			for n := 0; n < many; n++ {
				s += string([]byte{byte(n), 7})
			}
			if many <= 20 {
				p := impl.Part{Kind: kind}
				for n := 0; n < many; n++ {
					p.Nums = append(p.Nums, n*256+7)
				}
				wantFrame(t, s, []impl.Part{p}, 0, 0)
			} else {
				wantFrame(t, s, nil, 0, 2)
			}
		}
	}
}

func TestReadFrameOfEachCut(t *testing.T) {
	r := rand.New(rand.NewSource(27))
	for i := 0; i < 300; i++ {
		l, s := randomFrame(r, 2)
		ends := map[int]int{0: 0}
		for k, at := 0, 0; k < len(l); k++ {
			at += len(textByWords(l[k]))
			ends[at] = k + 1
		}
		for at := 0; at <= len(s); at++ {
			if many, ok := ends[at]; ok {
				wantFrame(t, s[:at], l[:many], 0, 0)
			} else {
				wantFrame(t, s[:at], nil, 0, 1)
			}
		}
	}
}

func TestReadFrameByWords(t *testing.T) {
	r := rand.New(rand.NewSource(28))
	codes := [4]int{}
	for i := 0; i < 200000; i++ {
		_, s := randomFrame(r, 60)
		for r.Intn(3) > 0 && len(s) < 150 {
			s += strangeParts[r.Intn(8)]
			_, more := randomFrame(r, 150)
			s += more
		}
		if r.Intn(2) == 0 && len(s) > 0 {
			at := r.Intn(len(s))
			s = s[:at] + string([]byte{byte(r.Intn(6))}) + s[at+1:]
		}
		if r.Intn(4) == 0 {
			s += strings.Repeat("\x02\x00", r.Intn(8))
		}
		if len(s) > impl.MaxFrame {
			s = s[:impl.MaxFrame]
		}
		l, left, code := readByWords(s)
		codes[code]++
		wantFrame(t, s, l, left, code)
	}
	for code, many := range codes {
		if many < 100 {
			t.Errorf("code %d was asked for %d times", code, many)
		}
	}
}

func TestReadFrameOfAnyBytes(t *testing.T) {
	r := rand.New(rand.NewSource(29))
	for i := 0; i < 100000; i++ {
		b := []byte(randomText(r, r.Intn(impl.MaxFrame+1)))
		for k := range b {
			if r.Intn(4) > 0 {
				b[k] = byte(r.Intn(6))
			}
		}
		l, left, code := readByWords(string(b))
		wantFrame(t, string(b), l, left, code)
	}
}

func TestPartsOf(t *testing.T) {
	l := []impl.Part{name("a"), links(3), name("a"), flag(0), links(), groupList(3), links(1, 2), flag(1)}
	for _, c := range []struct {
		kind int
		want []impl.Part
	}{
		{impl.PtName, []impl.Part{name("a"), name("a")}},
		{impl.PtLinks, []impl.Part{links(3), links(), links(1, 2)}},
		{impl.PtGroups, []impl.Part{groupList(3)}},
		{impl.PtFlag, []impl.Part{flag(0), flag(1)}},
	} {
		if g, ok := impl.PartsOf(l, c.kind); !sameParts(g, c.want) || !ok {
			t.Errorf("PartsOf(%v, %d) = %v, %t", l, c.kind, g, ok)
		}
	}
	// No part is of another kind, so that there are none to be told.
	for _, kind := range []int{math.MinInt, -1, 0, 5, 9, 256, 257, 1<<32 + 1, math.MaxInt} {
		if g, ok := impl.PartsOf(l, kind); len(g) != 0 || !ok {
			t.Errorf("PartsOf(%v, %d) = %v, %t", l, kind, g, ok)
		}
	}
	r := rand.New(rand.NewSource(30))
	for i := 0; i < 20000; i++ {
		var l []impl.Part
		for many := r.Intn(impl.MaxParts + 1); len(l) < many; {
			l = append(l, randomPart(r))
		}
		all := 0
		for kind := 1; kind <= 4; kind++ {
			want := slices.DeleteFunc(slices.Clone(l), func(p impl.Part) bool { return p.Kind != kind })
			g, ok := impl.PartsOf(l, kind)
			if !sameParts(g, want) || !ok {
				t.Fatalf("PartsOf(%v, %d) = %v, %t", l, kind, g, ok)
			}
			all += len(g)
		}
		if all != len(l) {
			t.Fatalf("PartsOf tells %d parts of %d", all, len(l))
		}
	}
}

func TestPartsOfLimits(t *testing.T) {
	most := slices.Repeat([]impl.Part{links(risingTo(20, 50)...)}, 10)
	if g, ok := impl.PartsOf(most, impl.PtLinks); !sameParts(g, most) || !ok {
		t.Errorf("PartsOf of 10 parts = %v, %t", g, ok)
	}
	for kind := 1; kind <= 4; kind++ {
		for _, l := range [][]impl.Part{nil, {}} {
			if g, ok := impl.PartsOf(l, kind); len(g) != 0 || !ok {
				t.Errorf("PartsOf of no parts = %v, %t", g, ok)
			}
		}
		if g, ok := impl.PartsOf(append(slices.Clone(most), flag(1)), kind); len(g) != 0 || ok {
			t.Errorf("PartsOf of 11 parts = %v, %t", g, ok)
		}
	}
}

// A list with one thing that is no part is refused, wherever that stands.
func TestPartsThatAreNone(t *testing.T) {
	for _, bad := range partsThatAreNone() {
		if s, ok := impl.PartText(bad); s != "" || ok {
			t.Errorf("PartText(%v) = %q, %t", bad, s, ok)
		}
		for at := 0; at < 3; at++ {
			l := slices.Insert([]impl.Part{name("ab"), links(1)}, at, bad)
			kept := copyOfParts(l)
			if s, ok := impl.FrameText(l); s != "" || ok {
				t.Errorf("FrameText(%v) = %q, %t", l, s, ok)
			}
			for _, kind := range []int{bad.Kind, 1, 2, 3, 4} {
				if g, ok := impl.PartsOf(l, kind); len(g) != 0 || ok {
					t.Errorf("PartsOf(%v, %d) = %v, %t", l, kind, g, ok)
				}
			}
			if !sameParts(l, kept) {
				t.Errorf("%v was written into", kept)
			}
		}
	}
}

// behind gives a list with more numbers in its memory, which are not of it.
func behind(l []int) []int {
	g := slices.Repeat([]int{-77}, 2*len(l)+3)
	return g[:copy(g, l)]
}

func isUntouched(l []int) bool {
	for _, n := range l[len(l) : 2*len(l)+3] {
		if n != -77 {
			return false
		}
	}
	return true
}

func TestNothingBehindAListIsTouched(t *testing.T) {
	r := rand.New(rand.NewSource(31))
	for i := 0; i < 2000; i++ {
		l, s := randomFrame(r, 0)
		memory := make([]impl.Part, 2*impl.MaxParts)
		for k := range memory {
			memory[k] = impl.Part{Kind: 99, Text: "behind"}
		}
		g := memory[:copy(memory, l)]
		for k := range g {
			g[k].Nums = behind(g[k].Nums)
		}
		kept := copyOfParts(g)
		if got, ok := impl.FrameText(g); got != s || !ok {
			t.Fatalf("FrameText(%v) = %q, %t", g, got, ok)
		}
		for kind := 0; kind <= 5; kind++ {
			impl.PartsOf(g, kind)
		}
		for _, p := range g {
			if !impl.GoodPart(p) {
				t.Fatalf("GoodPart(%v) = false", p)
			}
			impl.PartText(p)
			if text, ok := impl.PutNums(p.Nums); len(text) != 2*len(p.Nums) || !ok {
				t.Fatalf("PutNums(%v) = %q, %t", p.Nums, text, ok)
			}
			if !isUntouched(p.Nums) {
				t.Fatalf("what lies behind %v was written into", p.Nums)
			}
		}
		if !sameParts(g, kept) {
			t.Fatalf("%v was written into", kept)
		}
		for _, p := range memory[len(g):] {
			if p.Kind != 99 || p.Text != "behind" || p.Nums != nil {
				t.Fatalf("what lies behind the parts was written into: %v", p)
			}
		}
	}
}

// scribble writes into all memory that the parts have, up to their capacity.
func scribble(l []impl.Part) {
	for i := range l {
		nums := l[i].Nums[:cap(l[i].Nums)]
		for k := range nums {
			nums[k] = -5
		}
		l[i] = impl.Part{Kind: -5, Text: "?"}
	}
	l = l[:cap(l)]
	for i := range l {
		l[i] = impl.Part{Kind: -5, Text: "?"}
	}
}

func TestAnswersAreNewMemory(t *testing.T) {
	r := rand.New(rand.NewSource(32))
	for i := 0; i < 3000; i++ {
		l, s := randomFrame(r, 0)
		kept := copyOfParts(l)
		for kind := 1; kind <= 4; kind++ {
			g, _ := impl.PartsOf(l, kind)
			scribble(g)
			if !sameParts(l, kept) {
				t.Fatalf("PartsOf(%v, %d) shares memory with its argument", kept, kind)
			}
		}
		g, _, _, _ := impl.ReadFrame(s)
		scribble(g)
		again, _, _, ok := impl.ReadFrame(s)
		if !sameParts(again, kept) || !ok {
			t.Fatalf("ReadFrame(%q) = %v once its answer was written into", s, again)
		}
		n, _ := impl.TakeNums(s[:len(s)%40/2*2])
		back := slices.Clone(n)
		for k := range n {
			n[k] = -5
		}
		if m, _ := impl.TakeNums(s[:len(s)%40/2*2]); !slices.Equal(m, back) {
			t.Fatalf("TakeNums gives %v once its answer was written into", m)
		}
	}
}

// writeOne writes into the list of one part, and asks that all others stay.
func writeOne(t *testing.T, l []impl.Part, told string) {
	t.Helper()
	for i := range l {
		kept := copyOfParts(l)
		nums := l[i].Nums[:cap(l[i].Nums)]
		for k := range nums {
			nums[k] = -5 - i
		}
		for k := range l {
			if k != i && !samePart(l[k], kept[k]) {
				t.Fatalf("%s: lists %d and %d share memory", told, i, k)
			}
		}
	}
}

func TestListsOfAnAnswerShareNothing(t *testing.T) {
	shared := risingTo(20, 44)
	l := []impl.Part{links(shared[:4]...), links(shared[4:9]...), links(shared[:9]...), links(shared...)}
	g, ok := impl.PartsOf(l, impl.PtLinks)
	if !sameParts(g, l) || !ok {
		t.Fatalf("PartsOf(%v) = %v, %t", l, g, ok)
	}
	writeOne(t, g, "PartsOf")
	if !slices.Equal(shared, risingTo(20, 44)) {
		t.Errorf("PartsOf shares memory with its argument")
	}
	s, _ := impl.FrameText(l)
	g, _, _, _ = impl.ReadFrame(s)
	writeOne(t, g, "ReadFrame")
	// An answer may be lengthened without another list of it being written into.
	g, _, _, _ = impl.ReadFrame(s)
	kept := copyOfParts(g)
	for i := range g {
		_ = append(g[i].Nums, -9)
	}
	if !sameParts(g, kept) {
		t.Errorf("ReadFrame: one list lies behind another one")
	}
}

func TestEmptyAndNilAreTheSame(t *testing.T) {
	for _, p := range []impl.Part{name("ab"), links(), groupList()} {
		q := p
		p.Nums, q.Nums = nil, []int{}
		if impl.GoodPart(p) != impl.GoodPart(q) || !impl.GoodPart(p) {
			t.Errorf("GoodPart tells the empty list of %v from the nil list", p)
		}
		s, ok := impl.PartText(p)
		if g, is := impl.PartText(q); g != s || is != ok || !ok {
			t.Errorf("PartText tells the empty list of %v from the nil list", p)
		}
		a, _ := impl.PartsOf([]impl.Part{p}, p.Kind)
		b, _ := impl.PartsOf([]impl.Part{q}, p.Kind)
		if len(a) != 1 || !sameParts(a, b) || (a[0].Nums == nil) != (b[0].Nums == nil) {
			t.Errorf("PartsOf tells the empty list of %v from the nil list", p)
		}
	}
	for _, nums := range [][]int{nil, {}} {
		if impl.GoodPart(impl.Part{Kind: impl.PtFlag, Nums: nums}) {
			t.Errorf("a flag of no number is good")
		}
	}
}
