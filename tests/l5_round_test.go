package tests

import (
	"math"
	"math/rand"
	"slices"
	"strings"
	"testing"

	"loop.example/g00575/impl"
)

func item(from int, seq int, age int, text string) impl.Item {
	return impl.Item{From: from, Seq: seq, Age: age, Text: text}
}

// gone is an item of From 7 that is gone.
func gone(seq int) impl.Item { return item(7, seq, 0, "") }

// live is an item of From 7 with some Age left.
func live(seq int, text string) impl.Item { return item(7, seq, 9, text) }

func items(l ...impl.Item) []impl.Item { return l }

// stepsByWords counts how often one more, 0 behind 63, leads from a to b.
func stepsByWords(a int, b int) int {
	steps := 0
	for a != b {
		a++
		if a == 64 {
			a = 0
		}
		steps++
	}
	return steps
}

func newerByWords(a int, b int) bool {
	steps := stepsByWords(b, a)
	return 1 <= steps && steps <= 31
}

// fitsByWords looks at each two and each three of the numbers.
func fitsByWords(l []int) bool {
	var newer [64][64]bool
	for a := range 64 {
		for b := range 64 {
			newer[a][b] = newerByWords(a, b)
		}
	}
	for _, a := range l {
		for _, b := range l {
			if a != b && newer[a][b] == newer[b][a] {
				return false
			}
			for _, c := range l {
				if newer[a][b] && newer[b][c] && newer[c][a] {
					return false
				}
			}
		}
	}
	return true
}

// goodItemByWords is the document's sentence on items, word by word.
func goodItemByWords(x impl.Item) bool {
	if x.From < 1 || x.From > 1000 || x.Seq < 0 || x.Seq > 63 || x.Age < 0 || x.Age > 20 || len(x.Text) > 20 {
		return false
	}
	return x.Age > 0 || x.Text == ""
}

// betterByWords takes two good items of one From.
func betterByWords(a impl.Item, b impl.Item) int {
	aGone, bGone := a.Age == 0, b.Age == 0
	if a.Seq == b.Seq && a.Text == b.Text && aGone == bGone {
		return 0
	}
	if newerByWords(a.Seq, b.Seq) || a.Seq == b.Seq && aGone && !bGone {
		return 1
	}
	if newerByWords(b.Seq, a.Seq) || a.Seq == b.Seq && bGone && !aGone {
		return 2
	}
	return 3
}

// newestByWords gives the place, and -1 where there is none.
func newestByWords(l []impl.Item) int {
	for k, x := range l {
		outdone := false
		for other, y := range l {
			outdone = outdone || other != k && betterByWords(y, x) == 1
		}
		if !outdone {
			return k
		}
	}
	return -1
}

func wrongSeqs() []int {
	return []int{-1, 64, -2, 65, -64, -63, 127, 128, 256, 1 << 32, 1<<32 + 5, -1 << 32,
		math.MinInt, math.MinInt + 1, math.MinInt + 64, math.MaxInt, math.MaxInt - 1, math.MaxInt - 63}
}

// arc has many numbers of the round, one behind the other, from start on.
func arc(start int, many int) []int {
	var l []int
	for k := range many {
		l = append(l, (start+k)%64)
	}
	return l
}

// itemsOfAllKinds has good items of one From at each of the Seqs: gone, without
// a Text, and with Texts of unlike lengths, each with several Ages.
func itemsOfAllKinds(seqs ...int) []impl.Item {
	var l []impl.Item
	for _, seq := range seqs {
		l = append(l, gone(seq))
		for _, text := range []string{"", "a", "b", "ab", "\x00", "\xff\xff", strings.Repeat("z", 20)} {
			for _, age := range []int{1, 2, 19, 20} {
				l = append(l, item(7, seq, age, text))
			}
		}
	}
	return l
}

func randomItem(r *rand.Rand, from int) impl.Item {
	x := item(from, r.Intn(64), r.Intn(21), "")
	if r.Intn(3) == 0 {
		x.Age = r.Intn(3)
	}
	if x.Age > 0 {
		x.Text = strings.Repeat("ab"[r.Intn(2):][:1], r.Intn(3))
	}
	return x
}

// randomItems has Seqs within a part of the round, which may be one number and
// may be all of it.
func randomItems(r *rand.Rand, many int) []impl.Item {
	from, start, wide := 1+r.Intn(1000), r.Intn(64), 1+r.Intn(64)
	if r.Intn(2) == 0 {
		wide = 1 + r.Intn(4)
	}
	var l []impl.Item
	for range many {
		x := randomItem(r, from)
		x.Seq = (start + r.Intn(wide)) % 64
		l = append(l, x)
	}
	return l
}

func itemsAtEdges() []impl.Item {
	var l []impl.Item
	for _, from := range []int{1, 2, 500, 999, 1000} {
		for _, seq := range []int{0, 1, 31, 32, 33, 62, 63} {
			l = append(l, item(from, seq, 0, ""))
			for _, age := range []int{1, 2, 19, 20} {
				for _, long := range []int{0, 1, 19, 20} {
					l = append(l, item(from, seq, age, strings.Repeat("\xe4", long)))
				}
			}
		}
	}
	return l
}

func itemsThatAreNone() []impl.Item {
	l := items(impl.Item{}, item(0, 64, -1, strings.Repeat("a", 21)), item(math.MinInt, math.MinInt, math.MinInt, ""),
		item(math.MaxInt, math.MaxInt, math.MaxInt, "a"), item(7, 5, 0, "a"), item(7, 5, 0, "\x00"),
		item(7, 5, 0, strings.Repeat("a", 20)), item(7, 5, 0, strings.Repeat("a", 21)))
	for _, from := range []int{0, 1001, -1, 1002, -1000, 1 << 32, 1<<32 + 7, math.MinInt, math.MinInt + 1, math.MaxInt, math.MaxInt - 1} {
		l = append(l, item(from, 5, 3, "a"), item(from, 5, 0, ""))
	}
	for _, seq := range wrongSeqs() {
		l = append(l, item(7, seq, 3, "a"), item(7, seq, 0, ""))
	}
	for _, age := range []int{-1, 21, -2, 22, -20, 256, 1 << 32, 1<<32 + 3, math.MinInt, math.MinInt + 1, math.MaxInt, math.MaxInt - 1} {
		l = append(l, item(7, 5, age, "a"), item(7, 5, age, ""))
	}
	for _, long := range []int{21, 22, 40, 256, 276, 100000} {
		l = append(l, item(7, 5, 3, strings.Repeat("a", long)))
	}
	// Few letters, but more than 20 bytes.
	return append(l, item(7, 5, 3, strings.Repeat("ä", 11)))
}

func mustFit(t *testing.T, l []int) bool {
	t.Helper()
	fits, ok := impl.FitsRing(l)
	if !ok {
		t.Fatalf("FitsRing(%v) is refused", l)
	}
	return fits
}

func mustBetter(t *testing.T, a impl.Item, b impl.Item) int {
	t.Helper()
	n, ok := impl.Better(a, b)
	if !ok {
		t.Fatalf("Better(%v, %v) is refused", a, b)
	}
	return n
}

func TestRoundConstants(t *testing.T) {
	if impl.Round != 64 || impl.MaxAge != 20 {
		t.Error(impl.Round, impl.MaxAge)
	}
}

func TestNextSeqOfEach(t *testing.T) {
	for n := range 63 {
		if g, ok := impl.NextSeq(n); g != n+1 || !ok {
			t.Errorf("NextSeq(%d) = %d, %t", n, g, ok)
		}
	}
	if g, ok := impl.NextSeq(63); g != 0 || !ok {
		t.Errorf("NextSeq(63) = %d, %t", g, ok)
	}
}

func TestNextSeqIsAlwaysNewer(t *testing.T) {
	for n := range 64 {
		next, _ := impl.NextSeq(n)
		if newer, ok := impl.IsNewer(next, n); !newer || !ok {
			t.Errorf("IsNewer(%d, %d) = %t, %t", next, n, newer, ok)
		}
		if older, ok := impl.IsNewer(n, next); older || !ok {
			t.Errorf("IsNewer(%d, %d) = %t, %t", n, next, older, ok)
		}
	}
}

// As many NextSeq as StepsTo tells lead from a to b, and no fewer.
func TestStepsToOfEachTwo(t *testing.T) {
	for a := range 64 {
		for b := range 64 {
			steps, ok := impl.StepsTo(a, b)
			if steps != stepsByWords(a, b) || !ok {
				t.Fatalf("StepsTo(%d, %d) = %d, %t", a, b, steps, ok)
			}
			at := a
			for k := range steps {
				if at == b {
					t.Fatalf("StepsTo(%d, %d) = %d, but %d are enough", a, b, steps, k)
				}
				at, _ = impl.NextSeq(at)
			}
			if at != b {
				t.Fatalf("StepsTo(%d, %d) = %d, but these lead to %d", a, b, steps, at)
			}
		}
	}
}

func TestStepsToByHand(t *testing.T) {
	for _, c := range [][3]int{{0, 0, 0}, {63, 63, 0}, {0, 1, 1}, {63, 0, 1}, {1, 0, 63}, {0, 63, 63}, {0, 32, 32}, {32, 0, 32}, {60, 5, 9}, {5, 60, 55}, {33, 0, 31}, {0, 33, 33}} {
		if g, ok := impl.StepsTo(c[0], c[1]); g != c[2] || !ok {
			t.Errorf("StepsTo(%d, %d) = %d, %t; asked for %d, true", c[0], c[1], g, ok, c[2])
		}
	}
}

// Wherever the one is: 1 up to 31 ahead of it is newer, half of the round and
// more is not, nor is the same one.
func TestIsNewerByHowFarApart(t *testing.T) {
	for b := range 64 {
		for steps, want := range map[int]bool{0: false, 1: true, 2: true, 30: true, 31: true, 32: false, 33: false, 34: false, 62: false, 63: false} {
			a := (b + steps) % 64
			if g, ok := impl.IsNewer(a, b); g != want || !ok {
				t.Errorf("IsNewer(%d, %d) = %t, %t: %d steps", a, b, g, ok, steps)
			}
		}
	}
}

func TestOfEachTwoAtMostOneIsNewer(t *testing.T) {
	for a := range 64 {
		for b := range 64 {
			one, ok := impl.IsNewer(a, b)
			other, okToo := impl.IsNewer(b, a)
			if !ok || !okToo || one != newerByWords(a, b) {
				t.Fatalf("IsNewer(%d, %d) = %t, %t", a, b, one, ok)
			}
			if one && other {
				t.Fatalf("%d and %d are each newer than the other", a, b)
			}
			neither := a == b || (a+32)%64 == b
			if neither == (one || other) {
				t.Fatalf("of %d and %d: %t, %t", a, b, one, other)
			}
		}
	}
}

func TestSeqsThatAreNone(t *testing.T) {
	for _, wrong := range wrongSeqs() {
		if g, ok := impl.NextSeq(wrong); g != 0 || ok {
			t.Errorf("NextSeq(%d) = %d, %t", wrong, g, ok)
		}
		for _, other := range append(arc(0, 64), wrongSeqs()...) {
			for _, two := range [][2]int{{wrong, other}, {other, wrong}} {
				if g, ok := impl.IsNewer(two[0], two[1]); g || ok {
					t.Errorf("IsNewer(%d, %d) = %t, %t", two[0], two[1], g, ok)
				}
				if g, ok := impl.StepsTo(two[0], two[1]); g != 0 || ok {
					t.Errorf("StepsTo(%d, %d) = %d, %t", two[0], two[1], g, ok)
				}
			}
		}
	}
}

func TestFitsRingByHand(t *testing.T) {
	for _, c := range []struct {
		l    []int
		want bool
	}{
		{nil, true},
		{[]int{}, true},
		{[]int{0}, true},
		{[]int{63}, true},
		{[]int{5, 5}, true},
		{slices.Repeat([]int{63}, 40), true},
		{[]int{0, 31}, true},
		{[]int{0, 32}, false},
		{[]int{0, 33}, true},
		{[]int{32, 0}, false},
		{[]int{31, 63}, false},
		{[]int{30, 63}, true},
		{[]int{63, 0}, true},
		{[]int{0, 5, 32}, false},
		{[]int{5, 5, 37, 37}, false},
		{[]int{0, 20, 40}, false},
		{[]int{40, 20, 0}, false},
		{[]int{20, 0, 40}, false},
		{[]int{0, 20, 31}, true},
		{[]int{50, 0, 17}, true},
		{[]int{50, 0, 18}, false},
		{[]int{50, 0, 19}, false},
		{[]int{0, 1, 33}, false},
		{[]int{0, 1, 34}, true},
		{[]int{1, 2, 3, 22, 43}, false},
		{[]int{10, 20, 30, 41}, true},
		{[]int{0, 31, 33}, false},
		{[]int{0, 31, 32}, false},
		{append(arc(60, 32), arc(60, 8)...), true},
		{arc(60, 33), false},
		{arc(0, 40), false},
	} {
		if g := mustFit(t, c.l); g != c.want {
			t.Errorf("FitsRing(%v) = %t", c.l, g)
		}
	}
}

// Three of which each is newer than the next, and the last newer than the
// first, do not fit, though each two of them do.
func TestThreeThatGoRoundDoNotFit(t *testing.T) {
	for start := range 64 {
		l := []int{(start + 40) % 64, (start + 20) % 64, start}
		for k := range 3 {
			a, b := l[k], l[(k+1)%3]
			if newer, _ := impl.IsNewer(a, b); !newer {
				t.Fatalf("%d is not newer than %d", a, b)
			}
			if !mustFit(t, []int{a, b}) {
				t.Fatalf("FitsRing of %d and %d is false", a, b)
			}
		}
		if mustFit(t, l) {
			t.Fatalf("FitsRing(%v) is true", l)
		}
	}
}

// Wherever they begin, all numbers within less than half of the round fit, and
// with one that is half of it ahead of the first they do not.
func TestWithinHalfOfTheRoundAllFit(t *testing.T) {
	r := rand.New(rand.NewSource(51))
	for start := range 64 {
		for many := 1; many <= 32; many++ {
			l := arc(start, many)
			if !mustFit(t, l) {
				t.Fatalf("FitsRing(%v) is false", l)
			}
			r.Shuffle(len(l), func(i int, j int) { l[i], l[j] = l[j], l[i] })
			for len(l) < 40 && r.Intn(4) > 0 {
				l = append(l, l[r.Intn(len(l))])
			}
			if !mustFit(t, l) {
				t.Fatalf("FitsRing(%v) is false", l)
			}
			apart := append(arc(start, many), (start+32)%64)
			if mustFit(t, apart) {
				t.Fatalf("FitsRing(%v) is true", apart)
			}
		}
		for many := 33; many <= 40; many++ {
			if mustFit(t, arc(start, many)) {
				t.Fatalf("FitsRing(%v) is true", arc(start, many))
			}
		}
	}
}

// Those that fit stand in one order: sorted by IsNewer each is newer than all
// ahead of it.
func TestThoseThatFitStandInOneOrder(t *testing.T) {
	r := rand.New(rand.NewSource(52))
	for range 2000 {
		l := arc(r.Intn(64), 32)
		r.Shuffle(len(l), func(i int, j int) { l[i], l[j] = l[j], l[i] })
		l = l[:1+r.Intn(32)]
		slices.SortFunc(l, func(a int, b int) int {
			if newer, _ := impl.IsNewer(a, b); newer {
				return 1
			}
			return -1
		})
		for k, a := range l {
			for _, b := range l[:k] {
				if newer, ok := impl.IsNewer(a, b); !newer || !ok {
					t.Fatalf("%v: %d is not newer than %d", l, a, b)
				}
			}
		}
	}
}

func TestFitsRingOfEachTwo(t *testing.T) {
	for a := range 64 {
		for b := range 64 {
			if g, w := mustFit(t, []int{a, b}), (a+32)%64 != b; g != w {
				t.Errorf("FitsRing of %d and %d = %t", a, b, g)
			}
		}
	}
}

func TestFitsRingOfEachThree(t *testing.T) {
	for a := range 64 {
		for b := range 64 {
			for c := range 64 {
				half := (a+32)%64 == b || (b+32)%64 == c || (c+32)%64 == a
				round := newerAround(a, b, c) || newerAround(c, b, a)
				if g := mustFit(t, []int{a, b, c}); g != !(half || round) {
					t.Fatalf("FitsRing of %d, %d and %d = %t", a, b, c, g)
				}
			}
		}
	}
}

func newerAround(a int, b int, c int) bool {
	for _, two := range [][2]int{{a, b}, {b, c}, {c, a}} {
		if newer, _ := impl.IsNewer(two[0], two[1]); !newer {
			return false
		}
	}
	return true
}

func TestFitsRingByWords(t *testing.T) {
	r := rand.New(rand.NewSource(53))
	for range 3000 {
		start, wide := r.Intn(64), 28+r.Intn(37)
		var l []int
		for range r.Intn(41) {
			l = append(l, (start+r.Intn(wide))%64)
			if len(l) > 4 && r.Intn(3) == 0 {
				break
			}
		}
		if g, w := mustFit(t, l), fitsByWords(l); g != w {
			t.Fatalf("FitsRing(%v) = %t", l, g)
		}
	}
}

func TestFitsRingOfWhatIsNotAsSaid(t *testing.T) {
	lists := [][]int{slices.Repeat([]int{5}, 41), slices.Repeat([]int{5}, 42), arc(0, 41), arc(0, 64), slices.Repeat([]int{0}, 1000)}
	for _, wrong := range wrongSeqs() {
		lists = append(lists, []int{wrong}, []int{wrong, wrong}, []int{wrong, 5}, []int{5, wrong}, []int{5, wrong, 6},
			[]int{0, 32, wrong}, []int{0, 20, 40, wrong}, append(arc(5, 39), wrong), append([]int{wrong}, slices.Repeat([]int{5}, 39)...))
	}
	for _, l := range lists {
		kept := slices.Clone(l)
		if fits, ok := impl.FitsRing(l); fits || ok {
			t.Errorf("FitsRing(%v) = %t, %t", l, fits, ok)
		}
		if !slices.Equal(l, kept) {
			t.Errorf("%v was written into", kept)
		}
	}
}

func TestGoodItem(t *testing.T) {
	for _, x := range append(itemsAtEdges(), itemsOfAllKinds(arc(0, 64)...)...) {
		if !impl.GoodItem(x) {
			t.Errorf("not good: %v", x)
		}
	}
	for _, x := range itemsThatAreNone() {
		if impl.GoodItem(x) {
			t.Errorf("good: %v", x)
		}
	}
}

func TestGoodItemByWords(t *testing.T) {
	for _, from := range []int{-1, 0, 1, 2, 1000, 1001} {
		for _, seq := range []int{-1, 0, 1, 32, 63, 64} {
			for _, age := range []int{-1, 0, 1, 2, 20, 21} {
				for _, long := range []int{0, 1, 20, 21} {
					x := item(from, seq, age, strings.Repeat("q", long))
					if g, w := impl.GoodItem(x), goodItemByWords(x); g != w {
						t.Errorf("GoodItem(%v) = %t", x, g)
					}
				}
			}
		}
	}
}

func TestBetterByHand(t *testing.T) {
	for _, c := range []struct {
		a, b impl.Item
		want int
	}{
		{live(5, "a"), live(5, "a"), 0},
		{item(7, 5, 1, "a"), item(7, 5, 20, "a"), 0},
		{item(7, 5, 20, ""), item(7, 5, 1, ""), 0},
		{gone(5), gone(5), 0},
		{live(5, "a"), live(4, "a"), 1},
		{live(4, "a"), live(5, "a"), 2},
		{live(4, "b"), live(5, "a"), 2},
		{item(7, 0, 1, "a"), item(7, 63, 20, "b"), 1},
		{item(7, 63, 20, "b"), item(7, 0, 1, "a"), 2},
		{live(31, "a"), live(0, "a"), 1},
		{live(32, "a"), live(0, "a"), 3},
		{live(0, "a"), live(32, "a"), 3},
		{live(33, "a"), live(0, "a"), 2},
		{gone(32), gone(0), 3},
		{gone(32), live(0, "a"), 3},
		{live(0, "a"), gone(32), 3},
		{gone(5), live(5, "a"), 1},
		{live(5, "a"), gone(5), 2},
		{gone(5), live(5, ""), 1},
		{live(5, ""), gone(5), 2},
		{gone(5), item(7, 5, 1, ""), 1},
		{gone(5), live(6, "a"), 2},
		{live(6, "a"), gone(5), 1},
		{gone(6), live(5, "a"), 1},
		{gone(6), gone(5), 1},
		{gone(5), gone(6), 2},
		{live(5, "a"), live(5, "b"), 3},
		{live(5, "b"), live(5, "a"), 3},
		{live(5, ""), live(5, "a"), 3},
		{live(5, "a"), live(5, "aa"), 3},
		{item(7, 5, 20, "a"), item(7, 5, 1, "b"), 3},
		{item(7, 5, 1, "a"), item(7, 5, 20, "b"), 3},
	} {
		if g, ok := impl.Better(c.a, c.b); g != c.want || !ok {
			t.Errorf("Better(%v, %v) = %d, %t; asked for %d, true", c.a, c.b, g, ok, c.want)
		}
	}
}

// From either side the same one is told: 1 and 2 change places, 0 and 3 stay.
func TestBetterFromEitherSide(t *testing.T) {
	all := itemsOfAllKinds(0, 1, 30, 31, 32, 33, 62, 63)
	for _, a := range all {
		for _, b := range all {
			there, back := mustBetter(t, a, b), mustBetter(t, b, a)
			if there != betterByWords(a, b) {
				t.Fatalf("Better(%v, %v) = %d", a, b, there)
			}
			if back != [4]int{0, 2, 1, 3}[there] {
				t.Fatalf("Better(%v, %v) = %d, but %d from the other side", a, b, there, back)
			}
		}
	}
}

func TestBetterOfEachTwoSeqs(t *testing.T) {
	for a := range 64 {
		for b := range 64 {
			for _, two := range [][2]impl.Item{
				{live(a, "x"), live(b, "x")}, {live(a, "x"), live(b, "y")}, {gone(a), live(b, "x")}, {live(a, ""), gone(b)}, {gone(a), gone(b)},
			} {
				if g, w := mustBetter(t, two[0], two[1]), betterByWords(two[0], two[1]); g != w {
					t.Fatalf("Better(%v, %v) = %d", two[0], two[1], g)
				}
			}
			g, ok := impl.IsNewer(a, b)
			if better := mustBetter(t, live(a, "x"), live(b, "x")); !ok || g != (better == 1) {
				t.Fatalf("Seqs %d and %d: %t, but %d", a, b, g, better)
			}
		}
	}
}

// What follows is told Better, whatever became of what was there: the round
// ends nowhere.
func TestTheNextItemIsAlwaysBetter(t *testing.T) {
	for seq := range 64 {
		next, _ := impl.NextSeq(seq)
		for _, a := range itemsOfAllKinds(next) {
			for _, b := range itemsOfAllKinds(seq) {
				if g := mustBetter(t, a, b); g != 1 {
					t.Fatalf("Better(%v, %v) = %d", a, b, g)
				}
			}
		}
	}
}

func TestBetterOfTwoThatAreNotAsSaid(t *testing.T) {
	for _, two := range [][2]impl.Item{
		{item(1, 5, 3, "a"), item(2, 5, 3, "a")}, {item(1, 6, 3, "a"), item(2, 5, 3, "a")}, {item(1, 5, 0, ""), item(1000, 5, 0, "")},
		{item(1, 5, 0, ""), item(2, 5, 3, "")}, {item(999, 0, 1, ""), item(1000, 32, 1, "")},
	} {
		for _, told := range [][2]impl.Item{two, {two[1], two[0]}} {
			if g, ok := impl.Better(told[0], told[1]); g != 0 || ok {
				t.Errorf("Better(%v, %v) = %d, %t", told[0], told[1], g, ok)
			}
		}
	}
	for _, wrong := range itemsThatAreNone() {
		others := append(items(gone(5), live(5, "a"), live(4, ""), live(37, "a"), wrong), itemsThatAreNone()...)
		likeIt := live(5, "a")
		likeIt.From = wrong.From
		for _, other := range append(others, likeIt) {
			if g, ok := impl.Better(wrong, other); g != 0 || ok {
				t.Errorf("Better(%v, %v) = %d, %t", wrong, other, g, ok)
			}
			if g, ok := impl.Better(other, wrong); g != 0 || ok {
				t.Errorf("Better(%v, %v) = %d, %t", other, wrong, g, ok)
			}
		}
	}
}

func TestAgeItemByHand(t *testing.T) {
	for _, c := range []struct {
		x    impl.Item
		by   int
		want impl.Item
	}{
		{item(1, 5, 3, "a"), 0, item(1, 5, 3, "a")},
		{item(1, 5, 3, "a"), 1, item(1, 5, 2, "a")},
		{item(1, 5, 3, "a"), 2, item(1, 5, 1, "a")},
		{item(1, 5, 3, "a"), 3, item(1, 5, 0, "")},
		{item(1, 5, 3, "a"), 4, item(1, 5, 0, "")},
		{item(1, 5, 3, "a"), 100, item(1, 5, 0, "")},
		{item(1, 5, 3, ""), 2, item(1, 5, 1, "")},
		{item(1000, 63, 20, "abc"), 19, item(1000, 63, 1, "abc")},
		{item(1000, 63, 20, "abc"), 20, item(1000, 63, 0, "")},
		{item(1000, 63, 20, "abc"), 21, item(1000, 63, 0, "")},
		{item(1, 0, 0, ""), 0, item(1, 0, 0, "")},
		{item(1, 0, 0, ""), 1, item(1, 0, 0, "")},
		{item(1, 0, 0, ""), 100, item(1, 0, 0, "")},
	} {
		if g, ok := impl.AgeItem(c.x, c.by); g != c.want || !ok {
			t.Errorf("AgeItem(%v, %d) = %v, %t; asked for %v, true", c.x, c.by, g, ok, c.want)
		}
	}
}

func TestAgeItemByEach(t *testing.T) {
	for _, x := range itemsAtEdges() {
		for by := range 101 {
			want := item(x.From, x.Seq, 0, "")
			if x.Age > by {
				want.Age, want.Text = x.Age-by, x.Text
			}
			g, ok := impl.AgeItem(x, by)
			if g != want || !ok || !impl.GoodItem(g) {
				t.Fatalf("AgeItem(%v, %d) = %v, %t", x, by, g, ok)
			}
		}
	}
}

// An item that grows old bit by bit is as old as one that does so at once; as
// long as it is not gone it is alike, and once it is gone it is Better.
func TestAgeItemBitByBit(t *testing.T) {
	for _, x := range itemsAtEdges() {
		bit := x
		for by := 1; by <= 25; by++ {
			bit, _ = impl.AgeItem(bit, 1)
			once, ok := impl.AgeItem(x, by)
			if bit != once || !ok {
				t.Fatalf("%v grows to %v, but at once to %v", x, bit, once)
			}
			want := 0
			if bit.Age == 0 && x.Age > 0 {
				want = 1
			}
			if g := mustBetter(t, bit, x); g != want {
				t.Fatalf("Better(%v, %v) = %d", bit, x, g)
			}
		}
	}
}

func TestAgeItemThatCantBe(t *testing.T) {
	wrongBys := []int{-1, 101, -2, 102, -100, 256, 1 << 32, 1<<32 + 1, math.MinInt, math.MinInt + 1, math.MaxInt, math.MaxInt - 1}
	for _, x := range itemsAtEdges() {
		for _, by := range wrongBys {
			if g, ok := impl.AgeItem(x, by); g != (impl.Item{}) || ok {
				t.Errorf("AgeItem(%v, %d) = %v, %t", x, by, g, ok)
			}
		}
	}
	for _, wrong := range itemsThatAreNone() {
		for _, by := range append(wrongBys, 0, 1, 3, 20, 21, 100) {
			if g, ok := impl.AgeItem(wrong, by); g != (impl.Item{}) || ok {
				t.Errorf("AgeItem(%v, %d) = %v, %t", wrong, by, g, ok)
			}
		}
	}
}

func TestNewestOfByHand(t *testing.T) {
	for _, c := range []struct {
		l    []impl.Item
		want int
	}{
		{items(live(5, "a")), 0},
		{items(gone(5)), 0},
		{items(live(4, "a"), live(5, "b")), 1},
		{items(live(5, "a"), live(4, "b")), 0},
		{items(live(63, "a"), live(0, "b")), 1},
		{items(live(60, "a"), live(5, "b"), live(63, "c")), 1},
		{items(live(5, "a"), gone(5)), 1},
		{items(gone(5), live(5, "a")), 0},
		{items(gone(5), live(6, "a")), 1},
		{items(item(7, 5, 1, "a"), item(7, 5, 20, "a")), 0},
		{items(item(7, 5, 20, "a"), item(7, 5, 1, "a")), 0},
		{items(live(4, "a"), item(7, 5, 2, "b"), item(7, 5, 3, "b")), 1},
		{items(live(5, "a"), live(5, "b")), 0},
		{items(live(5, "b"), live(5, "a")), 0},
		{items(live(5, "b"), live(5, "a"), gone(5)), 2},
		{items(live(0, "a"), live(32, "b")), 0},
		{items(live(32, "a"), live(0, "b")), 0},
		{items(live(0, "a"), live(32, "b"), live(1, "c")), 1},
		{items(live(0, "a"), live(1, "c"), live(32, "b")), 2},
		{items(live(0, "a"), live(20, "b"), live(32, "c")), 2},
		{items(live(0, "a"), live(32, "b"), live(33, "c")), 0},
		{items(live(0, "a"), live(20, "b"), live(31, "c"), live(32, "d")), 3},
	} {
		if g, ok := impl.NewestOf(c.l); g != c.l[c.want] || !ok {
			t.Errorf("NewestOf(%v) = %v, %t; asked for %v, true", c.l, g, ok, c.l[c.want])
		}
	}
}

// Where three go round each is outdone by another, gone or not.
func TestNewestOfWhereThereIsNone(t *testing.T) {
	for start := range 64 {
		a, b, c := start, (start+20)%64, (start+40)%64
		for _, l := range [][]impl.Item{
			{live(a, "a"), live(b, "a"), live(c, "a")},
			{live(c, "a"), live(b, "b"), live(a, "c")},
			{gone(a), gone(b), gone(c)},
			{gone(a), live(b, "b"), live(c, "")},
			{live(a, "a"), live(a, "b"), live(b, "a"), live(c, "a"), live(c, "a")},
			{live(a, "a"), live(b, "b"), live(c, "c"), live((start+52)%64, "d")},
		} {
			if g, ok := impl.NewestOf(l); g != (impl.Item{}) || ok {
				t.Errorf("NewestOf(%v) = %v, %t", l, g, ok)
			}
		}
	}
}

// None in the list is told Better than the one that is told, and of those ahead
// of it each has one that is.
func TestNewestOfIsTheFirstThatIsNotOutdone(t *testing.T) {
	r := rand.New(rand.NewSource(54))
	found, none := 0, 0
	for range 20000 {
		l := randomItems(r, 1+r.Intn(20))
		g, ok := impl.NewestOf(l)
		at := newestByWords(l)
		if at < 0 {
			none++
			if g != (impl.Item{}) || ok {
				t.Fatalf("NewestOf(%v) = %v, %t", l, g, ok)
			}
			continue
		}
		found++
		if g != l[at] || !ok {
			t.Fatalf("NewestOf(%v) = %v, %t; asked for %v", l, g, ok, l[at])
		}
		for k, x := range l {
			if mustBetter(t, x, g) == 1 {
				t.Fatalf("NewestOf(%v) = %v, but %v is Better", l, g, x)
			}
			outdone := slices.ContainsFunc(l, func(y impl.Item) bool { return mustBetter(t, y, x) == 1 })
			if k < at && !outdone {
				t.Fatalf("NewestOf(%v) = %v, but %v is ahead of it", l, g, x)
			}
		}
	}
	if found < 1000 || none < 1000 {
		t.Errorf("%d lists with one, %d without", found, none)
	}
}

// Of numbers that fit in one order the newest one is told, wherever it stands.
func TestNewestOfThoseThatFit(t *testing.T) {
	r := rand.New(rand.NewSource(55))
	for start := range 64 {
		for many := 1; many <= 20; many++ {
			seqs := arc(start, 32)[32-many:]
			newest := seqs[many-1]
			r.Shuffle(many, func(i int, j int) { seqs[i], seqs[j] = seqs[j], seqs[i] })
			var l []impl.Item
			for _, seq := range seqs {
				l = append(l, live(seq, "a"))
			}
			if g, ok := impl.NewestOf(l); g != live(newest, "a") || !ok {
				t.Fatalf("NewestOf(%v) = %v, %t", l, g, ok)
			}
		}
	}
}

func TestNewestOfAsGoodOnesTakesTheFirst(t *testing.T) {
	for many := 1; many <= 20; many++ {
		for at := range many {
			l := slices.Repeat(items(live(62, "old")), many)
			for k := at; k < many; k++ {
				l[k] = item(7, 1, 1+k%20, "new")
			}
			if g, ok := impl.NewestOf(l); g != l[at] || !ok {
				t.Fatalf("NewestOf(%v) = %v, %t", l, g, ok)
			}
			for k := at; k < many; k++ {
				l[k].Text = strings.Repeat("n", many-k)
			}
			if g, ok := impl.NewestOf(l); g != l[at] || !ok {
				t.Fatalf("NewestOf(%v) = %v, %t", l, g, ok)
			}
		}
	}
}

func TestNewestOfWhatIsNotAsSaid(t *testing.T) {
	lists := [][]impl.Item{
		nil, {}, slices.Repeat(items(live(5, "a")), 21), slices.Repeat(items(live(5, "a")), 22), slices.Repeat(items(gone(5)), 1000),
		{item(1, 5, 3, "a"), item(2, 5, 3, "a")}, {item(2, 5, 3, "a"), item(1, 5, 3, "a")}, {item(1, 5, 3, "a"), item(2, 4, 3, "a")},
		{live(5, "a"), live(6, "a"), item(8, 5, 3, "a")}, {item(8, 5, 3, "a"), live(5, "a"), live(6, "a")}, {gone(5), item(8, 5, 0, ""), gone(5)},
		append(slices.Repeat(items(live(5, "a")), 19), item(8, 5, 3, "a")),
	}
	for _, wrong := range itemsThatAreNone() {
		likeIt := live(5, "a")
		likeIt.From = wrong.From
		lists = append(lists, items(wrong), items(wrong, wrong), items(wrong, likeIt), items(likeIt, wrong),
			items(live(5, "a"), wrong), items(wrong, live(5, "a")), items(live(6, "a"), wrong, live(5, "a")), items(live(4, ""), live(6, "a"), wrong),
			append(slices.Repeat(items(live(5, "a")), 19), wrong))
	}
	for _, l := range lists {
		kept := slices.Clone(l)
		if g, ok := impl.NewestOf(l); g != (impl.Item{}) || ok {
			t.Errorf("NewestOf(%v) = %v, %t", l, g, ok)
		}
		if !slices.Equal(l, kept) {
			t.Errorf("%v was written into", kept)
		}
	}
}

// What lies behind a list of numbers, or of items, is neither read nor written,
// and the list stays as it was.
func TestRoundWritesIntoNoArgument(t *testing.T) {
	r := rand.New(rand.NewSource(56))
	for range 500 {
		nums := arc(r.Intn(64), 25+r.Intn(16))
		r.Shuffle(len(nums), func(i int, j int) { nums[i], nums[j] = nums[j], nums[i] })
		nums = nums[:r.Intn(len(nums)+1)]
		given := behind(nums)
		if g, w := mustFit(t, given), fitsByWords(nums); g != w {
			t.Fatalf("FitsRing(%v) = %t", nums, g)
		}
		if !slices.Equal(given, nums) || !isUntouched(given) {
			t.Fatalf("%v, or what lies behind it, was written into", nums)
		}
		made := randomItems(r, 1+r.Intn(20))
		newer := made[0]
		newer.Seq = (newer.Seq + 16) % 64
		memory := append(slices.Clone(made), newer, impl.Item{}, newer)
		kept := slices.Clone(memory)
		g, ok := impl.NewestOf(memory[:len(made)])
		if at := newestByWords(made); ok != (at >= 0) || ok && g != made[at] {
			t.Fatalf("NewestOf(%v) = %v, %t", made, g, ok)
		}
		if !slices.Equal(memory, kept) {
			t.Fatalf("%v, or what lies behind it, was written into", made)
		}
	}
}

// The empty list and the nil list are the same value.
func TestEmptyAndNilListsOfTheRound(t *testing.T) {
	for _, l := range [][]int{nil, {}, arc(0, 40)[:0]} {
		if fits, ok := impl.FitsRing(l); !fits || !ok {
			t.Errorf("FitsRing of none = %t, %t", fits, ok)
		}
	}
	for _, l := range [][]impl.Item{nil, {}, items(live(5, "a"))[:0]} {
		if g, ok := impl.NewestOf(l); g != (impl.Item{}) || ok {
			t.Errorf("NewestOf of none = %v, %t", g, ok)
		}
	}
}
