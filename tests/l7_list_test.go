package tests

import (
	"math"
	"math/rand"
	"slices"
	"testing"

	"loop.example/g00575/impl"
)

func have(from int, seq int) impl.Have { return impl.Have{From: from, Seq: seq} }

func haves(l ...impl.Have) []impl.Have { return l }

func summary(lo int, hi int, l ...impl.Have) impl.Summary {
	return impl.Summary{Lo: lo, Hi: hi, List: l}
}

func sameSummary(a impl.Summary, b impl.Summary) bool {
	return a.Lo == b.Lo && a.Hi == b.Hi && slices.Equal(a.List, b.List)
}

func sameSummaries(a []impl.Summary, b []impl.Summary) bool {
	return slices.EqualFunc(a, b, sameSummary)
}

func copyOfSummaries(l []impl.Summary) []impl.Summary {
	var own []impl.Summary
	for _, s := range l {
		own = append(own, summary(s.Lo, s.Hi, slices.Clone(s.List)...))
	}
	return own
}

// goodHavesByWords is the document's sentence on Haves, word by word.
func goodHavesByWords(l []impl.Have) bool {
	last := 0
	for _, h := range l {
		if h.From <= last || h.From > 1000 || h.Seq < 1 || h.Seq > 1000 {
			return false
		}
		last = h.From
	}
	return len(l) <= 30
}

func goodSummaryByWords(s impl.Summary) bool {
	return goodHavesByWords(s.List) && 1 <= s.Lo && s.Lo <= s.Hi && s.Hi <= 1000 &&
		!slices.ContainsFunc(s.List, func(h impl.Have) bool { return h.From < s.Lo || s.Hi < h.From })
}

// seqsByWords has for each From its Seq, and 0 for none.
func seqsByWords(l []impl.Have) [1001]int {
	var seqs [1001]int
	for _, h := range l {
		seqs[h.From] = h.Seq
	}
	return seqs
}

func havesByWords(seqs [1001]int) []impl.Have {
	var l []impl.Have
	for from, seq := range seqs {
		if seq > 0 {
			l = append(l, have(from, seq))
		}
	}
	return l
}

func mergeByWords(a []impl.Have, b []impl.Have) []impl.Have {
	all, other := seqsByWords(a), seqsByWords(b)
	for from, seq := range other {
		if seq > all[from] {
			all[from] = seq
		}
	}
	return havesByWords(all)
}

// cutByWords looks for the summary of each place of the list.
func cutByWords(l []impl.Have, most int) []impl.Summary {
	cut := []impl.Summary{{Lo: 1, Hi: 1000}}
	for k, h := range l {
		if k > 0 && k%most == 0 {
			cut[len(cut)-1].Hi = l[k-1].From
			cut = append(cut, impl.Summary{Lo: l[k-1].From + 1, Hi: 1000})
		}
		last := &cut[len(cut)-1]
		last.List = append(last.List, h)
	}
	return cut
}

func askByWords(l []impl.Have, s impl.Summary) ([]int, []impl.Have) {
	own, told := seqsByWords(l), seqsByWords(s.List)
	var asked []int
	var beyond []impl.Have
	for from := 1; from <= 1000; from++ {
		if told[from] > own[from] {
			asked = append(asked, from)
		}
		if s.Lo <= from && from <= s.Hi && own[from] > told[from] {
			beyond = append(beyond, have(from, own[from]))
		}
	}
	return asked, beyond
}

// syncByWords has both lists get, part by part, what the other one is to send.
// Where they come to more than 30 it tells false.
func syncByWords(a []impl.Have, b []impl.Have, most int) ([]impl.Have, []impl.Have, int, bool) {
	ofA, ofB, went := seqsByWords(a), seqsByWords(b), 0
	for _, part := range cutByWords(a, most) {
		asked, beyond := askByWords(havesByWords(ofB), part)
		for _, from := range asked {
			ofB[from] = seqsByWords(part.List)[from]
		}
		for _, h := range beyond {
			ofA[h.From] = h.Seq
		}
		went += len(asked) + len(beyond)
	}
	a, b = havesByWords(ofA), havesByWords(ofB)
	if !goodHavesByWords(a) || !goodHavesByWords(b) {
		return nil, nil, 0, false
	}
	return a, b, went, true
}

// havesFrom has many Haves, the From one behind the other from first on.
func havesFrom(first int, many int) []impl.Have {
	var l []impl.Have
	for k := range many {
		l = append(l, have(first+k, 1+k%1000))
	}
	return l
}

// spreadHaves has many Haves from 1 to MaxFrom, for many of 2 and more.
func spreadHaves(many int) []impl.Have {
	var l []impl.Have
	for k := range many {
		l = append(l, have(1+k*999/max(many-1, 1), 1000-k))
	}
	return l
}

func randomHaves(r *rand.Rand, many int, topFrom int, topSeq int) []impl.Have {
	var l []impl.Have
	for _, place := range r.Perm(topFrom)[:min(many, topFrom)] {
		l = append(l, have(place+1, 1+r.Intn(topSeq)))
	}
	slices.SortFunc(l, func(a impl.Have, b impl.Have) int { return a.From - b.From })
	return l
}

// randomTwo has two lists that may have all or few of their From in common, and
// that may come to more than 30.
func randomTwo(r *rand.Rand) ([]impl.Have, []impl.Have) {
	topFrom := []int{1, 2, 5, 20, 29, 30, 31, 32, 40, 60, 1000}[r.Intn(11)]
	topSeq := []int{1, 2, 3, 10, 1000}[r.Intn(5)]
	a := randomHaves(r, r.Intn(31), topFrom, topSeq)
	b := randomHaves(r, r.Intn(31), topFrom, topSeq)
	shift := r.Intn(1001 - topFrom)
	for _, l := range [][]impl.Have{a, b} {
		for k := range l {
			l[k].From += shift
		}
	}
	return a, b
}

// smallLists are all lists of four From at the edges with Seqs of 1 and 2.
func smallLists() [][]impl.Have {
	l := [][]impl.Have{nil}
	for _, from := range []int{1, 2, 999, 1000} {
		for _, ahead := range slices.Clone(l) {
			for _, seq := range []int{1, 2} {
				l = append(l, append(slices.Clone(ahead), have(from, seq)))
			}
		}
	}
	return l
}

func wrongHaves() []impl.Have {
	l := haves(impl.Have{}, have(0, 1001), have(1001, 0), have(math.MinInt, math.MinInt), have(math.MaxInt, math.MaxInt), have(math.MinInt, math.MaxInt))
	for _, n := range []int{0, -1, 1001, 1002, -1000, 1 << 32, 1<<32 + 5, -1 << 32, math.MinInt, math.MinInt + 1, math.MaxInt, math.MaxInt - 1} {
		l = append(l, have(n, 5), have(500, n))
	}
	return l
}

func havesThatAreNone() [][]impl.Have {
	l := [][]impl.Have{
		havesFrom(1, 31), havesFrom(970, 31), havesFrom(1, 32), havesFrom(1, 1000),
		haves(have(3, 5), have(3, 5)), haves(have(3, 5), have(3, 6)), haves(have(3, 6), have(3, 5)),
		haves(have(4, 5), have(3, 5)), haves(have(1000, 1), have(1, 1)),
		haves(have(1, 1), have(2, 1), have(2, 1)), haves(have(1, 1), have(3, 1), have(2, 1)), haves(have(2, 1), have(1, 1), have(3, 1)),
		append(havesFrom(2, 29), have(30, 7)), append(havesFrom(2, 29), have(1, 7)),
	}
	for _, wrong := range wrongHaves() {
		l = append(l, haves(wrong))
		for at := range 3 {
			three := haves(have(2, 5), have(500, 5), have(999, 5))
			three[at] = wrong
			l = append(l, three)
		}
		l = append(l, append(havesFrom(1, 29), wrong), append(haves(wrong), havesFrom(2, 29)...))
	}
	return l
}

// summariesThatAreNone are each wrong in one place, all else being as said.
func summariesThatAreNone() []impl.Summary {
	l := []impl.Summary{
		{}, summary(0, 0), summary(0, 1000), summary(0, 5, have(5, 1)), summary(-1, 5), summary(math.MinInt, 5), summary(math.MinInt, math.MaxInt),
		summary(1, 1001), summary(1001, 1001), summary(1000, 1001, have(1000, 1)), summary(1, math.MaxInt), summary(math.MaxInt, math.MaxInt),
		summary(math.MaxInt, math.MinInt), summary(math.MinInt, math.MinInt), summary(1, 0), summary(1, math.MinInt),
		summary(6, 5), summary(1000, 999), summary(1000, 1), summary(2, 1), summary(6, 5, have(5, 1)), summary(6, 5, have(6, 1)),
		summary(5, 9, have(4, 1)), summary(5, 9, have(10, 1)), summary(5, 5, have(4, 1)), summary(5, 5, have(6, 1)),
		summary(5, 9, have(4, 1), have(5, 1)), summary(5, 9, have(9, 1), have(10, 1)), summary(5, 9, have(5, 1), have(9, 1), have(10, 1)),
		summary(5, 9, have(4, 1), have(5, 1), have(9, 1)), summary(5, 9, have(1, 1)), summary(5, 9, have(1000, 1)),
		summary(2, 1000, have(1, 1)), summary(1, 999, have(1000, 1)),
		summary(1, 29, havesFrom(1, 30)...), summary(2, 30, havesFrom(1, 30)...),
	}
	for _, none := range havesThatAreNone() {
		l = append(l, summary(1, 1000, none...))
	}
	return l
}

func wrongMosts() []int {
	return []int{math.MinInt, math.MinInt + 1, -1 << 32, -30, -1, 0, 31, 32, 60, 1000, 1<<32 + 1, math.MaxInt - 1, math.MaxInt}
}

func wantHaves(t *testing.T, told string, g []impl.Have, w []impl.Have) {
	t.Helper()
	if !slices.Equal(g, w) {
		t.Fatalf("%s: %v, not %v", told, g, w)
	}
}

func mustCut(t *testing.T, l []impl.Have, most int) []impl.Summary {
	t.Helper()
	cut, ok := impl.CutHaves(l, most)
	if !ok {
		t.Fatalf("CutHaves(%v, %d) is refused", l, most)
	}
	return cut
}

func mustAsk(t *testing.T, l []impl.Have, s impl.Summary) ([]int, []impl.Have) {
	t.Helper()
	asked, beyond, ok := impl.AskFor(l, s)
	if !ok {
		t.Fatalf("AskFor(%v, %v) is refused", l, s)
	}
	return asked, beyond
}

func mustMerge(t *testing.T, a []impl.Have, b []impl.Have) []impl.Have {
	t.Helper()
	l, ok := impl.MergeHaves(a, b)
	if !ok {
		t.Fatalf("MergeHaves(%v, %v) is refused", a, b)
	}
	return l
}

func mustSync(t *testing.T, a []impl.Have, b []impl.Have, most int) ([]impl.Have, []impl.Have, int) {
	t.Helper()
	x, y, went, ok := impl.SyncBy(a, b, most)
	if !ok {
		t.Fatalf("SyncBy(%v, %v, %d) is refused", a, b, most)
	}
	return x, y, went
}

func cantCut(t *testing.T, l []impl.Have, most int) {
	t.Helper()
	if cut, ok := impl.CutHaves(l, most); ok || len(cut) != 0 {
		t.Fatalf("CutHaves(%v, %d) = %v, %v", l, most, cut, ok)
	}
}

func cantAsk(t *testing.T, l []impl.Have, s impl.Summary) {
	t.Helper()
	if asked, beyond, ok := impl.AskFor(l, s); ok || len(asked) != 0 || len(beyond) != 0 {
		t.Fatalf("AskFor(%v, %v) = %v, %v, %v", l, s, asked, beyond, ok)
	}
}

func cantMerge(t *testing.T, a []impl.Have, b []impl.Have) {
	t.Helper()
	if l, ok := impl.MergeHaves(a, b); ok || len(l) != 0 {
		t.Fatalf("MergeHaves(%v, %v) = %v, %v", a, b, l, ok)
	}
}

func cantSync(t *testing.T, a []impl.Have, b []impl.Have, most int) {
	t.Helper()
	if x, y, went, ok := impl.SyncBy(a, b, most); ok || len(x) != 0 || len(y) != 0 || went != 0 {
		t.Fatalf("SyncBy(%v, %v, %d) = %v, %v, %d, %v", a, b, most, x, y, went, ok)
	}
}

func TestListConstants(t *testing.T) {
	if impl.MaxHave != 30 || impl.MaxFrom != 1000 {
		t.Error(impl.MaxHave, impl.MaxFrom)
	}
}

func TestGoodHavesByHand(t *testing.T) {
	for _, l := range [][]impl.Have{
		nil, {},
		haves(have(1, 1)), haves(have(1, 1000)), haves(have(1000, 1)), haves(have(1000, 1000)), haves(have(2, 2)), haves(have(999, 999)),
		haves(have(1, 5), have(2, 5)), haves(have(1, 6), have(2, 5)), haves(have(1, 5), have(1000, 5)), haves(have(999, 1), have(1000, 1)),
		havesFrom(1, 29), havesFrom(1, 30), havesFrom(971, 30), spreadHaves(30),
	} {
		if !impl.GoodHaves(l) {
			t.Errorf("not good: %v", l)
		}
	}
	for _, l := range havesThatAreNone() {
		if impl.GoodHaves(l) {
			t.Errorf("good: %v", l)
		}
	}
}

// damageHaves changes one thing of a list, which may stay good.
func damageHaves(r *rand.Rand, l []impl.Have) []impl.Have {
	n := []int{math.MinInt, -1, 0, 1, 2, 500, 999, 1000, 1001, math.MaxInt}[r.Intn(10)]
	k := r.Intn(len(l) + 1)
	switch {
	case k == len(l):
		return append(l, have(n, 1+r.Intn(3)))
	case r.Intn(4) == 0:
		return slices.Insert(l, k, l[k])
	case r.Intn(4) == 0:
		l[k], l[0] = l[0], l[k]
	case r.Intn(2) == 0:
		l[k].From = n
	default:
		l[k].Seq = n
	}
	return l
}

func TestGoodHavesByWords(t *testing.T) {
	r := rand.New(rand.NewSource(701))
	good := 0
	for range 20000 {
		l, _ := randomTwo(r)
		if !impl.GoodHaves(l) || !goodHavesByWords(l) {
			t.Fatalf("not good: %v", l)
		}
		l = damageHaves(r, l)
		if g, w := impl.GoodHaves(l), goodHavesByWords(l); g != w {
			t.Fatalf("GoodHaves(%v) = %v", l, g)
		} else if g {
			good++
		}
	}
	if good < 1000 || good > 19000 {
		t.Errorf("%d are good: too few of one sort", good)
	}
}

func TestGoodSummaryByHand(t *testing.T) {
	for _, s := range []impl.Summary{
		summary(1, 1), summary(1, 1000), summary(1000, 1000), summary(5, 5), summary(1, 2), summary(999, 1000),
		{Lo: 3, Hi: 3, List: []impl.Have{}},
		summary(5, 5, have(5, 1)), summary(1, 1, have(1, 1000)), summary(1000, 1000, have(1000, 1)),
		summary(5, 9, have(5, 1)), summary(5, 9, have(9, 1)), summary(5, 9, have(6, 1)), summary(5, 9, have(8, 1)),
		summary(5, 9, have(5, 1), have(9, 1)), summary(1, 1000, have(1, 1), have(1000, 1)),
		summary(1, 30, havesFrom(1, 30)...), summary(1, 1000, havesFrom(971, 30)...), summary(971, 1000, havesFrom(971, 30)...),
	} {
		if !impl.GoodSummary(s) {
			t.Errorf("not good: %v", s)
		}
	}
	for _, s := range summariesThatAreNone() {
		if impl.GoodSummary(s) {
			t.Errorf("good: %v", s)
		}
	}
}

// Each Lo, Hi and From about some few, and about both ends.
func TestGoodSummaryOfEachEdge(t *testing.T) {
	at := []int{math.MinInt, -1, 0, 1, 2, 4, 5, 6, 999, 1000, 1001, math.MaxInt}
	for _, lo := range at {
		for _, hi := range at {
			for _, one := range at {
				for _, other := range at {
					for _, s := range []impl.Summary{summary(lo, hi), summary(lo, hi, have(one, 1)), summary(lo, hi, have(one, 1), have(other, 1))} {
						if g := impl.GoodSummary(s); g != goodSummaryByWords(s) {
							t.Fatalf("GoodSummary(%v) = %v", s, g)
						}
					}
				}
			}
		}
	}
}

func TestSeqForByHand(t *testing.T) {
	l := haves(have(1, 9), have(5, 1000), have(6, 1), have(1000, 7))
	for from, want := range map[int]int{1: 9, 2: 0, 4: 0, 5: 1000, 6: 1, 7: 0, 999: 0, 1000: 7} {
		if seq, ok := impl.SeqFor(l, from); seq != want || !ok {
			t.Errorf("SeqFor(%v, %d) = %d, %v", l, from, seq, ok)
		}
	}
	for _, from := range []int{math.MinInt, -5, -1, 0, 1001, 1002, 1<<32 + 5, math.MaxInt} {
		for _, l := range [][]impl.Have{nil, l, havesFrom(1, 30)} {
			if seq, ok := impl.SeqFor(l, from); seq != 0 || ok {
				t.Errorf("SeqFor(%v, %d) = %d, %v", l, from, seq, ok)
			}
		}
	}
}

func TestSeqForOfEachFrom(t *testing.T) {
	for _, l := range [][]impl.Have{nil, {}, haves(have(1, 3)), haves(have(1000, 4)), havesFrom(1, 30), havesFrom(971, 30), spreadHaves(30)} {
		seqs := seqsByWords(l)
		for from := 1; from <= 1000; from++ {
			if seq, ok := impl.SeqFor(l, from); seq != seqs[from] || !ok {
				t.Fatalf("SeqFor(%v, %d) = %d, %v", l, from, seq, ok)
			}
		}
	}
}

func TestMergeHavesByHand(t *testing.T) {
	for _, c := range []struct{ a, b, want []impl.Have }{
		{nil, nil, nil},
		{haves(have(3, 4)), nil, haves(have(3, 4))},
		{nil, haves(have(3, 4)), haves(have(3, 4))},
		{haves(have(3, 4)), haves(have(3, 4)), haves(have(3, 4))},
		{haves(have(3, 5)), haves(have(3, 4)), haves(have(3, 5))},
		{haves(have(3, 4)), haves(have(3, 5)), haves(have(3, 5))},
		{haves(have(3, 1000)), haves(have(3, 1)), haves(have(3, 1000))},
		{haves(have(3, 1)), haves(have(4, 2)), haves(have(3, 1), have(4, 2))},
		{haves(have(4, 2)), haves(have(3, 1)), haves(have(3, 1), have(4, 2))},
		{haves(have(1, 1), have(1000, 1)), haves(have(1, 2), have(500, 3)), haves(have(1, 2), have(500, 3), have(1000, 1))},
		{haves(have(1, 1), have(5, 2), have(9, 1)), haves(have(5, 1), have(6, 1)), haves(have(1, 1), have(5, 2), have(6, 1), have(9, 1))},
		{havesFrom(1, 30), havesFrom(1, 30), havesFrom(1, 30)},
		{havesFrom(1, 30), nil, havesFrom(1, 30)},
		{nil, havesFrom(971, 30), havesFrom(971, 30)},
	} {
		wantHaves(t, "MergeHaves", mustMerge(t, c.a, c.b), c.want)
	}
}

func TestMergeHavesUpTo30(t *testing.T) {
	for many := range 31 {
		a, b := havesFrom(1, many), havesFrom(500, 30-many)
		wantHaves(t, "30 of two", mustMerge(t, a, b), append(slices.Clone(a), b...))
		wantHaves(t, "30 of two", mustMerge(t, b, a), append(slices.Clone(a), b...))
		// One more than 30, be it ahead, between or behind.
		for _, first := range []int{499, 470} {
			more := append(haves(have(first, 1)), b...)
			if len(more) > 30 {
				continue
			}
			cantMerge(t, a, more)
			cantMerge(t, more, a)
		}
	}
	full := havesFrom(500, 30)
	for _, one := range []int{1, 499, 530, 1000} {
		cantMerge(t, full, haves(have(one, 1)))
		cantMerge(t, haves(have(one, 1)), full)
	}
	for _, one := range []int{500, 515, 529} {
		want := mergeByWords(full, haves(have(one, 1000)))
		wantHaves(t, "one of the 30", mustMerge(t, full, haves(have(one, 1000))), want)
		wantHaves(t, "one of the 30", mustMerge(t, haves(have(one, 1000)), full), want)
	}
	cantMerge(t, full, havesFrom(1, 30))
	cantMerge(t, full, havesFrom(501, 30))
}

func TestCutHavesByHand(t *testing.T) {
	three := haves(have(1, 1), have(5, 2), have(9, 1))
	last := haves(have(2, 3), have(1000, 4))
	for _, c := range []struct {
		l    []impl.Have
		most int
		want []impl.Summary
	}{
		{nil, 1, []impl.Summary{summary(1, 1000)}},
		{nil, 30, []impl.Summary{summary(1, 1000)}},
		{three, 1, []impl.Summary{summary(1, 1, three[0]), summary(2, 5, three[1]), summary(6, 1000, three[2])}},
		{three, 2, []impl.Summary{summary(1, 5, three[:2]...), summary(6, 1000, three[2])}},
		{three, 3, []impl.Summary{summary(1, 1000, three...)}},
		{three, 4, []impl.Summary{summary(1, 1000, three...)}},
		{three, 30, []impl.Summary{summary(1, 1000, three...)}},
		{last, 1, []impl.Summary{summary(1, 2, last[0]), summary(3, 1000, last[1])}},
		{last, 2, []impl.Summary{summary(1, 1000, last...)}},
		{haves(have(1000, 1)), 1, []impl.Summary{summary(1, 1000, have(1000, 1))}},
		{haves(have(999, 1), have(1000, 1)), 1, []impl.Summary{summary(1, 999, have(999, 1)), summary(1000, 1000, have(1000, 1))}},
		{havesFrom(1, 30), 30, []impl.Summary{summary(1, 1000, havesFrom(1, 30)...)}},
		{havesFrom(1, 30), 29, []impl.Summary{summary(1, 29, havesFrom(1, 29)...), summary(30, 1000, have(30, 30))}},
	} {
		if cut := mustCut(t, c.l, c.most); !sameSummaries(cut, c.want) {
			t.Errorf("CutHaves(%v, %d) = %v", c.l, c.most, cut)
		}
	}
}

// Promise 7: the parts are good, they have one behind the other all that there
// is, and their Lo..Hi all that may be, none twice.
func tellsAll(t *testing.T, l []impl.Have, most int) {
	t.Helper()
	cut := mustCut(t, l, most)
	var all []impl.Have
	covered := 0
	for k, part := range cut {
		if !impl.GoodSummary(part) || !goodSummaryByWords(part) {
			t.Fatalf("CutHaves(%v, %d): part %d is not good: %v", l, most, k, part)
		}
		if part.Lo != covered+1 {
			t.Fatalf("CutHaves(%v, %d): part %d begins at %d behind %d", l, most, k, part.Lo, covered)
		}
		if k < len(cut)-1 && (len(part.List) != most || part.Hi != part.List[most-1].From) {
			t.Fatalf("CutHaves(%v, %d): part %d is %v", l, most, k, part)
		}
		all, covered = append(all, part.List...), part.Hi
		asked, beyond := mustAsk(t, l, part)
		if len(asked) != 0 || len(beyond) != 0 {
			t.Fatalf("of its own part %v the list %v asks for %v, and has beyond %v", part, l, asked, beyond)
		}
	}
	if many := len(cut[len(cut)-1].List); covered != 1000 || many > most || many == 0 && len(l) > 0 {
		t.Fatalf("CutHaves(%v, %d) = %v", l, most, cut)
	}
	wantHaves(t, "all parts", all, l)
}

func TestCutHavesTellsAll(t *testing.T) {
	r := rand.New(rand.NewSource(702))
	for many := range 31 {
		for most := 1; most <= 30; most++ {
			for _, l := range [][]impl.Have{havesFrom(1, many), havesFrom(1001-many, many), spreadHaves(many), randomHaves(r, many, 1000, 1000), randomHaves(r, many, 30, 3)} {
				tellsAll(t, l, most)
				if cut := mustCut(t, l, most); len(cut) != max(1, (many+most-1)/most) || !sameSummaries(cut, cutByWords(l, most)) {
					t.Fatalf("CutHaves(%v, %d) = %v", l, most, cut)
				}
			}
		}
	}
}

func TestAskForByHand(t *testing.T) {
	for _, c := range []struct {
		l      []impl.Have
		s      impl.Summary
		asked  []int
		beyond []impl.Have
	}{
		{nil, summary(1, 1000), nil, nil},
		{nil, summary(5, 5, have(5, 1)), []int{5}, nil},
		{haves(have(5, 1)), summary(5, 5), nil, haves(have(5, 1))},
		// As great, greater there, less there.
		{haves(have(5, 7)), summary(5, 5, have(5, 7)), nil, nil},
		{haves(have(5, 7)), summary(5, 5, have(5, 8)), []int{5}, nil},
		{haves(have(5, 7)), summary(5, 5, have(5, 6)), nil, haves(have(5, 7))},
		{haves(have(5, 1)), summary(5, 5, have(5, 1000)), []int{5}, nil},
		{haves(have(5, 1000)), summary(5, 5, have(5, 1)), nil, haves(have(5, 1000))},
		// What it has beside Lo..Hi is not spoken of.
		{haves(have(4, 1), have(5, 1), have(9, 1), have(10, 1)), summary(5, 9), nil, haves(have(5, 1), have(9, 1))},
		{haves(have(4, 1), have(10, 1)), summary(5, 9), nil, nil},
		{haves(have(1, 9), have(1000, 9)), summary(2, 999, have(2, 1), have(999, 1)), []int{2, 999}, nil},
		{haves(have(1, 9), have(1000, 9)), summary(1, 1000, have(2, 1), have(999, 1)), []int{2, 999}, haves(have(1, 9), have(1000, 9))},
		{haves(have(5, 1), have(6, 1)), summary(1, 5, have(1, 1), have(5, 2)), []int{1, 5}, nil},
		{haves(have(2, 2), have(3, 1), have(6, 4)), summary(2, 7, have(2, 1), have(3, 2), have(4, 4), have(7, 1)), []int{3, 4, 7}, haves(have(2, 2), have(6, 4))},
		{havesFrom(1, 30), summary(31, 1000, havesFrom(31, 30)...), risingFrom(31, 30), nil},
		{havesFrom(1, 30), summary(1, 1000, havesFrom(31, 30)...), risingFrom(31, 30), havesFrom(1, 30)},
	} {
		asked, beyond := mustAsk(t, c.l, c.s)
		wantNums(t, "asked for", asked, c.asked)
		wantHaves(t, "beyond", beyond, c.beyond)
	}
}

func risingFrom(first int, many int) []int {
	var l []int
	for k := range many {
		l = append(l, first+k)
	}
	return l
}

func TestAskForByWords(t *testing.T) {
	r := rand.New(rand.NewSource(703))
	asks, has := 0, 0
	for range 8000 {
		l, told := randomTwo(r)
		s := summary(1, 1000, told...)
		if len(told) > 0 && r.Intn(4) > 0 {
			s.Lo, s.Hi = told[0].From, told[len(told)-1].From
			s.Lo, s.Hi = max(1, s.Lo-r.Intn(3)), min(1000, s.Hi+r.Intn(3))
		}
		wantAsked, wantBeyond := askByWords(l, s)
		asked, beyond := mustAsk(t, l, s)
		wantNums(t, "asked for", asked, wantAsked)
		wantHaves(t, "beyond", beyond, wantBeyond)
		if len(asked) > 0 {
			asks++
		}
		if len(beyond) > 0 {
			has++
		}
	}
	if asks < 2000 || has < 2000 {
		t.Errorf("%d asked, %d had more: too few", asks, has)
	}
}

// Promise 7: both have the same then, all that either had, and nothing more
// goes. It tells how many entries went.
func syncsToTheSame(t *testing.T, a []impl.Have, b []impl.Have, most int) int {
	t.Helper()
	x, y, went := mustSync(t, a, b, most)
	wantHaves(t, "what both have", y, x)
	wantHaves(t, "what was merged", x, mustMerge(t, a, b))
	if !impl.GoodHaves(x) {
		t.Fatalf("SyncBy(%v, %v, %d) makes %v, which is not good", a, b, most, x)
	}
	for _, again := range []int{1, most, 30} {
		z, w, more := mustSync(t, x, y, again)
		wantHaves(t, "the first one again", z, x)
		wantHaves(t, "the second one again", w, y)
		if more != 0 {
			t.Fatalf("%v and %v, which are the same, again: %d went", x, y, more)
		}
	}
	return went
}

// unlikeIn counts the From of which two lists do not have the same.
func unlikeIn(a []impl.Have, b []impl.Have) int {
	ofA, ofB, many := seqsByWords(a), seqsByWords(b), 0
	for from := range ofA {
		if ofA[from] != ofB[from] {
			many++
		}
	}
	return many
}

func TestSyncByByHand(t *testing.T) {
	for _, c := range []struct {
		a, b, want []impl.Have
		went       int
	}{
		{nil, nil, nil, 0},
		{haves(have(3, 4)), nil, haves(have(3, 4)), 1},
		{nil, haves(have(3, 4)), haves(have(3, 4)), 1},
		{nil, haves(have(1, 4), have(1000, 2)), haves(have(1, 4), have(1000, 2)), 2},
		{haves(have(3, 4)), haves(have(3, 4)), haves(have(3, 4)), 0},
		{haves(have(3, 4)), haves(have(3, 5)), haves(have(3, 5)), 1},
		{haves(have(3, 5)), haves(have(3, 4)), haves(have(3, 5)), 1},
		{haves(have(1, 1), have(5, 2), have(9, 1)), haves(have(5, 1), have(6, 1)), haves(have(1, 1), have(5, 2), have(6, 1), have(9, 1)), 4},
		{haves(have(2, 1), have(4, 1)), haves(have(1, 1), have(3, 1), have(5, 1)), havesOfSeq(1, 1, 2, 3, 4, 5), 5},
		{havesFrom(1, 15), havesFrom(500, 15), append(havesFrom(1, 15), havesFrom(500, 15)...), 30},
		{havesFrom(1, 30), havesFrom(1, 30), havesFrom(1, 30), 0},
		{havesFrom(1, 30), nil, havesFrom(1, 30), 30},
		{nil, havesFrom(971, 30), havesFrom(971, 30), 30},
	} {
		for most := 1; most <= 30; most++ {
			x, y, went := mustSync(t, c.a, c.b, most)
			wantHaves(t, "the first one", x, c.want)
			wantHaves(t, "the second one", y, c.want)
			if went != c.went {
				t.Errorf("SyncBy(%v, %v, %d): %d went", c.a, c.b, most, went)
			}
			syncsToTheSame(t, c.a, c.b, most)
		}
	}
}

func havesOfSeq(seq int, froms ...int) []impl.Have {
	var l []impl.Have
	for _, from := range froms {
		l = append(l, have(from, seq))
	}
	return l
}

func TestSyncByUpTo30(t *testing.T) {
	for many := range 31 {
		a, b := havesFrom(1, many), havesFrom(500, 30-many)
		for _, most := range []int{1, 2, 7, 29, 30} {
			if syncsToTheSame(t, a, b, most) != 30 || syncsToTheSame(t, b, a, most) != 30 {
				t.Errorf("of %v and %v not all went", a, b)
			}
			if len(b) == 30 {
				continue
			}
			for _, first := range []int{499, 470} {
				more := append(haves(have(first, 1)), b...)
				cantSync(t, a, more, most)
				cantSync(t, more, a, most)
			}
		}
	}
	full := havesFrom(500, 30)
	for most := 1; most <= 30; most++ {
		for _, one := range []int{1, 499, 530, 1000} {
			cantSync(t, full, haves(have(one, 1)), most)
			cantSync(t, haves(have(one, 1)), full, most)
		}
		for _, one := range []int{500, 515, 529} {
			if syncsToTheSame(t, full, haves(have(one, 1000)), most) != 30 {
				t.Errorf("of 30 that are unlike not 30 went")
			}
		}
		cantSync(t, full, havesFrom(501, 30), most)
	}
}

func TestSyncByOfSmallLists(t *testing.T) {
	all := smallLists()
	if len(all) != 81 {
		t.Fatalf("%d lists", len(all))
	}
	for _, a := range all {
		for _, b := range all {
			for _, most := range []int{1, 2, 3, 4} {
				if went := syncsToTheSame(t, a, b, most); went != unlikeIn(a, b) {
					t.Fatalf("SyncBy(%v, %v, %d): %d went", a, b, most, went)
				}
			}
		}
	}
}

func TestSyncByByWords(t *testing.T) {
	r := rand.New(rand.NewSource(704))
	can := 0
	for range 3000 {
		a, b := randomTwo(r)
		most := 1 + r.Intn(30)
		x, y, went, ok := impl.SyncBy(a, b, most)
		wantX, wantY, wantWent, wantOk := syncByWords(a, b, most)
		if ok != wantOk || went != wantWent {
			t.Fatalf("SyncBy(%v, %v, %d): %d, %v", a, b, most, went, ok)
		}
		wantHaves(t, "the first one", x, wantX)
		wantHaves(t, "the second one", y, wantY)
		all := mergeByWords(a, b)
		if ok != (len(all) <= 30) {
			t.Fatalf("SyncBy(%v, %v, %d): %v", a, b, most, ok)
		}
		if !ok {
			cantMerge(t, a, b)
			cantMerge(t, b, a)
			continue
		}
		can++
		wantHaves(t, "MergeHaves", mustMerge(t, a, b), all)
		wantHaves(t, "MergeHaves", mustMerge(t, b, a), all)
		if syncsToTheSame(t, a, b, most) != unlikeIn(a, b) || syncsToTheSame(t, b, a, most) != unlikeIn(a, b) {
			t.Fatalf("SyncBy(%v, %v, %d): %d went", a, b, most, went)
		}
	}
	if can < 1000 || can > 2800 {
		t.Errorf("%d could be: too few of one sort", can)
	}
}

// AskFor part by part, each by itself, comes to what SyncBy tells.
func TestAskForPartByPart(t *testing.T) {
	r := rand.New(rand.NewSource(705))
	for range 1000 {
		a, b := randomTwo(r)
		most := 1 + r.Intn(30)
		_, _, want, ok := impl.SyncBy(a, b, most)
		if !ok {
			continue
		}
		went := 0
		for _, part := range mustCut(t, a, most) {
			asked, beyond := mustAsk(t, b, part)
			went += len(asked) + len(beyond)
		}
		if went != want {
			t.Fatalf("SyncBy(%v, %v, %d): %d went, not %d", a, b, most, want, went)
		}
	}
}

func TestHavesThatAreNone(t *testing.T) {
	good := haves(have(2, 5), have(500, 5))
	for _, none := range havesThatAreNone() {
		kept := slices.Clone(none)
		for _, most := range []int{0, 1, 2, 30, 31} {
			cantCut(t, none, most)
			for _, other := range [][]impl.Have{nil, good, havesFrom(1, 30), none} {
				cantSync(t, none, other, most)
				cantSync(t, other, none, most)
			}
		}
		for _, other := range [][]impl.Have{nil, good, havesFrom(1, 30), none} {
			cantMerge(t, none, other)
			cantMerge(t, other, none)
		}
		for _, s := range []impl.Summary{summary(1, 1000), summary(1, 1), summary(1, 1000, good...), summary(1, 1000, none...), {}} {
			cantAsk(t, none, s)
		}
		for _, from := range []int{math.MinInt, 0, 1, 2, 3, 5, 500, 1000, 1001, math.MaxInt} {
			if seq, ok := impl.SeqFor(none, from); ok || seq != 0 {
				t.Errorf("SeqFor(%v, %d) = %d, %v", none, from, seq, ok)
			}
		}
		wantHaves(t, "what was given", none, kept)
	}
}

func TestSummariesThatAreNone(t *testing.T) {
	for _, s := range summariesThatAreNone() {
		kept := slices.Clone(s.List)
		for _, l := range [][]impl.Have{nil, haves(have(5, 1)), haves(have(5, 1000), have(999, 5)), havesFrom(1, 30)} {
			cantAsk(t, l, s)
		}
		wantHaves(t, "what was given", s.List, kept)
	}
}

func TestMostsThatAreNone(t *testing.T) {
	for _, most := range wrongMosts() {
		for _, l := range [][]impl.Have{nil, {}, haves(have(5, 1)), havesFrom(1, 30)} {
			cantCut(t, l, most)
			cantSync(t, l, l, most)
			cantSync(t, l, nil, most)
			cantSync(t, nil, l, most)
		}
	}
	for _, most := range []int{1, 2, 29, 30} {
		tellsAll(t, nil, most)
		tellsAll(t, havesFrom(1, 30), most)
	}
}

// havesBehind lays Haves ahead of more, which are no part of them: they would
// be good Haves, and newer, if they were read.
func havesBehind(l []impl.Have) []impl.Have {
	last := 996
	if len(l) > 0 {
		last = min(last, l[len(l)-1].From)
	}
	memory := append(slices.Clone(l), have(last+1, 1000), have(last+2, 1000), have(last+3, 1000))
	return memory[:len(l):len(memory)]
}

func areHavesUntouched(l []impl.Have) bool {
	more := l[len(l) : len(l)+3]
	first := more[0].From
	return slices.Equal(more, haves(have(first, 1000), have(first+1, 1000), have(first+2, 1000)))
}

func scribbleHaves(l []impl.Have) {
	l = l[:cap(l)]
	for k := range l {
		l[k] = have(-5, -5)
	}
}

// ownSummaries writes over the list of each summary in turn; the other ones are
// to stay as they are.
func ownSummaries(t *testing.T, l []impl.Summary) {
	t.Helper()
	kept := copyOfSummaries(l)
	for k := range l {
		scribbleHaves(l[k].List)
		for other := range l {
			if other != k && !sameSummary(l[other], kept[other]) {
				t.Fatalf("summaries %d and %d of %v share memory", k, other, kept)
			}
		}
		copy(l[k].List, kept[k].List)
	}
	for k := range l {
		scribbleHaves(l[k].List)
	}
	clear(l[:cap(l)])
}

// ownTwo writes over each of two lists of one answer.
func ownTwo(t *testing.T, a []impl.Have, b []impl.Have) {
	t.Helper()
	kept := slices.Clone(b)
	scribbleHaves(a)
	wantHaves(t, "the other list of an answer", b, kept)
	again := slices.Clone(a)
	scribbleHaves(b)
	wantHaves(t, "the one list of an answer", a, again)
}

// writesOverAnswers asks for all that there is of two lists and writes over it.
func writesOverAnswers(t *testing.T, a []impl.Have, b []impl.Have, most int) {
	t.Helper()
	s := summary(1, 1000)
	s.List = b
	impl.GoodHaves(a)
	impl.GoodSummary(s)
	if asked, beyond, ok := impl.AskFor(a, s); ok {
		kept := slices.Clone(asked)
		scribbleHaves(beyond)
		wantNums(t, "what is asked for", asked, kept)
		scribbleNums(asked)
	}
	for from := 1; from <= 1000; from += 37 {
		impl.SeqFor(a, from)
	}
	cut := mustCut(t, a, most)
	if !sameSummaries(cut, cutByWords(slices.Clone(a), most)) {
		t.Fatalf("CutHaves(%v, %d) = %v", a, most, cut)
	}
	ownSummaries(t, cut)
	if l, ok := impl.MergeHaves(a, b); ok {
		wantHaves(t, "MergeHaves", l, mergeByWords(a, b))
		scribbleHaves(l)
	}
	if x, y, _, ok := impl.SyncBy(a, b, most); ok {
		wantHaves(t, "SyncBy", x, mergeByWords(a, b))
		wantHaves(t, "SyncBy", y, x)
		ownTwo(t, x, y)
	}
}

func TestListAnswersAreNewMemory(t *testing.T) {
	r := rand.New(rand.NewSource(706))
	for n := range 2000 {
		madeA, madeB := randomTwo(r)
		switch n % 8 {
		case 0:
			madeB = slices.Clone(madeA)
		case 1:
			madeB = nil
		case 2:
			madeA = nil
		}
		a, b := havesBehind(madeA), havesBehind(madeB)
		writesOverAnswers(t, a, b, 1+r.Intn(30))
		wantHaves(t, "what was given first", a, madeA)
		wantHaves(t, "what was given then", b, madeB)
		if !areHavesUntouched(a) || !areHavesUntouched(b) {
			t.Fatalf("behind %v or %v something changed", a, b)
		}
	}
}

// Both arguments may be one list, and one may be a part of the other.
func TestListsThatAreOneMemory(t *testing.T) {
	for many := range 31 {
		made := spreadHaves(many)
		l := havesBehind(made)
		for _, most := range []int{1, 4, 30} {
			for _, two := range [][2][]impl.Have{{l, l}, {l, l[:many/2]}, {l[:many/2], l}, {l[many/2:], l[:many/2]}} {
				writesOverAnswers(t, two[0], two[1], most)
				syncsToTheSame(t, two[0], two[1], most)
			}
		}
		wantHaves(t, "what was given", l, made)
		if !areHavesUntouched(l) {
			t.Fatalf("behind %v something changed", l)
		}
	}
}

func TestRefusedListsAreNotWrittenInto(t *testing.T) {
	for _, made := range havesThatAreNone() {
		l := append(slices.Clone(made), have(7, 7), have(8, 8))[:len(made)]
		s := summary(1, 1000)
		s.List = l
		impl.GoodHaves(l)
		impl.GoodSummary(s)
		impl.SeqFor(l, 5)
		impl.CutHaves(l, 2)
		impl.AskFor(l, s)
		impl.AskFor(nil, s)
		impl.MergeHaves(l, l)
		impl.SyncBy(l, l, 2)
		wantHaves(t, "what was given", l[:len(made)+2], append(slices.Clone(made), have(7, 7), have(8, 8)))
	}
}

// Asked twice, all is told alike: nothing hangs on the order of a map.
func TestListAnswersAreTheSameEachTime(t *testing.T) {
	r := rand.New(rand.NewSource(707))
	for range 200 {
		a, b := randomHaves(r, 15, 1000, 5), randomHaves(r, 15, 1000, 5)
		x, y, went := mustSync(t, a, b, 4)
		asked, beyond := mustAsk(t, a, summary(1, 1000, b...))
		for range 10 {
			again, other, wentAgain := mustSync(t, a, b, 4)
			wantHaves(t, "the first one", again, x)
			wantHaves(t, "the second one", other, y)
			askedAgain, beyondAgain := mustAsk(t, a, summary(1, 1000, b...))
			wantNums(t, "asked for", askedAgain, asked)
			wantHaves(t, "beyond", beyondAgain, beyond)
			if wentAgain != went {
				t.Fatalf("%d and %d went", went, wentAgain)
			}
		}
	}
}

func TestEmptyAndNilListsOfHaves(t *testing.T) {
	empty := []impl.Have{}
	one := haves(have(5, 1))
	if !impl.GoodHaves(nil) || !impl.GoodHaves(empty) || !impl.GoodSummary(impl.Summary{Lo: 5, Hi: 5}) || !impl.GoodSummary(impl.Summary{Lo: 5, Hi: 5, List: empty}) {
		t.Error("not good")
	}
	for _, none := range [][]impl.Have{nil, empty, one[:0]} {
		if cut := mustCut(t, none, 3); !sameSummaries(cut, []impl.Summary{summary(1, 1000)}) {
			t.Errorf("CutHaves tells %v", cut)
		}
		if seq, ok := impl.SeqFor(none, 5); seq != 0 || !ok {
			t.Errorf("SeqFor tells %d, %v", seq, ok)
		}
		asked, beyond := mustAsk(t, none, impl.Summary{Lo: 5, Hi: 9, List: one})
		wantNums(t, "asked for", asked, []int{5})
		wantHaves(t, "beyond", beyond, nil)
		asked, beyond = mustAsk(t, one, impl.Summary{Lo: 5, Hi: 9, List: none})
		wantNums(t, "asked for", asked, nil)
		wantHaves(t, "beyond", beyond, one)
		wantHaves(t, "MergeHaves", mustMerge(t, none, one), one)
		wantHaves(t, "MergeHaves", mustMerge(t, one, none), one)
		for _, other := range [][]impl.Have{nil, empty} {
			wantHaves(t, "MergeHaves", mustMerge(t, none, other), nil)
			if x, y, went := mustSync(t, none, other, 3); len(x) != 0 || len(y) != 0 || went != 0 {
				t.Errorf("SyncBy tells %v, %v, %d", x, y, went)
			}
		}
		if syncsToTheSame(t, none, one, 3) != 1 || syncsToTheSame(t, one, none, 3) != 1 {
			t.Error("the one did not go")
		}
	}
	wantHaves(t, "what was given", one, haves(have(5, 1)))
}
