package tests

import (
	"math"
	"math/rand"
	"slices"
	"testing"

	"loop.example/g00575/impl"
)

func say(k int) impl.PairStep  { return impl.PairStep{Kind: impl.HeSay, K: k} }
func take(k int) impl.PairStep { return impl.PairStep{Kind: impl.HeTake, K: k} }
func lose(k int) impl.PairStep { return impl.PairStep{Kind: impl.HeLose, K: k} }

func tick() impl.PairStep { return impl.PairStep{Kind: impl.HeTick} }

func pairOf(state0 int, left0 int, state1 int, left1 int, line ...impl.Hello) impl.Pair {
	return impl.Pair{State: []int{state0, state1}, Left: []int{left0, left1}, Line: line}
}

// samePair takes the empty list and the nil list for the same.
func samePair(a impl.Pair, b impl.Pair) bool {
	return slices.Equal(a.State, b.State) && slices.Equal(a.Left, b.Left) && slices.Equal(a.Line, b.Line)
}

func isZeroPair(p impl.Pair) bool {
	return samePair(p, impl.Pair{})
}

func copyOfPair(p impl.Pair) impl.Pair {
	return impl.Pair{State: slices.Clone(p.State), Left: slices.Clone(p.Left), Line: slices.Clone(p.Line)}
}

func hellos(many int, h impl.Hello) []impl.Hello {
	return slices.Repeat([]impl.Hello{h}, many)
}

// goodPairByWords is the document's sentence on pairs, word by word.
func goodPairByWords(p impl.Pair) bool {
	if len(p.State) != 2 || len(p.Left) != 2 || len(p.Line) > 12 {
		return false
	}
	for i := range 2 {
		if p.State[i] < 0 || p.State[i] > 2 || p.Left[i] < 0 || p.Left[i] > 3 {
			return false
		}
		if (p.Left[i] == 0) != (p.State[i] == 0) {
			return false
		}
	}
	return !slices.ContainsFunc(p.Line, func(h impl.Hello) bool { return h.From != 0 && h.From != 1 })
}

// stepByWords does a step of a good pair as the document tells it; where nothing
// can be done it gives the pair as it was.
func stepByWords(p impl.Pair, s impl.PairStep) (impl.Pair, bool) {
	n := copyOfPair(p)
	switch {
	case s.Kind == 1 && (s.K == 0 || s.K == 1) && len(p.Line) <= 11:
		n.Line = append(n.Line, impl.Hello{From: s.K, Hears: p.State[s.K] == 1 || p.State[s.K] == 2})
	case s.Kind == 2 && 0 <= s.K && s.K < len(p.Line):
		other := map[int]int{0: 1, 1: 0}[p.Line[s.K].From]
		n.State[other], n.Left[other] = 1, 3
		if p.Line[s.K].Hears {
			n.State[other] = 2
		}
		n.Line = slices.Delete(n.Line, s.K, s.K+1)
	case s.Kind == 3 && 0 <= s.K && s.K < len(p.Line):
		n.Line = slices.Delete(n.Line, s.K, s.K+1)
	case s.Kind == 4 && s.K == 0:
		for i := range 2 {
			n.Left[i] = max(0, p.Left[i]-1)
			if n.Left[i] == 0 {
				n.State[i] = 0
			}
		}
	default:
		return n, false
	}
	return n, true
}

func randomLine(r *rand.Rand, many int) []impl.Hello {
	var l []impl.Hello
	for range many {
		l = append(l, impl.Hello{From: r.Intn(2), Hears: r.Intn(2) == 0})
	}
	return l
}

// pairsOfAllSides has each two sides that a pair may have, with lines of every
// length that a line may have.
func pairsOfAllSides(r *rand.Rand) []impl.Pair {
	var l []impl.Pair
	for _, a := range sidesThatAre() {
		for _, b := range sidesThatAre() {
			for many := 0; many <= 12; many++ {
				l = append(l, pairOf(a[0], a[1], b[0], b[1], randomLine(r, many)...))
			}
		}
	}
	return l
}

func sidesThatAre() [][2]int {
	return [][2]int{{0, 0}, {1, 1}, {1, 2}, {1, 3}, {2, 1}, {2, 2}, {2, 3}}
}

func randomStep(r *rand.Rand) impl.PairStep {
	switch r.Intn(10) {
	case 0, 1, 2, 3:
		return say(r.Intn(2))
	case 4, 5, 6:
		return take(r.Intn(4))
	case 7:
		return lose(r.Intn(4))
	case 8:
		return tick()
	}
	return impl.PairStep{Kind: r.Intn(8) - 1, K: r.Intn(18) - 3}
}

func randomSteps(r *rand.Rand, many int) []impl.PairStep {
	var l []impl.PairStep
	for range many {
		l = append(l, randomStep(r))
	}
	return l
}

// stepsAtEdges has each kind, and kinds that are none, with each K that a step
// of some kind may have, those just beyond, and the utmost ones.
func stepsAtEdges() []impl.PairStep {
	var l []impl.PairStep
	for _, kind := range []int{0, 1, 2, 3, 4, 5, -1, 6, 7, 8, 258, math.MinInt, math.MaxInt} {
		for k := -2; k <= 14; k++ {
			l = append(l, impl.PairStep{Kind: kind, K: k})
		}
		for _, k := range []int{math.MinInt, math.MaxInt, math.MinInt + 1, math.MaxInt - 1, 1 << 32, -1 << 32} {
			l = append(l, impl.PairStep{Kind: kind, K: k})
		}
	}
	return l
}

func pairsThatAreNone() []impl.Pair {
	l := []impl.Pair{
		{},
		{State: []int{0, 0}},
		{Left: []int{0, 0}},
		{State: []int{0}, Left: []int{0}},
		{State: []int{0}, Left: []int{0, 0}},
		{State: []int{0, 0}, Left: []int{0}},
		{State: []int{0, 0, 0}, Left: []int{0, 0}},
		{State: []int{0, 0}, Left: []int{0, 0, 0}},
		{State: []int{0, 0, 0}, Left: []int{0, 0, 0}},
		{State: []int{2, 2}, Left: []int{3, 3}, Line: []impl.Hello{{From: 0}, {From: 2}}},
		{State: []int{2, 2}, Left: []int{3, 3}, Line: []impl.Hello{{From: -1, Hears: true}, {From: 1}}},
		{State: []int{2, 2}, Left: []int{3, 3}, Line: []impl.Hello{{From: math.MinInt}}},
		{State: []int{2, 2}, Left: []int{3, 3}, Line: []impl.Hello{{From: math.MaxInt}}},
		{State: []int{2, 2}, Left: []int{3, 3}, Line: hellos(13, impl.Hello{})},
		{State: []int{2, 2}, Left: []int{3, 3}, Line: append(hellos(11, impl.Hello{}), impl.Hello{From: 2})},
		{State: []int{0, 0}, Left: []int{0, 0}, Line: hellos(60, impl.Hello{From: 1, Hears: true})},
	}
	for _, wrong := range [][2]int{
		{0, 1}, {0, 3}, {0, 4}, {0, -1}, {1, 0}, {1, 4}, {1, -1}, {2, 0}, {2, 4}, {2, -1},
		{3, 0}, {3, 1}, {3, 3}, {-1, 0}, {-1, 1}, {256, 1}, {256, 0},
		{math.MinInt, 1}, {math.MaxInt, 1}, {math.MinInt, 0}, {math.MaxInt, 0},
		{0, math.MinInt}, {0, math.MaxInt}, {1, math.MinInt}, {1, math.MaxInt}, {2, math.MaxInt},
	} {
		for _, right := range sidesThatAre() {
			l = append(l, pairOf(wrong[0], wrong[1], right[0], right[1]), pairOf(right[0], right[1], wrong[0], wrong[1]))
		}
		l = append(l, pairOf(wrong[0], wrong[1], wrong[0], wrong[1]))
	}
	return l
}

func wantPair(t *testing.T, g impl.Pair, w impl.Pair) {
	t.Helper()
	if !samePair(g, w) {
		t.Fatalf("got %v, want %v", g, w)
	}
}

// mustStep asks for a step that can be done, and that the pair is good behind it.
func mustStep(t *testing.T, p impl.Pair, s impl.PairStep) impl.Pair {
	t.Helper()
	n, ok := impl.StepPair(p, s)
	if !ok || !impl.GoodPair(n) {
		t.Fatalf("%v at %v: %v, %v", p, s, n, ok)
	}
	return n
}

func TestHelloConstants(t *testing.T) {
	if impl.MaxHello != 60 || impl.AdDown != 0 || impl.AdHeard != 1 || impl.AdBoth != 2 {
		t.Error("a limit or a state is another")
	}
	if impl.HeSay != 1 || impl.HeTake != 2 || impl.HeLose != 3 || impl.HeTick != 4 {
		t.Error("a kind is another")
	}
}

func TestNewPair(t *testing.T) {
	for left, want := range []impl.Pair{
		pairOf(impl.AdDown, 0, impl.AdDown, 0),
		pairOf(impl.AdHeard, 1, impl.AdHeard, 1),
		pairOf(impl.AdHeard, 2, impl.AdHeard, 2),
		pairOf(impl.AdHeard, 3, impl.AdHeard, 3),
	} {
		p, ok := impl.NewPair(left)
		if !ok || !impl.GoodPair(p) || !samePair(p, want) {
			t.Errorf("left %d: %v, %v", left, p, ok)
		}
	}
	for _, left := range []int{-1, 4, -3, 5, 256, 259, math.MinInt, math.MaxInt, 1<<32 + 1} {
		if p, ok := impl.NewPair(left); ok || !isZeroPair(p) {
			t.Errorf("left %d: %v, %v", left, p, ok)
		}
	}
}

func TestGoodPair(t *testing.T) {
	for _, p := range pairsOfAllSides(rand.New(rand.NewSource(1))) {
		if !impl.GoodPair(p) {
			t.Errorf("not good: %v", p)
		}
	}
	for _, p := range pairsThatAreNone() {
		if impl.GoodPair(p) {
			t.Errorf("good: %v", p)
		}
	}
}

func TestGoodPairByWords(t *testing.T) {
	for code := range 6 * 6 * 6 * 6 {
		p := pairOf(code%6-1, code/6%6-1, code/36%6-1, code/216-1)
		if g, w := impl.GoodPair(p), goodPairByWords(p); g != w {
			t.Fatalf("%v: %v, not %v", p, g, w)
		}
	}
	r := rand.New(rand.NewSource(2))
	for range 20000 {
		p := impl.Pair{Line: randomLine(r, r.Intn(15))}
		for range 2 + r.Intn(20)/19 {
			a := sidesThatAre()[r.Intn(7)]
			p.State, p.Left = append(p.State, a[0]), append(p.Left, a[1])
		}
		if len(p.Line) > 0 && r.Intn(8) == 0 {
			p.Line[r.Intn(len(p.Line))].From = r.Intn(6) - 2
		}
		if g, w := impl.GoodPair(p), goodPairByWords(p); g != w {
			t.Fatalf("%v: %v, not %v", p, g, w)
		}
	}
}

func TestNextState(t *testing.T) {
	for _, state := range []int{impl.AdDown, impl.AdHeard, impl.AdBoth} {
		if n, ok := impl.NextState(state, true); n != impl.AdBoth || !ok {
			t.Errorf("%d, hears: %d, %v", state, n, ok)
		}
		if n, ok := impl.NextState(state, false); n != impl.AdHeard || !ok {
			t.Errorf("%d, does not hear: %d, %v", state, n, ok)
		}
	}
	for _, state := range []int{-1, 3, 4, 256, -256, math.MinInt, math.MaxInt} {
		for _, hears := range []bool{false, true} {
			if n, ok := impl.NextState(state, hears); n != 0 || ok {
				t.Errorf("%d, %v: %d, %v", state, hears, n, ok)
			}
		}
	}
}

func TestStepPairByHand(t *testing.T) {
	deaf, hears := impl.Hello{From: 0}, impl.Hello{From: 0, Hears: true}
	back := impl.Hello{From: 1, Hears: true}
	p := pairOf(impl.AdDown, 0, impl.AdDown, 0)
	for _, c := range []struct {
		step impl.PairStep
		want impl.Pair
	}{
		{say(0), pairOf(impl.AdDown, 0, impl.AdDown, 0, deaf)},
		{say(0), pairOf(impl.AdDown, 0, impl.AdDown, 0, deaf, deaf)},
		{take(1), pairOf(impl.AdDown, 0, impl.AdHeard, 3, deaf)},
		{tick(), pairOf(impl.AdDown, 0, impl.AdHeard, 2, deaf)},
		{say(1), pairOf(impl.AdDown, 0, impl.AdHeard, 2, deaf, back)},
		{take(1), pairOf(impl.AdBoth, 3, impl.AdHeard, 2, deaf)},
		{tick(), pairOf(impl.AdBoth, 2, impl.AdHeard, 1, deaf)},
		{say(0), pairOf(impl.AdBoth, 2, impl.AdHeard, 1, deaf, hears)},
		{take(1), pairOf(impl.AdBoth, 2, impl.AdBoth, 3, deaf)},
		{take(0), pairOf(impl.AdBoth, 2, impl.AdHeard, 3)},
		{tick(), pairOf(impl.AdBoth, 1, impl.AdHeard, 2)},
		{tick(), pairOf(impl.AdDown, 0, impl.AdHeard, 1)},
		{tick(), pairOf(impl.AdDown, 0, impl.AdDown, 0)},
		{say(1), pairOf(impl.AdDown, 0, impl.AdDown, 0, impl.Hello{From: 1})},
		{lose(0), pairOf(impl.AdDown, 0, impl.AdDown, 0)},
		{tick(), pairOf(impl.AdDown, 0, impl.AdDown, 0)},
	} {
		n := mustStep(t, p, c.step)
		wantPair(t, n, c.want)
		p = n
	}
}

func TestStepPairByWords(t *testing.T) {
	for _, p := range pairsOfAllSides(rand.New(rand.NewSource(3))) {
		for _, s := range stepsAtEdges() {
			want, did := stepByWords(p, s)
			if !did {
				want = impl.Pair{}
			}
			n, ok := impl.StepPair(p, s)
			if ok != did || !samePair(n, want) {
				t.Fatalf("%v at %v: %v, %v, not %v, %v", p, s, n, ok, want, did)
			}
			if ok && !impl.GoodPair(n) {
				t.Fatalf("%v at %v: %v is not good", p, s, n)
			}
		}
	}
}

func TestSayNeedsRoom(t *testing.T) {
	for _, k := range []int{0, 1} {
		p, _ := impl.NewPair(2)
		for many := 1; many <= 12; many++ {
			p = mustStep(t, p, say(k))
			if len(p.Line) != many || p.Line[many-1] != (impl.Hello{From: k, Hears: true}) {
				t.Fatalf("after %d: %v", many, p)
			}
		}
		for _, other := range []int{0, 1} {
			if n, ok := impl.StepPair(p, say(other)); ok || !isZeroPair(n) {
				t.Errorf("a thirteenth: %v, %v", n, ok)
			}
		}
		p = mustStep(t, p, lose(11))
		mustStep(t, p, say(k))
	}
}

func TestTakeAndLoseOfEachPlace(t *testing.T) {
	for many := 0; many <= 12; many++ {
		p := pairOf(impl.AdBoth, 1, impl.AdHeard, 2)
		for i := range many {
			p.Line = append(p.Line, impl.Hello{From: i % 2, Hears: i%3 == 0})
		}
		for k := range many {
			rest := append(slices.Clone(p.Line[:k]), p.Line[k+1:]...)
			wantPair(t, mustStep(t, p, lose(k)), pairOf(impl.AdBoth, 1, impl.AdHeard, 2, rest...))
			state, _ := impl.NextState(impl.AdDown, k%3 == 0)
			if k%2 == 0 {
				wantPair(t, mustStep(t, p, take(k)), pairOf(impl.AdBoth, 1, state, 3, rest...))
			} else {
				wantPair(t, mustStep(t, p, take(k)), pairOf(state, 3, impl.AdHeard, 2, rest...))
			}
		}
		for _, k := range []int{many, many + 1, -1, math.MinInt, math.MaxInt} {
			for _, s := range []impl.PairStep{take(k), lose(k)} {
				if n, ok := impl.StepPair(p, s); ok || !isZeroPair(n) {
					t.Errorf("%d on the line, %v: %v, %v", many, s, n, ok)
				}
			}
		}
	}
}

// A hello decides on its own: neither the State that was nor the one at the
// other side counts.
func TestHelloMakesTheState(t *testing.T) {
	for _, a := range sidesThatAre() {
		for _, b := range sidesThatAre() {
			for _, hears := range []bool{false, true} {
				want := impl.AdHeard
				if hears {
					want = impl.AdBoth
				}
				p := pairOf(a[0], a[1], b[0], b[1], impl.Hello{From: 0, Hears: hears}, impl.Hello{From: 1, Hears: hears})
				wantPair(t, mustStep(t, p, take(0)), pairOf(a[0], a[1], want, 3, p.Line[1]))
				wantPair(t, mustStep(t, p, take(1)), pairOf(want, 3, b[0], b[1], p.Line[0]))
			}
		}
	}
}

// What a hello says hangs on when it was said, not on when it is taken.
func TestLateHelloStillCounts(t *testing.T) {
	p, _ := impl.NewPair(1)
	p = mustStep(t, mustStep(t, p, say(0)), say(1))
	for range 9 {
		p = mustStep(t, p, tick())
	}
	wantPair(t, p, pairOf(impl.AdDown, 0, impl.AdDown, 0, impl.Hello{From: 0, Hears: true}, impl.Hello{From: 1, Hears: true}))
	p = mustStep(t, p, take(0))
	wantPair(t, p, pairOf(impl.AdDown, 0, impl.AdBoth, 3, impl.Hello{From: 1, Hears: true}))
	p = mustStep(t, p, take(0))
	wantPair(t, p, pairOf(impl.AdBoth, 3, impl.AdBoth, 3))

	p, _ = impl.NewPair(0)
	p = mustStep(t, p, say(0))
	p.State, p.Left = []int{2, 2}, []int{3, 3}
	wantPair(t, mustStep(t, p, take(0)), pairOf(impl.AdBoth, 3, impl.AdHeard, 3))
}

func TestTickAtEachLeft(t *testing.T) {
	for _, state := range []int{impl.AdHeard, impl.AdBoth} {
		wantPair(t, mustStep(t, pairOf(state, 1, state, 3), tick()), pairOf(impl.AdDown, 0, state, 2))
		wantPair(t, mustStep(t, pairOf(state, 3, state, 1), tick()), pairOf(state, 2, impl.AdDown, 0))
		wantPair(t, mustStep(t, pairOf(state, 2, impl.AdDown, 0), tick()), pairOf(state, 1, impl.AdDown, 0))
		for _, k := range []int{1, 2, -1, 4, math.MinInt, math.MaxInt} {
			if n, ok := impl.StepPair(pairOf(state, 2, state, 2), impl.PairStep{Kind: impl.HeTick, K: k}); ok || !isZeroPair(n) {
				t.Errorf("a tick with K %d: %v, %v", k, n, ok)
			}
		}
	}
}

// Between the ticks there may be anything but a hello that is taken.
func TestThreeTicksOfSilence(t *testing.T) {
	r := rand.New(rand.NewSource(4))
	for _, p := range pairsOfAllSides(r) {
		for range 3 {
			for range r.Intn(3) {
				s := []impl.PairStep{say(0), say(1), lose(0)}[r.Intn(3)]
				if n, ok := impl.StepPair(p, s); ok {
					p = n
				}
			}
			line := p.Line
			p = mustStep(t, p, tick())
			if !slices.Equal(p.Line, line) {
				t.Fatalf("a tick made the line %v of %v", p.Line, line)
			}
		}
		wantPair(t, p, pairOf(impl.AdDown, 0, impl.AdDown, 0, p.Line...))
		if both, ok := impl.AreBoth(p); both || !ok {
			t.Fatalf("%v: %v, %v", p, both, ok)
		}
	}
}

func TestTwoTicksAreNotEnough(t *testing.T) {
	p := pairOf(impl.AdBoth, 3, impl.AdBoth, 3)
	p = mustStep(t, mustStep(t, p, tick()), tick())
	if both, ok := impl.AreBoth(p); !both || !ok {
		t.Errorf("%v: %v, %v", p, both, ok)
	}
	wantPair(t, p, pairOf(impl.AdBoth, 1, impl.AdBoth, 1))
}

func TestSettlePairFromEachPair(t *testing.T) {
	for _, p := range pairsOfAllSides(rand.New(rand.NewSource(5))) {
		n, ok := impl.SettlePair(p)
		if !ok {
			t.Fatalf("%v is not settled", p)
		}
		wantPair(t, n, pairOf(impl.AdBoth, 3, impl.AdBoth, 3))
		if both, ok := impl.AreBoth(n); !both || !ok {
			t.Fatalf("%v: %v, %v", n, both, ok)
		}
	}
}

// By its own steps a pair comes to what SettlePair tells, once its line is empty.
func TestThreeHellosMakeBoth(t *testing.T) {
	for _, p := range pairsOfAllSides(rand.New(rand.NewSource(6))) {
		want, _ := impl.SettlePair(p)
		for len(p.Line) > 0 {
			p = mustStep(t, p, lose(len(p.Line)-1))
		}
		for _, s := range []impl.PairStep{say(0), take(0), say(1), take(0), say(0), take(0)} {
			p = mustStep(t, p, s)
		}
		wantPair(t, p, want)
	}
}

func TestAreBoth(t *testing.T) {
	for _, p := range pairsOfAllSides(rand.New(rand.NewSource(7))) {
		want := p.State[0] == 2 && p.State[1] == 2
		if both, ok := impl.AreBoth(p); both != want || !ok {
			t.Fatalf("%v: %v, %v", p, both, ok)
		}
	}
}

func TestPlayPairByWords(t *testing.T) {
	r := rand.New(rand.NewSource(8))
	for range 4000 {
		l := randomSteps(r, r.Intn(61))
		want := pairOf(0, 0, 0, 0)
		var wantDid []bool
		for _, s := range l {
			var did bool
			want, did = stepByWords(want, s)
			wantDid = append(wantDid, did)
		}
		p, did, ok := impl.PlayPair(l)
		if !ok || !slices.Equal(did, wantDid) || !samePair(p, want) || !impl.GoodPair(p) {
			t.Fatalf("%v: %v, %v, %v, not %v, %v", l, p, did, ok, want, wantDid)
		}
		settled, ok := impl.SettlePair(p)
		if both, is := impl.AreBoth(settled); !ok || !both || !is {
			t.Fatalf("%v, settled: %v", p, settled)
		}
		for range 3 {
			p = mustStep(t, p, tick())
		}
		wantPair(t, p, pairOf(0, 0, 0, 0, p.Line...))
	}
}

func TestRefusedStepsChangeNothing(t *testing.T) {
	can := []impl.PairStep{say(0), take(0), say(1), say(1), lose(1), take(0), tick(), say(0), take(0)}
	want, all, ok := impl.PlayPair(can)
	if !ok || slices.Contains(all, false) || len(all) != len(can) {
		t.Fatalf("%v, %v, %v", want, all, ok)
	}
	wantPair(t, want, pairOf(impl.AdBoth, 2, impl.AdBoth, 3))
	var mixed []impl.PairStep
	var wantDid []bool
	cannot := []impl.PairStep{say(2), say(-1), take(5), take(-1), lose(7), lose(-1), {Kind: impl.HeTick, K: 1}, {}, {Kind: 5}}
	for i, s := range can {
		mixed = append(mixed, cannot[i], s, cannot[len(cannot)-1-i])
		wantDid = append(wantDid, false, true, false)
	}
	p, did, ok := impl.PlayPair(mixed)
	if !ok || !slices.Equal(did, wantDid) {
		t.Fatalf("%v, %v", did, ok)
	}
	wantPair(t, p, want)
}

func TestPlayPairOfMoreThanTheLineHolds(t *testing.T) {
	p, did, ok := impl.PlayPair(slices.Repeat([]impl.PairStep{say(1)}, 14))
	want := append(slices.Repeat([]bool{true}, 12), false, false)
	if !ok || !slices.Equal(did, want) {
		t.Fatalf("%v, %v", did, ok)
	}
	wantPair(t, p, pairOf(0, 0, 0, 0, hellos(12, impl.Hello{From: 1})...))
}

func TestPlayPairLimits(t *testing.T) {
	p, did, ok := impl.PlayPair(nil)
	if !ok || len(did) != 0 {
		t.Errorf("no steps: %v, %v", did, ok)
	}
	wantPair(t, p, pairOf(0, 0, 0, 0))
	p, did, ok = impl.PlayPair([]impl.PairStep{})
	if !ok || len(did) != 0 {
		t.Errorf("an empty list: %v, %v", did, ok)
	}
	wantPair(t, p, pairOf(0, 0, 0, 0))
	for _, s := range []impl.PairStep{tick(), say(2), {}} {
		p, did, ok = impl.PlayPair(slices.Repeat([]impl.PairStep{s}, impl.MaxHello))
		if !ok || !slices.Equal(did, slices.Repeat([]bool{s == tick()}, impl.MaxHello)) {
			t.Errorf("as many as may be: %v, %v", did, ok)
		}
		wantPair(t, p, pairOf(0, 0, 0, 0))
		p, did, ok = impl.PlayPair(slices.Repeat([]impl.PairStep{s}, impl.MaxHello+1))
		if ok || len(did) != 0 || !isZeroPair(p) {
			t.Errorf("one more: %v, %v, %v", p, did, ok)
		}
	}
}

func TestPairsThatAreNone(t *testing.T) {
	for _, p := range pairsThatAreNone() {
		kept := copyOfPair(p)
		for _, s := range stepsAtEdges() {
			if n, ok := impl.StepPair(p, s); ok || !isZeroPair(n) {
				t.Fatalf("%v at %v: %v, %v", p, s, n, ok)
			}
		}
		if n, ok := impl.SettlePair(p); ok || !isZeroPair(n) {
			t.Errorf("%v settled: %v, %v", p, n, ok)
		}
		if both, ok := impl.AreBoth(p); ok || both {
			t.Errorf("%v: %v, %v", p, both, ok)
		}
		wantPair(t, p, kept)
	}
}

// pairBehind lays each list of a pair ahead of more, which is no part of it.
func pairBehind(p impl.Pair) impl.Pair {
	line := slices.Repeat([]impl.Hello{{From: -77}}, len(p.Line)+3)
	return impl.Pair{State: behind(p.State), Left: behind(p.Left), Line: line[:copy(line, p.Line)]}
}

func isPairUntouched(p impl.Pair) bool {
	for _, h := range p.Line[len(p.Line) : len(p.Line)+3] {
		if h != (impl.Hello{From: -77}) {
			return false
		}
	}
	return isUntouched(p.State) && isUntouched(p.Left)
}

// scribblePair writes over all that an answer's lists have, up to their capacity.
func scribblePair(p impl.Pair) {
	for _, l := range [][]int{p.State, p.Left} {
		l = l[:cap(l)]
		for i := range l {
			l[i] = -5
		}
	}
	line := p.Line[:cap(p.Line)]
	for i := range line {
		line[i] = impl.Hello{From: -5}
	}
}

// ownLists writes over each list of an answer in turn; the other ones are to
// stay as they are.
func ownLists(t *testing.T, p impl.Pair) {
	t.Helper()
	kept := copyOfPair(p)
	scribblePair(impl.Pair{State: p.State})
	wantPair(t, impl.Pair{Left: p.Left, Line: p.Line}, impl.Pair{Left: kept.Left, Line: kept.Line})
	scribblePair(impl.Pair{Left: p.Left})
	wantPair(t, impl.Pair{Line: p.Line}, impl.Pair{Line: kept.Line})
	copy(p.Left, kept.Left)
	scribblePair(impl.Pair{Line: p.Line})
	wantPair(t, impl.Pair{Left: p.Left}, impl.Pair{Left: kept.Left})
	scribblePair(p)
}

func TestPairsOfAnAnswerAreNewMemory(t *testing.T) {
	for _, made := range pairsOfAllSides(rand.New(rand.NewSource(9))) {
		p := pairBehind(made)
		for _, s := range []impl.PairStep{say(0), say(1), take(0), take(len(p.Line) - 1), lose(0), lose(len(p.Line) - 1), tick(), say(2), {}} {
			n, _ := impl.StepPair(p, s)
			ownLists(t, n)
		}
		n, _ := impl.SettlePair(p)
		ownLists(t, n)
		impl.AreBoth(p)
		impl.GoodPair(p)
		wantPair(t, p, made)
		if !isPairUntouched(p) {
			t.Fatalf("behind a list of %v something changed", made)
		}
	}
}

func TestNewPairIsNewEachTime(t *testing.T) {
	for left := range 4 {
		p, _ := impl.NewPair(left)
		want := copyOfPair(p)
		ownLists(t, p)
		p, _ = impl.NewPair(left)
		wantPair(t, p, want)
	}
}

func TestPlayPairWritesIntoNoArgument(t *testing.T) {
	r := rand.New(rand.NewSource(10))
	for range 300 {
		steps := randomSteps(r, r.Intn(58))
		kept := slices.Clone(steps)
		l := append(slices.Clone(steps), say(0), say(1), tick())
		p, did, _ := impl.PlayPair(l[:len(steps)])
		wantDid := slices.Clone(did)
		ownLists(t, p)
		if !slices.Equal(did, wantDid) {
			t.Fatal("a list of the pair is that of what was done")
		}
		clear(did[:cap(did)])
		if !slices.Equal(l, append(kept, say(0), say(1), tick())) {
			t.Fatalf("the steps were written into: %v", l)
		}
	}
}

func TestEmptyLineAndNilLine(t *testing.T) {
	for _, a := range sidesThatAre() {
		for _, b := range sidesThatAre() {
			with, without := pairOf(a[0], a[1], b[0], b[1]), pairOf(a[0], a[1], b[0], b[1])
			with.Line = []impl.Hello{}
			without.Line = nil
			if !impl.GoodPair(with) || !impl.GoodPair(without) {
				t.Fatalf("not good: %v", with)
			}
			for _, s := range stepsAtEdges() {
				g, ok := impl.StepPair(with, s)
				w, is := impl.StepPair(without, s)
				if ok != is || !samePair(g, w) {
					t.Fatalf("%v at %v: %v, %v and %v, %v", with, s, g, ok, w, is)
				}
			}
			g, ok := impl.SettlePair(with)
			w, is := impl.SettlePair(without)
			if !ok || !is || !samePair(g, w) {
				t.Fatalf("%v settled: %v and %v", with, g, w)
			}
		}
	}
	for _, p := range []impl.Pair{{}, {State: []int{}, Left: []int{}, Line: []impl.Hello{}}} {
		if impl.GoodPair(p) {
			t.Errorf("good: %v", p)
		}
	}
}
