package tests

import (
	"math"
	"math/rand"
	"slices"
	"testing"

	"loop.example/g00575/impl"
)

func up(id int, rank int) impl.Bridge   { return impl.Bridge{Id: id, Rank: rank, Up: true} }
func down(id int, rank int) impl.Bridge { return impl.Bridge{Id: id, Rank: rank} }

func bridges(l ...impl.Bridge) []impl.Bridge { return l }

// goodBridgesByWords is the document's sentence on bridges, word by word.
func goodBridgesByWords(l []impl.Bridge) bool {
	if len(l) == 0 || len(l) > 10 {
		return false
	}
	last := 0
	for _, b := range l {
		if b.Id <= last || b.Id > 1000 || b.Rank < 0 || b.Rank > 127 {
			return false
		}
		last = b.Id
	}
	return true
}

func beatsByWords(a impl.Bridge, b impl.Bridge) bool {
	return a.Rank > b.Rank || a.Rank == b.Rank && a.Id > b.Id
}

// leaderByWords looks for the one that is Up and that no other one which is Up
// beats, and tells 0 where none is Up.
func leaderByWords(l []impl.Bridge) int {
	for _, a := range l {
		beaten := slices.ContainsFunc(l, func(b impl.Bridge) bool { return b.Up && beatsByWords(b, a) })
		if a.Up && !beaten {
			return a.Id
		}
	}
	return 0
}

func leadersByWords(l []impl.Bridge, sees [][]int) []int {
	var leaders []int
	for self := range l {
		var seen []impl.Bridge
		for k, b := range l {
			if k == self || slices.Contains(sees[self], k) {
				seen = append(seen, b)
			}
		}
		leaders = append(leaders, leaderByWords(seen))
	}
	return leaders
}

func weightByWords(id int, group int) int { return (id*7 + group*13) % 101 }

func serversByWords(l []impl.Bridge, groups int) []int {
	var servers []int
	for group := range groups {
		most, server := -1, 0
		for _, b := range l {
			if weight := weightByWords(b.Id, group); b.Up && weight > most {
				most, server = weight, b.Id
			}
		}
		servers = append(servers, server)
	}
	return servers
}

// randomBridges has Ids of which some are 101 apart, so that they weigh alike
// for each group, and Ranks of which many are alike.
func randomBridges(r *rand.Rand, many int) []impl.Bridge {
	var ids []int
	for len(ids) < many {
		id := 1 + r.Intn(1000)
		if len(ids) > 0 && r.Intn(3) == 0 {
			id = (ids[r.Intn(len(ids))]+101*r.Intn(10)-1)%1000 + 1
		}
		if !slices.Contains(ids, id) {
			ids = append(ids, id)
		}
	}
	slices.Sort(ids)
	var l []impl.Bridge
	for _, id := range ids {
		rank := r.Intn(128)
		if r.Intn(2) == 0 {
			rank = []int{0, 1, 126, 127}[r.Intn(4)]
		}
		l = append(l, impl.Bridge{Id: id, Rank: rank, Up: r.Intn(4) > 0})
	}
	return l
}

// sampleBridges has bridges of each number that may be.
func sampleBridges(seed int64, each int) [][]impl.Bridge {
	r := rand.New(rand.NewSource(seed))
	var l [][]impl.Bridge
	for many := 1; many <= 10; many++ {
		for range each {
			l = append(l, randomBridges(r, many))
		}
		l = append(l, allDown(randomBridges(r, many)), allUp(randomBridges(r, many)))
	}
	return l
}

func allDown(l []impl.Bridge) []impl.Bridge {
	g := slices.Clone(l)
	for k := range g {
		g[k].Up = false
	}
	return g
}

func allUp(l []impl.Bridge) []impl.Bridge {
	g := slices.Clone(l)
	for k := range g {
		g[k].Up = true
	}
	return g
}

func withDown(l []impl.Bridge, at int) []impl.Bridge {
	g := slices.Clone(l)
	g[at].Up = false
	return g
}

func bridgesOf(many int) []impl.Bridge {
	var l []impl.Bridge
	for k := range many {
		l = append(l, up(1+k, 5))
	}
	return l
}

func placesUpTo(many int) []int {
	var l []int
	for k := range many {
		l = append(l, k)
	}
	return l
}

// allSeeing has what each of many sees where each sees all; itself it tells or
// leaves out.
func allSeeing(many int, tellsItself bool) [][]int {
	var sees [][]int
	for self := range many {
		places := placesUpTo(many)
		if !tellsItself {
			places = slices.Delete(places, self, self+1)
		}
		sees = append(sees, places)
	}
	return sees
}

func randomSees(r *rand.Rand, many int) [][]int {
	var sees [][]int
	for range many {
		var places []int
		for k := range many {
			if r.Intn(3) == 0 {
				places = append(places, k)
			}
		}
		sees = append(sees, places)
	}
	return sees
}

func copyOfSees(sees [][]int) [][]int {
	var g [][]int
	for _, places := range sees {
		g = append(g, slices.Clone(places))
	}
	return g
}

func sameSees(a [][]int, b [][]int) bool {
	return slices.EqualFunc(a, b, slices.Equal)
}

func bridgesThatAreNone() [][]impl.Bridge {
	l := [][]impl.Bridge{
		nil,
		{},
		bridgesOf(11),
		bridgesOf(12),
		bridgesOf(1000),
		allDown(bridgesOf(11)),
		{up(3, 5), up(3, 5)},
		{up(3, 5), down(3, 5)},
		{up(3, 5), up(3, 6)},
		{up(4, 5), up(3, 5)},
		{up(1, 5), up(2, 5), up(2, 5)},
		{up(1, 5), up(3, 5), up(2, 5)},
		{up(1000, 127), up(1, 0)},
		{{}},
		{{}, {}},
		{{}, up(1, 1)},
	}
	for _, wrong := range wrongBridges() {
		l = append(l, bridges(wrong))
		for at := range 3 {
			three := bridges(up(2, 5), up(500, 5), up(999, 5))
			three[at] = wrong
			l = append(l, three)
		}
		l = append(l, append(bridgesOf(9), wrong))
	}
	return l
}

func wrongBridges() []impl.Bridge {
	var l []impl.Bridge
	for _, isUp := range []bool{false, true} {
		for _, id := range []int{0, -1, 1001, 1002, -1000, 256 * 1000, 1 << 32, 1<<32 + 5, math.MinInt, math.MinInt + 1, math.MaxInt - 1, math.MaxInt} {
			l = append(l, impl.Bridge{Id: id, Rank: 5, Up: isUp})
		}
		for _, rank := range []int{-1, -2, 128, 129, 255, 256, -128, 1 << 32, math.MinInt, math.MinInt + 1, math.MaxInt - 1, math.MaxInt} {
			l = append(l, impl.Bridge{Id: 500, Rank: rank, Up: isUp})
		}
		l = append(l, impl.Bridge{Id: math.MinInt, Rank: math.MaxInt, Up: isUp}, impl.Bridge{Id: 0, Rank: 128, Up: isUp})
	}
	return l
}

func bridgesAtEdges() []impl.Bridge {
	var l []impl.Bridge
	for _, id := range []int{1, 2, 500, 999, 1000} {
		for _, rank := range []int{0, 1, 64, 126, 127} {
			l = append(l, up(id, rank), down(id, rank))
		}
	}
	return l
}

func wantNums(t *testing.T, told string, g []int, w []int) {
	t.Helper()
	if !slices.Equal(g, w) {
		t.Fatalf("%s: %v, want %v", told, g, w)
	}
}

func mustLeaders(t *testing.T, l []impl.Bridge, sees [][]int) []int {
	t.Helper()
	g, ok := impl.LeadersBy(l, sees)
	if !ok || len(g) != len(l) {
		t.Fatalf("LeadersBy(%v, %v) = %v, %t", l, sees, g, ok)
	}
	return g
}

func mustServers(t *testing.T, l []impl.Bridge, groups int) []int {
	t.Helper()
	g, ok := impl.ServersOf(l, groups)
	if !ok || len(g) != groups {
		t.Fatalf("ServersOf(%v, %d) = %v, %t", l, groups, g, ok)
	}
	return g
}

func mustMoved(t *testing.T, l []impl.Bridge, id int, groups int) []int {
	t.Helper()
	g, ok := impl.Moved(l, id, groups)
	if !ok {
		t.Fatalf("Moved(%v, %d, %d) = %v, false", l, id, groups, g)
	}
	return g
}

func TestMaxBridges(t *testing.T) {
	if impl.MaxBridges != 10 {
		t.Error(impl.MaxBridges)
	}
}

func TestGoodBridges(t *testing.T) {
	for _, l := range append(sampleBridges(1, 30),
		bridges(up(1, 0)), bridges(down(1, 0)), bridges(up(1000, 127)), bridges(down(1000, 127)),
		bridges(up(1, 127), up(1000, 0)), bridges(up(1, 5), down(2, 5)), bridges(up(999, 0), up(1000, 0)),
		bridgesOf(1), bridgesOf(10), allDown(bridgesOf(10)),
	) {
		if !impl.GoodBridges(l) {
			t.Errorf("not good: %v", l)
		}
	}
	for _, l := range bridgesThatAreNone() {
		if impl.GoodBridges(l) {
			t.Errorf("good: %v", l)
		}
	}
}

func TestGoodBridgesByWords(t *testing.T) {
	r := rand.New(rand.NewSource(2))
	for range 30000 {
		l := randomBridges(r, 1+r.Intn(12))
		at := r.Intn(len(l))
		switch r.Intn(4) {
		case 0:
			l[at].Id = []int{0, 1, 1000, 1001, l[r.Intn(len(l))].Id}[r.Intn(5)]
		case 1:
			l[at].Rank = []int{-1, 0, 127, 128}[r.Intn(4)]
		case 2:
			other := r.Intn(len(l))
			l[at], l[other] = l[other], l[at]
		}
		if g, w := impl.GoodBridges(l), goodBridgesByWords(l); g != w {
			t.Fatalf("%v: %t, not %t", l, g, w)
		}
	}
}

func TestBeatsByHand(t *testing.T) {
	for _, c := range []struct {
		a, b impl.Bridge
		want bool
	}{
		{up(1, 5), up(2, 4), true},
		{up(2, 4), up(1, 5), false},
		{up(1, 5), up(2, 5), false},
		{up(2, 5), up(1, 5), true},
		{up(2, 5), up(1, 6), false},
		{down(2, 7), up(1, 5), true},
		{up(1, 5), down(2, 7), false},
		{down(1, 0), down(2, 0), false},
		{down(2, 0), down(1, 0), true},
		{up(1, 127), up(1000, 126), true},
		{up(1, 0), up(1000, 0), false},
		{up(1000, 127), up(999, 127), true},
	} {
		if g, ok := impl.Beats(c.a, c.b); g != c.want || !ok {
			t.Errorf("Beats(%v, %v) = %t, %t; asked for %t, true", c.a, c.b, g, ok, c.want)
		}
	}
}

func TestBeatsOfEachTwo(t *testing.T) {
	for _, a := range bridgesAtEdges() {
		for _, b := range bridgesAtEdges() {
			g, ok := impl.Beats(a, b)
			if a.Id == b.Id {
				if g || ok {
					t.Errorf("Beats(%v, %v) = %t, %t: they have one Id", a, b, g, ok)
				}
				continue
			}
			if g != beatsByWords(a, b) || !ok {
				t.Errorf("Beats(%v, %v) = %t, %t", a, b, g, ok)
			}
			if back, _ := impl.Beats(b, a); back == g {
				t.Errorf("of %v and %v not just one beats the other one", a, b)
			}
		}
	}
}

func TestBeatsOfOneThatIsNotAsSaid(t *testing.T) {
	for _, wrong := range wrongBridges() {
		for _, right := range bridgesAtEdges() {
			if g, ok := impl.Beats(wrong, right); g || ok {
				t.Errorf("Beats(%v, %v) = %t, %t", wrong, right, g, ok)
			}
			if g, ok := impl.Beats(right, wrong); g || ok {
				t.Errorf("Beats(%v, %v) = %t, %t", right, wrong, g, ok)
			}
		}
		for _, other := range wrongBridges() {
			if g, ok := impl.Beats(wrong, other); g || ok {
				t.Errorf("Beats(%v, %v) = %t, %t", wrong, other, g, ok)
			}
		}
	}
}

func TestLeaderOfByHand(t *testing.T) {
	for _, c := range []struct {
		l    []impl.Bridge
		want int
	}{
		{bridges(up(1, 0)), 1},
		{bridges(up(1000, 127)), 1000},
		{bridges(up(1, 5), up(2, 5)), 2},
		{bridges(up(1, 6), up(2, 5)), 1},
		{bridges(up(1, 5), down(2, 7), up(3, 5)), 3},
		{bridges(up(1, 5), down(2, 5)), 1},
		{bridges(down(1, 127), up(2, 0)), 2},
		{bridges(down(1, 127), up(2, 0), down(3, 127)), 2},
		{bridges(up(7, 3), up(8, 9), up(9, 9), up(10, 8)), 9},
		{bridges(up(7, 9), up(8, 9), down(9, 9), up(10, 8)), 8},
		{bridgesOf(10), 10},
	} {
		if g, ok := impl.LeaderOf(c.l); g != c.want || !ok {
			t.Errorf("LeaderOf(%v) = %d, %t; asked for %d, true", c.l, g, ok, c.want)
		}
	}
}

func TestLeaderOfByWords(t *testing.T) {
	for _, l := range sampleBridges(3, 300) {
		want := leaderByWords(l)
		if g, ok := impl.LeaderOf(l); g != want || ok != (want != 0) {
			t.Fatalf("LeaderOf(%v) = %d, %t; asked for %d", l, g, ok, want)
		}
	}
}

// A bridge that is down leads nothing, whatever its Rank is.
func TestOneThatIsDownLeadsNothing(t *testing.T) {
	for _, l := range sampleBridges(4, 50) {
		for at := range l {
			g := withDown(l, at)
			g[at].Rank = 127
			if leader, ok := impl.LeaderOf(g); ok && leader == g[at].Id {
				t.Fatalf("LeaderOf(%v) = %d, which is down", g, leader)
			}
			for _, tellsItself := range []bool{false, true} {
				if slices.Contains(mustLeaders(t, g, allSeeing(len(g), tellsItself)), g[at].Id) {
					t.Fatalf("%d leads %v, but is down", g[at].Id, g)
				}
			}
			if slices.Contains(mustServers(t, g, 40), g[at].Id) {
				t.Fatalf("%d serves in %v, but is down", g[at].Id, g)
			}
		}
	}
}

func TestNoneIsUp(t *testing.T) {
	for _, l := range sampleBridges(5, 20) {
		l = allDown(l)
		if g, ok := impl.LeaderOf(l); g != 0 || ok {
			t.Errorf("LeaderOf(%v) = %d, %t", l, g, ok)
		}
		for _, sees := range [][][]int{allSeeing(len(l), true), allSeeing(len(l), false), make([][]int, len(l))} {
			wantNums(t, "LeadersBy", mustLeaders(t, l, sees), make([]int, len(l)))
		}
		for groups := 0; groups <= 40; groups++ {
			wantNums(t, "ServersOf", mustServers(t, l, groups), make([]int, groups))
		}
		for _, b := range l {
			if g, ok := impl.Moved(l, b.Id, 40); len(g) != 0 || ok {
				t.Errorf("Moved(%v, %d, 40) = %v, %t", l, b.Id, g, ok)
			}
		}
	}
}

// Where each one sees all, all hold the same for the leader: the one that
// LeaderOf tells, which no other one that is Up beats.
func TestWhoSeeAllHoldTheSame(t *testing.T) {
	for _, l := range sampleBridges(6, 200) {
		leader, some := impl.LeaderOf(l)
		at := slices.IndexFunc(l, func(b impl.Bridge) bool { return b.Id == leader })
		if some && (at < 0 || !l[at].Up) {
			t.Fatalf("LeaderOf(%v) = %d", l, leader)
		}
		for _, tellsItself := range []bool{false, true} {
			want := slices.Repeat([]int{leader}, len(l))
			wantNums(t, "LeadersBy", mustLeaders(t, l, allSeeing(len(l), tellsItself)), want)
		}
		for k, b := range l {
			if !some || k == at || !b.Up {
				continue
			}
			if beats, ok := impl.Beats(b, l[at]); beats || !ok {
				t.Fatalf("%d leads %v, but %v beats it", leader, l, b)
			}
		}
	}
}

// Once the leader has gone the next one is the same for all again.
func TestLeadersGoOneByOne(t *testing.T) {
	for _, l := range sampleBridges(7, 30) {
		l = allUp(l)
		byRank := slices.Clone(l)
		slices.SortFunc(byRank, func(a impl.Bridge, b impl.Bridge) int {
			if beatsByWords(a, b) {
				return -1
			}
			return 1
		})
		for _, next := range byRank {
			wantNums(t, "LeadersBy", mustLeaders(t, l, allSeeing(len(l), false)), slices.Repeat([]int{next.Id}, len(l)))
			at := slices.IndexFunc(l, func(b impl.Bridge) bool { return b.Id == next.Id })
			l = withDown(l, at)
		}
		if leader, ok := impl.LeaderOf(l); leader != 0 || ok {
			t.Fatalf("LeaderOf(%v) = %d, %t", l, leader, ok)
		}
	}
}

func TestLeadersByByHand(t *testing.T) {
	three := bridges(up(1, 5), down(2, 7), up(3, 5))
	for _, c := range []struct {
		l    []impl.Bridge
		sees [][]int
		want []int
	}{
		{three, [][]int{nil, nil, nil}, []int{1, 0, 3}},
		{three, [][]int{{0}, {1}, {2}}, []int{1, 0, 3}},
		{three, [][]int{{2}, nil, nil}, []int{3, 0, 3}},
		{three, [][]int{nil, nil, {0}}, []int{1, 0, 3}},
		{three, [][]int{nil, {0}, nil}, []int{1, 1, 3}},
		{three, [][]int{nil, {0, 2}, nil}, []int{1, 3, 3}},
		{three, [][]int{{1}, {1}, {1}}, []int{1, 0, 3}},
		{three, [][]int{{0, 1, 2}, {0, 1, 2}, {0, 1, 2}}, []int{3, 3, 3}},
		{bridges(up(1, 9), up(2, 5)), [][]int{nil, {0}}, []int{1, 1}},
		{bridges(up(1, 9), up(2, 5)), [][]int{{1}, nil}, []int{1, 2}},
		{bridges(up(9, 0)), [][]int{nil}, []int{9}},
		{bridges(up(9, 0)), [][]int{{0}}, []int{9}},
		{bridges(down(9, 0)), [][]int{{0}}, []int{0}},
		{bridges(down(9, 0), down(10, 1)), [][]int{{1}, {0}}, []int{0, 0}},
	} {
		wantNums(t, "LeadersBy", mustLeaders(t, c.l, c.sees), c.want)
	}
}

func TestLeadersByByWords(t *testing.T) {
	r := rand.New(rand.NewSource(8))
	for _, l := range sampleBridges(9, 300) {
		sees := randomSees(r, len(l))
		wantNums(t, "LeadersBy", mustLeaders(t, l, sees), leadersByWords(l, sees))
	}
}

// Itself each one sees always: told or left out is the same.
func TestItselfToldAndLeftOut(t *testing.T) {
	r := rand.New(rand.NewSource(10))
	for _, l := range sampleBridges(11, 100) {
		told, left := randomSees(r, len(l)), make([][]int, len(l))
		for self := range l {
			if !slices.Contains(told[self], self) {
				told[self] = append(told[self], self)
				slices.Sort(told[self])
			}
			left[self] = slices.DeleteFunc(slices.Clone(told[self]), func(k int) bool { return k == self })
		}
		wantNums(t, "LeadersBy", mustLeaders(t, l, told), mustLeaders(t, l, left))
	}
}

func TestWhoSeeTheSameHoldTheSame(t *testing.T) {
	r := rand.New(rand.NewSource(12))
	for _, l := range sampleBridges(13, 100) {
		var together []int
		for k := range l {
			if r.Intn(2) == 0 {
				together = append(together, k)
			}
		}
		sees := randomSees(r, len(l))
		for _, k := range together {
			sees[k] = slices.Clone(together)
		}
		leaders := mustLeaders(t, l, sees)
		for _, k := range together {
			if leaders[k] != leaders[together[0]] {
				t.Fatalf("LeadersBy(%v, %v) = %v, but %v see the same", l, sees, leaders, together)
			}
		}
	}
}

func TestSeesThatAreNotAsSaid(t *testing.T) {
	for many := 1; many <= 10; many++ {
		l := bridgesOf(many)
		wrong := [][][]int{nil, {}, make([][]int, many-1), make([][]int, many+1), make([][]int, 11), make([][]int, 1000)}
		for _, places := range [][]int{
			{-1}, {many}, {many + 1}, {0, many}, {-1, 0}, {0, 0}, {many - 1, many - 1}, {1, 0}, {many, many - 1},
			{0, 1 << 32}, {math.MinInt}, {math.MaxInt}, {math.MinInt, math.MaxInt}, {0, math.MaxInt}, {math.MinInt, 0},
			append(placesUpTo(many), many), append([]int{-1}, placesUpTo(many)...), append(placesUpTo(many), many-1),
			append(placesUpTo(many), 0),
		} {
			for at := range many {
				sees := allSeeing(many, at%2 == 0)
				sees[at] = places
				wrong = append(wrong, sees)
			}
		}
		for _, sees := range wrong {
			kept := copyOfSees(sees)
			if g, ok := impl.LeadersBy(l, sees); len(g) != 0 || ok {
				t.Errorf("LeadersBy of %d bridges and %v = %v, %t", many, sees, g, ok)
			}
			if g, ok := impl.LeadersBy(allDown(l), sees); len(g) != 0 || ok {
				t.Errorf("LeadersBy of %d bridges that are down and %v = %v, %t", many, sees, g, ok)
			}
			if !sameSees(sees, kept) {
				t.Errorf("%v was written into", kept)
			}
		}
	}
}

func TestSetRankOfEach(t *testing.T) {
	for _, l := range sampleBridges(14, 20) {
		for at, b := range l {
			for _, rank := range []int{0, 1, 63, 64, 126, 127, b.Rank} {
				want := slices.Clone(l)
				want[at].Rank = rank
				g, ok := impl.SetRank(l, b.Id, rank)
				if !ok || !slices.Equal(g, want) || !impl.GoodBridges(g) {
					t.Fatalf("SetRank(%v, %d, %d) = %v, %t", l, b.Id, rank, g, ok)
				}
				if back, ok := impl.SetRank(g, b.Id, b.Rank); !ok || !slices.Equal(back, l) {
					t.Fatalf("SetRank(%v, %d, %d) = %v, %t", g, b.Id, b.Rank, back, ok)
				}
			}
		}
	}
}

func TestSetRankThatCantBe(t *testing.T) {
	for _, l := range sampleBridges(15, 10) {
		for _, rank := range []int{-1, 128, -2, 129, 255, 256, 1 << 32, math.MinInt, math.MaxInt} {
			for _, b := range l {
				if g, ok := impl.SetRank(l, b.Id, rank); len(g) != 0 || ok {
					t.Errorf("SetRank(%v, %d, %d) = %v, %t", l, b.Id, rank, g, ok)
				}
			}
		}
		for _, id := range idsOfNobody(l) {
			for _, rank := range []int{-1, 0, 5, 127, 128, math.MinInt, math.MaxInt} {
				if g, ok := impl.SetRank(l, id, rank); len(g) != 0 || ok {
					t.Errorf("SetRank(%v, %d, %d) = %v, %t", l, id, rank, g, ok)
				}
			}
		}
	}
}

// idsOfNobody has Ids beside those of the bridges, and some that nobody can have.
func idsOfNobody(l []impl.Bridge) []int {
	ids := []int{0, -1, 1001, 1 << 32, math.MinInt, math.MaxInt}
	for _, b := range l {
		ids = append(ids, b.Id-1, b.Id+1, -b.Id, b.Id+101, b.Id+1<<32)
	}
	return slices.DeleteFunc(ids, func(id int) bool {
		return slices.ContainsFunc(l, func(b impl.Bridge) bool { return b.Id == id })
	})
}

// Whoever is Up comes to lead by a Rank that is greater than all others.
func TestSetRankMakesALeader(t *testing.T) {
	for _, l := range sampleBridges(16, 20) {
		for k := range l {
			l[k].Rank = min(l[k].Rank, 126)
		}
		for _, b := range l {
			g, _ := impl.SetRank(l, b.Id, 127)
			leader, some := impl.LeaderOf(g)
			if b.Up && (leader != b.Id || !some) {
				t.Fatalf("LeaderOf(%v) = %d, %t", g, leader, some)
			}
			if before, _ := impl.LeaderOf(l); !b.Up && leader != before {
				t.Fatalf("LeaderOf(%v) = %d, but was %d", g, leader, before)
			}
		}
	}
}

func TestServersOfByHand(t *testing.T) {
	three := bridges(up(1, 0), up(14, 0), up(15, 0))
	for _, c := range []struct {
		l    []impl.Bridge
		want []int
	}{
		{three, []int{14, 1, 1, 1, 1, 1, 1, 1, 1, 1, 1, 1, 1, 1, 1, 15}},
		{withDown(three, 0), []int{14, 15, 15, 15, 15, 15, 15, 15, 15, 15, 15, 15, 15, 15, 15, 15}},
		{withDown(three, 1), []int{1, 1, 1, 1, 1, 1, 1, 1, 1, 1, 1, 1, 1, 1, 1, 15}},
		{withDown(three, 2), []int{14, 1, 1, 1, 1, 1, 1, 1, 1, 1, 1, 1, 1, 1, 1, 14}},
		{bridges(up(1, 5), down(2, 7), up(3, 5)), []int{3, 3}},
		{bridges(up(1, 5), up(2, 7)), []int{2, 2}},
		{bridges(up(9, 0)), []int{9, 9, 9}},
		{bridges(up(101, 0)), []int{101}},
		{bridges(down(9, 0)), []int{0, 0, 0}},
		{bridges(up(9, 0)), nil},
	} {
		wantNums(t, "ServersOf", mustServers(t, c.l, len(c.want)), c.want)
	}
}

func TestServersOfByWords(t *testing.T) {
	for _, l := range sampleBridges(17, 100) {
		for _, groups := range []int{0, 1, 2, 20, 39, 40} {
			wantNums(t, "ServersOf", mustServers(t, l, groups), serversByWords(l, groups))
		}
	}
}

func TestServersOfEachTwoIds(t *testing.T) {
	for a := 1; a <= 1000; a += 7 {
		for b := a + 1; b <= 1000; b += 5 {
			l := bridges(up(a, 127), up(b, 0))
			wantNums(t, "ServersOf", mustServers(t, l, 40), serversByWords(l, 40))
		}
	}
}

// Ids that are 101 apart are as great for each group: the least one serves.
func TestOfAsGreatOnesTheLeastIdServes(t *testing.T) {
	for first := 1; first <= 91; first++ {
		var l []impl.Bridge
		for k := range 10 {
			l = append(l, up(first+101*k, k*14))
		}
		for at := range l {
			wantNums(t, "ServersOf", mustServers(t, l, 40), slices.Repeat([]int{l[at].Id}, 40))
			wantNums(t, "Moved", mustMoved(t, l, l[at].Id, 40), placesUpTo(40))
			for _, other := range l[at+1:] {
				wantNums(t, "Moved", mustMoved(t, l, other.Id, 40), nil)
			}
			l = withDown(l, at)
		}
	}
}

// A Rank counts for who leads, not for who serves.
func TestServersDoNotHangOnRanks(t *testing.T) {
	r := rand.New(rand.NewSource(18))
	for _, l := range sampleBridges(19, 30) {
		want := mustServers(t, l, 40)
		for k := range l {
			l[k].Rank = r.Intn(128)
		}
		wantNums(t, "ServersOf", mustServers(t, l, 40), want)
	}
}

func TestServersOfFewerGroups(t *testing.T) {
	for _, l := range sampleBridges(20, 20) {
		all := mustServers(t, l, 40)
		for groups := range 40 {
			wantNums(t, "ServersOf", mustServers(t, l, groups), all[:groups])
		}
	}
}

// movedByWords tells the groups whose server is another once that one is down.
func movedByWords(l []impl.Bridge, id int, groups int) []int {
	at := slices.IndexFunc(l, func(b impl.Bridge) bool { return b.Id == id })
	had, has := serversByWords(l, groups), serversByWords(withDown(l, at), groups)
	var moved []int
	for group := range groups {
		if had[group] != has[group] {
			moved = append(moved, group)
		}
	}
	return moved
}

func TestMovedByHand(t *testing.T) {
	three := bridges(up(1, 0), up(14, 0), up(15, 0))
	for _, c := range []struct {
		l      []impl.Bridge
		id     int
		groups int
		want   []int
	}{
		{three, 1, 16, []int{1, 2, 3, 4, 5, 6, 7, 8, 9, 10, 11, 12, 13, 14}},
		{three, 14, 16, []int{0}},
		{three, 15, 16, []int{15}},
		{three, 15, 15, nil},
		{three, 14, 1, []int{0}},
		{three, 14, 0, nil},
		{withDown(three, 2), 14, 16, []int{0, 15}},
		{bridges(up(9, 0)), 9, 3, []int{0, 1, 2}},
		{bridges(down(8, 0), up(9, 0), down(10, 0)), 9, 3, []int{0, 1, 2}},
		{bridges(up(5, 0), up(106, 0)), 5, 2, []int{0, 1}},
		{bridges(up(5, 0), up(106, 0)), 106, 2, nil},
	} {
		wantNums(t, "Moved", mustMoved(t, c.l, c.id, c.groups), c.want)
	}
}

// Just the groups that one serves move when it goes; every other group has the
// server that it had.
func TestJustTheGroupsThatItServedMove(t *testing.T) {
	for _, l := range sampleBridges(21, 60) {
		for at, b := range l {
			if !b.Up {
				continue
			}
			for _, groups := range []int{0, 1, 7, 39, 40} {
				had, has := mustServers(t, l, groups), mustServers(t, withDown(l, at), groups)
				var served []int
				for group, server := range had {
					if server == b.Id {
						served = append(served, group)
						continue
					}
					if has[group] != server {
						t.Fatalf("%v without %d: group %d goes from %d to %d", l, b.Id, group, server, has[group])
					}
				}
				moved := mustMoved(t, l, b.Id, groups)
				wantNums(t, "Moved", moved, served)
				wantNums(t, "Moved", moved, movedByWords(l, b.Id, groups))
				if slices.Contains(has, b.Id) {
					t.Fatalf("%d is down in %v and serves", b.Id, l)
				}
			}
		}
	}
}

func TestEachGroupMovesOfJustOne(t *testing.T) {
	for _, l := range sampleBridges(22, 30) {
		var all []int
		for _, b := range l {
			if b.Up {
				all = append(all, mustMoved(t, l, b.Id, 40)...)
			}
		}
		slices.Sort(all)
		if _, some := impl.LeaderOf(l); some {
			wantNums(t, "Moved of all that are Up", all, placesUpTo(40))
		}
	}
}

func TestMovedOfOneThatCantGo(t *testing.T) {
	for _, l := range sampleBridges(23, 20) {
		for _, groups := range []int{0, 1, 40} {
			for _, id := range idsOfNobody(l) {
				if g, ok := impl.Moved(l, id, groups); len(g) != 0 || ok {
					t.Errorf("Moved(%v, %d, %d) = %v, %t", l, id, groups, g, ok)
				}
			}
			for _, b := range l {
				g, ok := impl.Moved(l, b.Id, groups)
				if ok != b.Up || !b.Up && len(g) != 0 {
					t.Errorf("Moved(%v, %d, %d) = %v, %t", l, b.Id, groups, g, ok)
				}
			}
		}
	}
}

func TestGroupsThatAreNotAsSaid(t *testing.T) {
	for _, l := range sampleBridges(24, 10) {
		for _, groups := range []int{-1, 41, -2, 42, -40, 256, 1 << 32, 1<<32 + 1, math.MinInt, math.MinInt + 1, math.MaxInt - 1, math.MaxInt} {
			if g, ok := impl.ServersOf(l, groups); len(g) != 0 || ok {
				t.Errorf("ServersOf(%v, %d) = %v, %t", l, groups, g, ok)
			}
			for _, b := range l {
				if g, ok := impl.Moved(l, b.Id, groups); len(g) != 0 || ok {
					t.Errorf("Moved(%v, %d, %d) = %v, %t", l, b.Id, groups, g, ok)
				}
			}
		}
	}
}

func TestBridgesThatAreNone(t *testing.T) {
	for _, l := range bridgesThatAreNone() {
		kept := slices.Clone(l)
		if g, ok := impl.LeaderOf(l); g != 0 || ok {
			t.Errorf("LeaderOf(%v) = %d, %t", l, g, ok)
		}
		for _, sees := range [][][]int{nil, {}, make([][]int, len(l)), allSeeing(len(l), true), make([][]int, 10)} {
			if g, ok := impl.LeadersBy(l, sees); len(g) != 0 || ok {
				t.Errorf("LeadersBy(%v, %v) = %v, %t", l, sees, g, ok)
			}
		}
		ids := []int{0, 1, 2, 3, 500, 999, 1000, 1001, math.MinInt, math.MaxInt}
		if len(l) > 0 {
			ids = append(ids, l[0].Id, l[len(l)-1].Id)
		}
		for _, n := range []int{0, 1, 5, 40, 127, 41, -1, math.MinInt, math.MaxInt} {
			if g, ok := impl.ServersOf(l, n); len(g) != 0 || ok {
				t.Errorf("ServersOf(%v, %d) = %v, %t", l, n, g, ok)
			}
			for _, id := range ids {
				if g, ok := impl.SetRank(l, id, n); len(g) != 0 || ok {
					t.Errorf("SetRank(%v, %d, %d) = %v, %t", l, id, n, g, ok)
				}
				if g, ok := impl.Moved(l, id, n); len(g) != 0 || ok {
					t.Errorf("Moved(%v, %d, %d) = %v, %t", l, id, n, g, ok)
				}
			}
		}
		if !slices.Equal(l, kept) {
			t.Errorf("%v was written into", kept)
		}
	}
}

// bridgesBehind lays bridges ahead of more, which are no part of them: they
// would be good bridges, and win everywhere, if they were read.
func bridgesBehind(l []impl.Bridge) []impl.Bridge {
	memory := slices.Repeat(bridges(up(1000, 127)), len(l)+3)
	return memory[:copy(memory, l)]
}

func areBridgesUntouched(l []impl.Bridge) bool {
	for _, b := range l[len(l) : len(l)+3] {
		if b != up(1000, 127) {
			return false
		}
	}
	return true
}

func seesBehind(sees [][]int) [][]int {
	memory := slices.Repeat([][]int{{-77}}, len(sees)+3)
	for k, places := range sees {
		memory[k] = behind(places)
	}
	return memory[:len(sees)]
}

func areSeesUntouched(sees [][]int) bool {
	for _, places := range sees {
		if !isUntouched(places) {
			return false
		}
	}
	for _, places := range sees[len(sees) : len(sees)+3] {
		if !slices.Equal(places, []int{-77}) {
			return false
		}
	}
	return true
}

func scribbleNums(l []int) {
	l = l[:cap(l)]
	for k := range l {
		l[k] = -5
	}
}

func scribbleBridges(l []impl.Bridge) {
	l = l[:cap(l)]
	for k := range l {
		l[k] = impl.Bridge{Id: -5, Rank: -5, Up: true}
	}
}

// Each answer is written over, up to its capacity; what was given stays as it
// was, and what lies behind it too.
func TestElectAnswersAreNewMemory(t *testing.T) {
	r := rand.New(rand.NewSource(25))
	for _, made := range sampleBridges(26, 30) {
		seen := randomSees(r, len(made))
		l, sees := bridgesBehind(made), seesBehind(seen)
		impl.GoodBridges(l)
		if leader, _ := impl.LeaderOf(l); leader != leaderByWords(made) {
			t.Fatalf("LeaderOf(%v) = %d", made, leader)
		}
		leaders := mustLeaders(t, l, sees)
		wantNums(t, "LeadersBy", leaders, leadersByWords(made, seen))
		scribbleNums(leaders)
		servers := mustServers(t, l, 40)
		wantNums(t, "ServersOf", servers, serversByWords(made, 40))
		scribbleNums(servers)
		for _, b := range made {
			for _, rank := range []int{0, b.Rank, 128} {
				ranked, _ := impl.SetRank(l, b.Id, rank)
				scribbleBridges(ranked)
			}
			moved, ok := impl.Moved(l, b.Id, 40)
			if ok {
				wantNums(t, "Moved", moved, movedByWords(made, b.Id, 40))
			}
			scribbleNums(moved)
		}
		if !slices.Equal(l, made) || !sameSees(sees, seen) {
			t.Fatalf("%v or %v was written into", made, seen)
		}
		if !areBridgesUntouched(l) || !areSeesUntouched(sees) {
			t.Fatalf("what lies behind %v or %v was written into", made, seen)
		}
	}
}

func TestElectAnswersAreNewEachTime(t *testing.T) {
	for _, l := range sampleBridges(27, 20) {
		sees := allSeeing(len(l), true)
		leaders, servers := mustLeaders(t, l, sees), mustServers(t, l, 40)
		wantLeaders, wantServers := slices.Clone(leaders), slices.Clone(servers)
		scribbleNums(leaders)
		scribbleNums(servers)
		wantNums(t, "LeadersBy", mustLeaders(t, l, sees), wantLeaders)
		wantNums(t, "ServersOf", mustServers(t, l, 40), wantServers)
	}
}

func TestEmptySightAndNilSight(t *testing.T) {
	r := rand.New(rand.NewSource(28))
	for _, l := range sampleBridges(29, 30) {
		without := randomSees(r, len(l))
		with := make([][]int, len(l))
		for k, places := range without {
			with[k] = append([]int{}, places...)
		}
		wantNums(t, "LeadersBy", mustLeaders(t, l, with), mustLeaders(t, l, without))
		empty := make([][]int, len(l))
		for k := range empty {
			empty[k] = []int{}
		}
		wantNums(t, "LeadersBy", mustLeaders(t, l, empty), mustLeaders(t, l, make([][]int, len(l))))
	}
}

// What is refused is refused alike for the empty list and the nil list.
func TestEmptyBridgesAndNilBridges(t *testing.T) {
	for _, l := range [][]impl.Bridge{nil, {}, bridgesOf(3)[:0]} {
		if impl.GoodBridges(l) {
			t.Error("no bridges are good")
		}
		if g, ok := impl.LeaderOf(l); g != 0 || ok {
			t.Errorf("LeaderOf of none = %d, %t", g, ok)
		}
		for _, sees := range [][][]int{nil, {}, {nil}, {{}}} {
			if g, ok := impl.LeadersBy(l, sees); len(g) != 0 || ok {
				t.Errorf("LeadersBy of none and %v = %v, %t", sees, g, ok)
			}
		}
		if g, ok := impl.ServersOf(l, 0); len(g) != 0 || ok {
			t.Errorf("ServersOf of none = %v, %t", g, ok)
		}
		if g, ok := impl.SetRank(l, 1, 5); len(g) != 0 || ok {
			t.Errorf("SetRank of none = %v, %t", g, ok)
		}
		if g, ok := impl.Moved(l, 1, 0); len(g) != 0 || ok {
			t.Errorf("Moved of none = %v, %t", g, ok)
		}
	}
}
