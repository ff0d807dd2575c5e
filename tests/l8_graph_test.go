package tests

import (
	"cmp"
	"math"
	"math/rand"
	"slices"
	"testing"

	"loop.example/g00575/impl"
)

func edge(a int, b int, cost int) impl.Edge { return impl.Edge{A: a, B: b, Cost: cost} }

func edges(l ...impl.Edge) []impl.Edge { return l }

func tell(by int, near int, cost int) impl.Told {
	return impl.Told{By: by, Near: near, Cost: cost}
}

func tellings(l ...impl.Told) []impl.Told { return l }

// allTwos are each two spots, the lesser first, in the order of good edges.
func allTwos(spots int) [][2]int {
	var twos [][2]int
	for a := range spots {
		for b := a + 1; b < spots; b++ {
			twos = append(twos, [2]int{a, b})
		}
	}
	return twos
}

// edgesFrom has many edges, from two number first of allTwos on.
func edgesFrom(spots int, first int, many int) []impl.Edge {
	var l []impl.Edge
	for k, two := range allTwos(spots)[first : first+many] {
		l = append(l, edge(two[0], two[1], 1+k%100))
	}
	return l
}

func ringEdges(spots int) []impl.Edge {
	l := edges(edge(0, 1, 1), edge(0, spots-1, 1))
	for a := 1; a < spots-1; a++ {
		l = append(l, edge(a, a+1, 1))
	}
	return l
}

// goodEdgesByWords is the document's sentence on edges, word by word.
func goodEdgesByWords(spots int, l []impl.Edge) bool {
	if spots < 1 || 12 < spots || len(l) > 40 {
		return false
	}
	for k, e := range l {
		if e.A < 0 || spots <= e.A || e.B < 0 || spots <= e.B || e.A >= e.B || e.Cost < 1 || 100 < e.Cost {
			return false
		}
		for _, other := range l[:k] {
			if other.A > e.A || other.A == e.A && other.B >= e.B {
				return false
			}
		}
	}
	return true
}

func goodTellingsByWords(spots int, l []impl.Told) bool {
	wrong := func(x impl.Told) bool {
		return x.By < 0 || spots <= x.By || x.Near < 0 || spots <= x.Near || x.By == x.Near || x.Cost < 1 || 100 < x.Cost
	}
	return 1 <= spots && spots <= 12 && len(l) <= 80 && !slices.ContainsFunc(l, wrong)
}

// bothByWords has what each told last of each other one.
func bothByWords(l []impl.Told) []impl.Edge {
	last := map[[2]int]int{}
	for _, x := range l {
		last[[2]int{x.By, x.Near}] = x.Cost
	}
	var both []impl.Edge
	for two, cost := range last {
		if back, ok := last[[2]int{two[1], two[0]}]; ok && two[0] < two[1] {
			both = append(both, edge(two[0], two[1], max(cost, back)))
		}
	}
	slices.SortFunc(both, func(x impl.Edge, y impl.Edge) int {
		return cmp.Or(cmp.Compare(x.A, y.A), cmp.Compare(x.B, y.B))
	})
	return both
}

// reachedByWords are the spots that edges lead to from one, itself too, in the
// order in which a walk comes to them.
func reachedByWords(l []impl.Edge, from int) []int {
	reached := []int{from}
	for k := 0; k < len(reached); k++ {
		for _, e := range l {
			if e.A == reached[k] && !slices.Contains(reached, e.B) {
				reached = append(reached, e.B)
			}
			if e.B == reached[k] && !slices.Contains(reached, e.A) {
				reached = append(reached, e.A)
			}
		}
	}
	return reached
}

func groupsByWords(spots int, l []impl.Edge) []int {
	var groups []int
	for spot := range spots {
		groups = append(groups, slices.Min(reachedByWords(l, spot)))
	}
	return groups
}

func nearByWords(l []impl.Edge, at int) []int {
	var near []int
	for _, e := range l {
		if e.A == at {
			near = append(near, e.B)
		} else if e.B == at {
			near = append(near, e.A)
		}
	}
	slices.Sort(near)
	return near
}

// joiningByWords counts the edges that join two groups, put in one after another.
func joiningByWords(l []impl.Edge) int {
	joining := 0
	for k, e := range l {
		if !slices.Contains(reachedByWords(l[:k], e.A), e.B) {
			joining++
		}
	}
	return joining
}

func groupsIn(groups []int) int {
	many := 0
	for spot, group := range groups {
		if spot == group {
			many++
		}
	}
	return many
}

// randomGraph has any good edges, few or as many as can be.
func randomGraph(r *rand.Rand) (int, []impl.Edge) {
	spots := 1 + r.Intn(12)
	twos := allTwos(spots)
	most := min(40, len(twos))
	if r.Intn(2) == 0 {
		most = min(most, spots)
	}
	places := r.Perm(len(twos))[:r.Intn(most+1)]
	slices.Sort(places)
	var l []impl.Edge
	for _, k := range places {
		l = append(l, edge(twos[k][0], twos[k][1], 1+r.Intn([]int{1, 2, 100}[r.Intn(3)])))
	}
	return spots, l
}

func randomTellings(r *rand.Rand) (int, []impl.Told) {
	spots := 2 + r.Intn(11)
	if r.Intn(3) == 0 {
		spots = 2 + r.Intn(3)
	}
	top := []int{1, 2, 100}[r.Intn(3)]
	var l []impl.Told
	for range r.Intn(81) {
		by := r.Intn(spots)
		near := (by + 1 + r.Intn(spots-1)) % spots
		l = append(l, tell(by, near, 1+r.Intn(top)))
	}
	return spots, l
}

func wrongSpots() []int {
	return []int{math.MinInt, math.MinInt + 1, -1 << 32, -12, -1, 0, 13, 14, 66, 1<<32 + 1, 1<<32 + 12, math.MaxInt - 1, math.MaxInt}
}

// placesBeside are none of so many that count from 0.
func placesBeside(many int) []int {
	return []int{math.MinInt, math.MinInt + 1, -1 << 32, -many, -2, -1, many, many + 1, many + 40, 1 << 32, 1<<32 + 1, math.MaxInt - 1, math.MaxInt}
}

func wrongCosts() []int {
	return []int{math.MinInt, math.MinInt + 1, -1 << 32, -100, -1, 0, 101, 102, 255, 256, 1 << 32, 1<<32 + 1, math.MaxInt - 1, math.MaxInt}
}

// A graph may be wrong in its spots or in its edges.
type graph struct {
	spots int
	l     []impl.Edge
}

// graphsOf are all edges that there can be among the spots, each there or not,
// with a Cost by the number of the two in allTwos, or by these.
func graphsOf(spots int, cost func(int, [2]int) int) [][]impl.Edge {
	var all [][]impl.Edge
	twos := allTwos(spots)
	for picked := range 1 << len(twos) {
		var l []impl.Edge
		for k, two := range twos {
			if picked>>k&1 == 1 {
				l = append(l, edge(two[0], two[1], cost(k, two)))
			}
		}
		all = append(all, l)
	}
	return all
}

// smallGraphs have each edge among up to four spots, or not, with each Cost of 1 to 3.
func smallGraphs() []graph {
	var all []graph
	for spots := 1; spots <= 4; spots++ {
		twos := allTwos(spots)
		for picked := range 1 << (2 * len(twos)) {
			var l []impl.Edge
			for k, two := range twos {
				if cost := picked >> (2 * k) & 3; cost > 0 {
					l = append(l, edge(two[0], two[1], cost))
				}
			}
			all = append(all, graph{spots, l})
		}
	}
	return all
}

func edgesThatAreNone() []graph {
	all := []graph{
		{12, edgesFrom(12, 0, 41)}, {12, edgesFrom(12, 25, 41)}, {12, edgesFrom(12, 0, 66)}, {10, edgesFrom(10, 0, 41)},
		{4, edges(edge(1, 2, 5), edge(0, 1, 5))}, {4, edges(edge(0, 1, 5), edge(2, 3, 5), edge(1, 2, 5))},
		{4, edges(edge(0, 2, 5), edge(0, 1, 5))}, {4, edges(edge(0, 1, 5), edge(1, 3, 5), edge(1, 2, 5))}, {4, edges(edge(0, 3, 5), edge(0, 2, 5), edge(1, 2, 5))},
		{4, edges(edge(0, 1, 5), edge(0, 1, 5))}, {4, edges(edge(0, 1, 5), edge(0, 1, 6))}, {4, edges(edge(0, 1, 6), edge(0, 1, 5))},
		{4, edges(edge(0, 1, 5), edge(2, 3, 5), edge(2, 3, 5))}, {4, edges(edge(0, 1, 5), edge(2, 3, 5), edge(0, 1, 5))},
		{4, edges(edge(1, 3, 5), edge(0, 2, 5))}, {4, edges(edge(0, 3, 5), edge(1, 2, 5), edge(0, 2, 5))},
		{2, edges(edge(1, 0, 5))}, {4, edges(edge(0, 1, 5), edge(3, 2, 5))}, {4, edges(edge(1, 0, 5), edge(2, 3, 5))},
		{1, edges(edge(0, 1, 5))}, {1, edges(edge(0, 0, 5))}, {2, edges(edge(1, 1, 5))}, {12, append(edgesFrom(12, 0, 39), edge(0, 1, 1))},
		{3, ringEdges(4)}, {11, ringEdges(12)}, {3, edges(edge(0, 1, 5), edge(1, 3, 5))}, {12, edges(edge(0, 1, 5), edge(11, 12, 5))},
	}
	for _, wrong := range wrongEdges(4) {
		all = append(all, graph{4, edges(wrong)})
		for at := range 3 {
			three := edges(edge(0, 1, 5), edge(1, 2, 5), edge(2, 3, 5))
			three[at] = wrong
			all = append(all, graph{4, three})
		}
	}
	for _, spots := range wrongSpots() {
		all = append(all, graph{spots, nil}, graph{spots, edges(edge(0, 1, 5))}, graph{spots, ringEdges(12)}, graph{spots, edgesFrom(12, 0, 41)})
	}
	return all
}

// wrongEdges are each wrong by itself, most of them in one thing alone.
func wrongEdges(spots int) []impl.Edge {
	var l []impl.Edge
	for _, n := range placesBeside(spots) {
		l = append(l, edge(n, 1, 5), edge(n, spots-1, 5), edge(0, n, 5), edge(spots-1, n, 5), edge(n, n, 5), edge(n, n+1, 5))
	}
	for _, cost := range wrongCosts() {
		l = append(l, edge(0, 1, cost), edge(2, 3, cost))
	}
	for spot := range spots {
		l = append(l, edge(spot, spot, 5))
		for lesser := range spot {
			l = append(l, edge(spot, lesser, 5))
		}
	}
	return append(l, impl.Edge{}, edge(math.MinInt, math.MaxInt, 5), edge(math.MinInt, math.MaxInt, math.MinInt), edge(math.MaxInt, math.MinInt, math.MaxInt))
}

func mustGroups(t *testing.T, spots int, l []impl.Edge) []int {
	t.Helper()
	g, ok := impl.GroupsOf(spots, l)
	if !ok || len(g) != spots {
		t.Fatalf("GroupsOf(%d, %v) = %v, %v", spots, l, g, ok)
	}
	return g
}

func mustNear(t *testing.T, spots int, l []impl.Edge, at int) []int {
	t.Helper()
	g, ok := impl.NearOf(spots, l, at)
	if !ok {
		t.Fatalf("NearOf(%d, %v, %d) is refused", spots, l, at)
	}
	return g
}

func mustDegrees(t *testing.T, spots int, l []impl.Edge) []int {
	t.Helper()
	g, ok := impl.DegreesOf(spots, l)
	if !ok || len(g) != spots {
		t.Fatalf("DegreesOf(%d, %v) = %v, %v", spots, l, g, ok)
	}
	return g
}

func mustWithout(t *testing.T, spots int, l []impl.Edge, k int) []impl.Edge {
	t.Helper()
	g, ok := impl.WithoutEdge(spots, l, k)
	if !ok {
		t.Fatalf("WithoutEdge(%d, %v, %d) is refused", spots, l, k)
	}
	return g
}

func mustOne(t *testing.T, spots int, l []impl.Edge) bool {
	t.Helper()
	one, ok := impl.IsOneGroup(spots, l)
	if !ok {
		t.Fatalf("IsOneGroup(%d, %v) is refused", spots, l)
	}
	return one
}

func mustBoth(t *testing.T, spots int, l []impl.Told) []impl.Edge {
	t.Helper()
	g, ok := impl.BothWays(spots, l)
	if !ok {
		t.Fatalf("BothWays(%d, %v) is refused", spots, l)
	}
	return g
}

func wantEdges(t *testing.T, told string, g []impl.Edge, w []impl.Edge) {
	t.Helper()
	if !slices.Equal(g, w) {
		t.Fatalf("%s: %v, not %v", told, g, w)
	}
}

func cantNear(t *testing.T, spots int, l []impl.Edge, at int) {
	t.Helper()
	if g, ok := impl.NearOf(spots, l, at); ok || len(g) != 0 {
		t.Fatalf("NearOf(%d, %v, %d) = %v, %v", spots, l, at, g, ok)
	}
}

func cantWithout(t *testing.T, spots int, l []impl.Edge, k int) {
	t.Helper()
	if g, ok := impl.WithoutEdge(spots, l, k); ok || len(g) != 0 {
		t.Fatalf("WithoutEdge(%d, %v, %d) = %v, %v", spots, l, k, g, ok)
	}
}

func cantBoth(t *testing.T, spots int, l []impl.Told) {
	t.Helper()
	if g, ok := impl.BothWays(spots, l); ok || len(g) != 0 {
		t.Fatalf("BothWays(%d, %v) = %v, %v", spots, l, g, ok)
	}
}

// refusesEdges asks each function for edges, or spots, that are not as said.
func refusesEdges(t *testing.T, spots int, l []impl.Edge) {
	t.Helper()
	if impl.GoodEdges(spots, l) {
		t.Fatalf("good: %d, %v", spots, l)
	}
	if g, ok := impl.GroupsOf(spots, l); ok || len(g) != 0 {
		t.Fatalf("GroupsOf(%d, %v) = %v, %v", spots, l, g, ok)
	}
	if g, ok := impl.DegreesOf(spots, l); ok || len(g) != 0 {
		t.Fatalf("DegreesOf(%d, %v) = %v, %v", spots, l, g, ok)
	}
	if one, ok := impl.IsOneGroup(spots, l); ok || one {
		t.Fatalf("IsOneGroup(%d, %v) = %v, %v", spots, l, one, ok)
	}
	for _, n := range append(placesBeside(len(l)), 0, 1, 2, 3, 11, 12, spots-1, spots, len(l)-1) {
		cantNear(t, spots, l, n)
		cantWithout(t, spots, l, n)
	}
}

// Promise 8, of good edges.
func groupsAreAsSaid(t *testing.T, spots int, l []impl.Edge) {
	t.Helper()
	if !impl.GoodEdges(spots, l) {
		t.Fatalf("not good: %d, %v", spots, l)
	}
	groups := mustGroups(t, spots, l)
	wantNums(t, "the least spots that edges lead to", groups, groupsByWords(spots, l))
	for _, e := range l {
		if groups[e.A] != groups[e.B] {
			t.Fatalf("GroupsOf(%d, %v) = %v: the ends of %v are not in one", spots, l, groups, e)
		}
	}
	many := groupsIn(groups)
	if many != spots-joiningByWords(l) {
		t.Fatalf("GroupsOf(%d, %v) = %v: %d edges join two", spots, l, groups, joiningByWords(l))
	}
	if mustOne(t, spots, l) != (many == 1) {
		t.Fatalf("IsOneGroup(%d, %v): there are %d", spots, l, many)
	}
	for k := range l {
		rest := mustWithout(t, spots, l, k)
		wantEdges(t, "all but one", rest, slices.Delete(slices.Clone(l), k, k+1))
		if less := groupsIn(mustGroups(t, spots, rest)); less != many && less != many+1 {
			t.Fatalf("%d groups of %v, %d without %v", many, l, less, l[k])
		}
	}
}

// Promise 8, of who is near.
func nearAreAsSaid(t *testing.T, spots int, l []impl.Edge) {
	t.Helper()
	var all [][]int
	ends := 0
	degrees := mustDegrees(t, spots, l)
	for spot := range spots {
		near := mustNear(t, spots, l, spot)
		wantNums(t, "those near", near, nearByWords(l, spot))
		if degrees[spot] != len(near) {
			t.Fatalf("DegreesOf(%d, %v) = %v: near %d are %v", spots, l, degrees, spot, near)
		}
		all = append(all, near)
		ends += degrees[spot]
	}
	for a := range spots {
		for b := range spots {
			if slices.Contains(all[a], b) != slices.Contains(all[b], a) {
				t.Fatalf("of %v: near %d are %v, near %d are %v", l, a, all[a], b, all[b])
			}
		}
	}
	if ends != 2*len(l) {
		t.Fatalf("DegreesOf(%d, %v) = %v", spots, l, degrees)
	}
}

// Promise 8, of tellings.
func bothEndsTell(t *testing.T, spots int, l []impl.Told) []impl.Edge {
	t.Helper()
	both := mustBoth(t, spots, l)
	if !impl.GoodEdges(spots, both) || !goodEdgesByWords(spots, both) {
		t.Fatalf("BothWays(%d, %v) = %v, which are not good", spots, l, both)
	}
	wantEdges(t, "those of which both ends tell", both, bothByWords(l))
	var back []impl.Told
	for _, x := range l {
		back = append(back, tell(x.Near, x.By, x.Cost))
	}
	wantEdges(t, "the same told by the other ends", mustBoth(t, spots, back), both)
	return both
}

func TestGraphConstants(t *testing.T) {
	if impl.MaxSpots != 12 || impl.MaxCost != 100 {
		t.Error(impl.MaxSpots, impl.MaxCost)
	}
}

func TestGoodEdgesByHand(t *testing.T) {
	for _, g := range []graph{
		{1, nil}, {1, edges()}, {2, nil}, {12, nil}, {2, edges(edge(0, 1, 1))}, {2, edges(edge(0, 1, 100))}, {3, edges(edge(1, 2, 2))},
		{12, edges(edge(0, 11, 1))}, {12, edges(edge(10, 11, 99))}, {3, edges(edge(0, 1, 9), edge(0, 2, 1))}, {3, edges(edge(0, 2, 1), edge(1, 2, 9))},
		{4, edges(edge(0, 3, 5), edge(1, 2, 5))}, {3, ringEdges(3)}, {12, ringEdges(12)}, {4, edgesFrom(4, 0, 6)},
		{12, edgesFrom(12, 0, 39)}, {12, edgesFrom(12, 0, 40)}, {12, edgesFrom(12, 26, 40)}, {10, edgesFrom(10, 5, 40)},
	} {
		if !impl.GoodEdges(g.spots, g.l) {
			t.Errorf("not good: %d, %v", g.spots, g.l)
		}
		groupsAreAsSaid(t, g.spots, g.l)
		nearAreAsSaid(t, g.spots, g.l)
	}
}

func TestEdgesThatAreNone(t *testing.T) {
	for _, g := range edgesThatAreNone() {
		kept := slices.Clone(g.l)
		if goodEdgesByWords(g.spots, g.l) {
			t.Fatalf("these are good: %d, %v", g.spots, g.l)
		}
		refusesEdges(t, g.spots, g.l)
		wantEdges(t, "what was given", g.l, kept)
	}
}

// One edge with each end and each Cost about the edges, among spots likewise.
func TestGoodEdgesOfEachEdge(t *testing.T) {
	good := 0
	for _, spots := range append(wrongSpots(), 1, 2, 3, 11, 12) {
		at := []int{math.MinInt, -1, 0, 1, 2, 10, 11, 12, 13, spots - 2, spots - 1, spots, spots + 1, math.MaxInt}
		for _, a := range at {
			for _, b := range at {
				for _, cost := range []int{math.MinInt, -1, 0, 1, 2, 99, 100, 101, math.MaxInt} {
					l := edges(edge(a, b, cost))
					if g := impl.GoodEdges(spots, l); g != goodEdgesByWords(spots, l) {
						t.Fatalf("GoodEdges(%d, %v) = %v", spots, l, g)
					} else if g {
						good++
					}
				}
			}
		}
	}
	if good < 100 {
		t.Errorf("just %d are good", good)
	}
}

// Each three edges among three spots, in each order.
func TestGoodEdgesOfEachOrder(t *testing.T) {
	var all []impl.Edge
	for a := range 3 {
		for b := range 3 {
			all = append(all, edge(a, b, 1+a), edge(a, b, 9-b))
		}
	}
	for _, one := range all {
		for _, other := range all {
			for _, third := range all {
				for _, l := range [][]impl.Edge{edges(one), edges(one, other), edges(one, other, third)} {
					if g := impl.GoodEdges(3, l); g != goodEdgesByWords(3, l) {
						t.Fatalf("GoodEdges(3, %v) = %v", l, g)
					}
				}
			}
		}
	}
}

// damageEdges changes one thing, which may stay good.
func damageEdges(r *rand.Rand, spots int, l []impl.Edge) (int, []impl.Edge) {
	n := []int{math.MinInt, -1, 0, 1, 2, 5, 11, 12, 13, 99, 100, 101, math.MaxInt}[r.Intn(13)]
	k := r.Intn(len(l) + 1)
	switch {
	case r.Intn(6) == 0:
		return n, l
	case k == len(l):
		return spots, append(l, edge(r.Intn(12), n, 1))
	case r.Intn(4) == 0:
		return spots, slices.Insert(l, k, l[k])
	case r.Intn(4) == 0:
		l[k], l[0] = l[0], l[k]
	case r.Intn(3) == 0:
		l[k].A = n
	case r.Intn(2) == 0:
		l[k].B = n
	default:
		l[k].Cost = n
	}
	return spots, l
}

func TestGoodEdgesByWords(t *testing.T) {
	r := rand.New(rand.NewSource(801))
	good := 0
	for range 20000 {
		spots, l := damageEdges(r, 12, nil)
		if r.Intn(20) > 0 {
			spots, l = randomGraph(r)
			spots, l = damageEdges(r, spots, l)
		}
		kept := slices.Clone(l)
		if g, w := impl.GoodEdges(spots, l), goodEdgesByWords(spots, l); g != w {
			t.Fatalf("GoodEdges(%d, %v) = %v", spots, l, g)
		} else if g {
			good++
		} else {
			refusesEdges(t, spots, l)
		}
		wantEdges(t, "what was given", l, kept)
	}
	if good < 1000 || good > 19000 {
		t.Errorf("%d are good: too few of one sort", good)
	}
}

func TestBothWaysByHand(t *testing.T) {
	for _, c := range []struct {
		spots int
		l     []impl.Told
		want  []impl.Edge
	}{
		{1, nil, nil},
		{12, nil, nil},
		{2, tellings(tell(0, 1, 5)), nil},
		{2, tellings(tell(1, 0, 5)), nil},
		{2, tellings(tell(0, 1, 5), tell(0, 1, 5)), nil},
		{2, tellings(tell(0, 1, 5), tell(1, 0, 5)), edges(edge(0, 1, 5))},
		{2, tellings(tell(0, 1, 5), tell(1, 0, 3)), edges(edge(0, 1, 5))},
		{2, tellings(tell(0, 1, 3), tell(1, 0, 5)), edges(edge(0, 1, 5))},
		{2, tellings(tell(1, 0, 5), tell(0, 1, 3)), edges(edge(0, 1, 5))},
		{2, tellings(tell(1, 0, 3), tell(0, 1, 5)), edges(edge(0, 1, 5))},
		{2, tellings(tell(0, 1, 1), tell(1, 0, 1)), edges(edge(0, 1, 1))},
		{2, tellings(tell(0, 1, 1), tell(1, 0, 100)), edges(edge(0, 1, 100))},
		{2, tellings(tell(0, 1, 9), tell(1, 0, 3), tell(0, 1, 4)), edges(edge(0, 1, 4))},
		{2, tellings(tell(0, 1, 4), tell(1, 0, 3), tell(0, 1, 9)), edges(edge(0, 1, 9))},
		{2, tellings(tell(0, 1, 9), tell(1, 0, 3), tell(0, 1, 2)), edges(edge(0, 1, 3))},
		{2, tellings(tell(0, 1, 3), tell(1, 0, 9), tell(1, 0, 2)), edges(edge(0, 1, 3))},
		{2, tellings(tell(0, 1, 9), tell(0, 1, 1), tell(0, 1, 4), tell(1, 0, 2)), edges(edge(0, 1, 4))},
		{2, tellings(tell(0, 1, 1), tell(0, 1, 4), tell(0, 1, 9), tell(1, 0, 2)), edges(edge(0, 1, 9))},
		{2, tellings(tell(1, 0, 2), tell(0, 1, 9), tell(0, 1, 8), tell(0, 1, 1)), edges(edge(0, 1, 2))},
		{2, tellings(tell(1, 0, 9), tell(1, 0, 8), tell(0, 1, 1), tell(1, 0, 7)), edges(edge(0, 1, 7))},
		{3, tellings(tell(0, 1, 5), tell(1, 2, 5), tell(2, 0, 5)), nil},
		{3, tellings(tell(2, 1, 7), tell(0, 1, 5), tell(1, 0, 6), tell(1, 2, 2), tell(0, 2, 1)), edges(edge(0, 1, 6), edge(1, 2, 7))},
		{12, tellings(tell(11, 10, 7), tell(0, 11, 1), tell(10, 11, 8), tell(11, 0, 1)), edges(edge(0, 11, 1), edge(10, 11, 8))},
		{12, tellings(tell(3, 2, 1), tell(2, 1, 1), tell(1, 2, 1), tell(2, 3, 1), tell(1, 0, 1), tell(0, 1, 1)), edges(edge(0, 1, 1), edge(1, 2, 1), edge(2, 3, 1))},
	} {
		wantEdges(t, "BothWays", bothEndsTell(t, c.spots, c.l), c.want)
	}
}

// Each list of up to four tellings with Costs of 1 and 2 among three spots.
func TestBothWaysOfSmallLists(t *testing.T) {
	var all []impl.Told
	for _, two := range allTwos(3) {
		for cost := 1; cost <= 2; cost++ {
			all = append(all, tell(two[0], two[1], cost), tell(two[1], two[0], cost))
		}
	}
	lists := [][]impl.Told{nil}
	for ahead := 0; len(lists[ahead]) < 4; ahead++ {
		for _, x := range all {
			lists = append(lists, append(slices.Clone(lists[ahead]), x))
		}
	}
	if len(lists) != 1+12+144+1728+20736 {
		t.Fatalf("%d lists", len(lists))
	}
	for _, l := range lists {
		bothEndsTell(t, 3, l)
	}
}

func TestBothWaysByWords(t *testing.T) {
	r := rand.New(rand.NewSource(802))
	found := 0
	for range 10000 {
		spots, l := randomTellings(r)
		both := bothEndsTell(t, spots, l)
		found += len(both)
		groupsAreAsSaid(t, spots, both)
	}
	if found < 10000 {
		t.Errorf("just %d edges", found)
	}
}

// 80 tellings of which each edge takes two come to 40 edges, and never to more.
func TestBothWaysUpTo40Edges(t *testing.T) {
	r := rand.New(rand.NewSource(803))
	for many := range 41 {
		var l []impl.Told
		var want []impl.Edge
		for _, e := range edgesFrom(12, many%27, many) {
			l = append(l, tell(e.A, e.B, e.Cost), tell(e.B, e.A, 1+r.Intn(e.Cost)))
			want = append(want, e)
		}
		r.Shuffle(len(l), func(k int, m int) { l[k], l[m] = l[m], l[k] })
		both := bothEndsTell(t, 12, l)
		wantEdges(t, "BothWays", both, want)
		groupsAreAsSaid(t, 12, both)
		nearAreAsSaid(t, 12, both)
	}
}

func TestBothWaysOf80Tellings(t *testing.T) {
	alike := slices.Repeat(tellings(tell(0, 1, 5)), 79)
	wantEdges(t, "of 79 and one", bothEndsTell(t, 2, append(slices.Clone(alike), tell(1, 0, 3))), edges(edge(0, 1, 5)))
	wantEdges(t, "of one and 79", bothEndsTell(t, 2, append(tellings(tell(1, 0, 7)), alike...)), edges(edge(0, 1, 7)))
	wantEdges(t, "of 79", bothEndsTell(t, 2, alike), nil)
	cantBoth(t, 2, append(slices.Clone(alike), tell(1, 0, 3), tell(1, 0, 3)))
	cantBoth(t, 2, slices.Repeat(tellings(tell(0, 1, 5)), 81))
	cantBoth(t, 12, slices.Repeat(tellings(tell(0, 1, 5), tell(1, 0, 5)), 41))
	cantBoth(t, 12, slices.Repeat(tellings(tell(0, 1, 5)), 1000))
	var all []impl.Told
	for _, two := range allTwos(12) {
		all = append(all, tell(two[0], two[1], 5), tell(two[1], two[0], 6))
	}
	for many := range all {
		l := all[:many+1]
		if len(l) > 80 {
			cantBoth(t, 12, l)
		} else if both := bothEndsTell(t, 12, l); len(both) != len(l)/2 {
			t.Fatalf("%d tellings come to %v", len(l), both)
		}
	}
}

func wrongTellings(spots int) []impl.Told {
	var l []impl.Told
	for _, n := range placesBeside(spots) {
		l = append(l, tell(n, 0, 5), tell(0, n, 5), tell(n, spots-1, 5), tell(spots-1, n, 5), tell(n, n, 5), tell(n, n+1, 5), tell(n+1, n, 5))
	}
	for _, cost := range wrongCosts() {
		l = append(l, tell(0, 1, cost), tell(1, 0, cost))
	}
	for spot := range spots {
		l = append(l, tell(spot, spot, 5))
	}
	return append(l, impl.Told{}, tell(math.MinInt, math.MaxInt, 5), tell(math.MaxInt, math.MinInt, math.MaxInt), tell(math.MinInt, math.MinInt, math.MinInt))
}

func TestTellingsThatAreNone(t *testing.T) {
	for _, spots := range []int{2, 3, 11, 12} {
		for _, wrong := range wrongTellings(spots) {
			cantBoth(t, spots, tellings(wrong))
			for at := range 4 {
				// Also where a right one of the same two comes behind.
				l := tellings(tell(0, 1, 5), tell(1, 0, 5), tell(0, 1, 6), tell(1, 0, 6))
				l[at] = wrong
				kept := slices.Clone(l)
				cantBoth(t, spots, l)
				if !slices.Equal(l, kept) {
					t.Fatalf("%v was written into: %v", kept, l)
				}
			}
			cantBoth(t, spots, append(slices.Repeat(tellings(tell(0, 1, 5)), 79), wrong))
		}
	}
	for _, spots := range wrongSpots() {
		for _, l := range [][]impl.Told{nil, {}, tellings(tell(0, 1, 5)), tellings(tell(0, 1, 5), tell(1, 0, 5)), tellings(tell(11, 0, 5), tell(0, 11, 5))} {
			cantBoth(t, spots, l)
		}
	}
	cantBoth(t, 1, tellings(tell(0, 1, 5), tell(1, 0, 5)))
	cantBoth(t, 1, tellings(tell(0, 0, 5)))
	cantBoth(t, 11, tellings(tell(11, 0, 5), tell(0, 11, 5)))
}

// One telling with each end and each Cost about the edges, among spots likewise.
func TestBothWaysOfEachTelling(t *testing.T) {
	good := 0
	for _, spots := range append(wrongSpots(), 1, 2, 3, 11, 12) {
		at := []int{math.MinInt, -1, 0, 1, 2, 10, 11, 12, 13, spots - 2, spots - 1, spots, spots + 1, math.MaxInt}
		for _, by := range at {
			for _, near := range at {
				for _, cost := range []int{math.MinInt, -1, 0, 1, 2, 99, 100, 101, math.MaxInt} {
					for _, l := range [][]impl.Told{tellings(tell(by, near, cost)), tellings(tell(by, near, cost), tell(near, by, cost))} {
						if !goodTellingsByWords(spots, l) {
							cantBoth(t, spots, l)
						} else if both := bothEndsTell(t, spots, l); len(both) != len(l)-1 {
							t.Fatalf("BothWays(%d, %v) = %v", spots, l, both)
						} else {
							good++
						}
					}
				}
			}
		}
	}
	if good < 100 {
		t.Errorf("just %d are as said", good)
	}
}

func TestGroupsOfByHand(t *testing.T) {
	for _, c := range []struct {
		spots int
		l     []impl.Edge
		want  []int
	}{
		{1, nil, []int{0}},
		{2, nil, []int{0, 1}},
		{2, edges(edge(0, 1, 5)), []int{0, 0}},
		{12, nil, []int{0, 1, 2, 3, 4, 5, 6, 7, 8, 9, 10, 11}},
		{12, ringEdges(12), []int{0, 0, 0, 0, 0, 0, 0, 0, 0, 0, 0, 0}},
		{5, ringEdges(4), []int{0, 0, 0, 0, 4}},
		{4, edges(edge(0, 1, 2), edge(1, 2, 3)), []int{0, 0, 0, 3}},
		{4, edges(edge(0, 1, 2), edge(2, 3, 3)), []int{0, 0, 2, 2}},
		{4, edges(edge(0, 3, 2), edge(1, 2, 3)), []int{0, 1, 1, 0}},
		// A late edge joins two groups.
		{6, edges(edge(0, 4, 1), edge(1, 5, 1), edge(2, 3, 1), edge(4, 5, 1)), []int{0, 0, 2, 2, 0, 0}},
		{6, edges(edge(0, 5, 1), edge(1, 4, 1), edge(2, 3, 1), edge(3, 4, 1), edge(4, 5, 1)), []int{0, 0, 0, 0, 0, 0}},
		{6, edges(edge(1, 2, 1), edge(3, 5, 1), edge(4, 5, 1)), []int{0, 1, 1, 3, 3, 3}},
		{6, edges(edge(0, 2, 1), edge(1, 3, 1), edge(3, 4, 1)), []int{0, 1, 0, 1, 1, 5}},
		// An edge whose ends are in one group already.
		{4, edges(edge(0, 1, 1), edge(0, 2, 1), edge(1, 2, 1)), []int{0, 0, 0, 3}},
		{5, edges(edge(1, 2, 1), edge(1, 3, 1), edge(2, 3, 1), edge(3, 4, 1)), []int{0, 1, 1, 1, 1}},
		{12, edges(edge(10, 11, 1)), []int{0, 1, 2, 3, 4, 5, 6, 7, 8, 9, 10, 10}},
		{12, edges(edge(0, 11, 1)), []int{0, 1, 2, 3, 4, 5, 6, 7, 8, 9, 10, 0}},
		{10, edgesFrom(10, 5, 40), []int{0, 0, 0, 0, 0, 0, 0, 0, 0, 0}},
	} {
		wantNums(t, "GroupsOf", mustGroups(t, c.spots, c.l), c.want)
		groupsAreAsSaid(t, c.spots, c.l)
	}
}

func TestIsOneGroupByHand(t *testing.T) {
	for _, g := range []graph{
		{1, nil}, {2, edges(edge(0, 1, 5))}, {3, edges(edge(0, 2, 5), edge(1, 2, 5))}, {12, ringEdges(12)}, {12, ringEdges(12)[1:]},
		{6, edges(edge(0, 5, 1), edge(1, 4, 1), edge(2, 3, 1), edge(3, 4, 1), edge(4, 5, 1))},
	} {
		if !mustOne(t, g.spots, g.l) {
			t.Errorf("IsOneGroup(%d, %v) = false", g.spots, g.l)
		}
	}
	for _, g := range []graph{
		{2, nil}, {12, nil}, {3, edges(edge(0, 1, 5))}, {3, edges(edge(0, 2, 5))}, {3, edges(edge(1, 2, 5))}, {12, ringEdges(11)}, {12, ringEdges(12)[2:]},
		{4, edges(edge(0, 1, 5), edge(2, 3, 5))}, {4, edges(edge(0, 3, 5), edge(1, 2, 5))}, {12, edgesFrom(9, 0, 36)},
	} {
		if mustOne(t, g.spots, g.l) {
			t.Errorf("IsOneGroup(%d, %v) = true", g.spots, g.l)
		}
	}
}

func TestNearOfByHand(t *testing.T) {
	l := edges(edge(0, 4, 9), edge(1, 3, 1), edge(1, 4, 2), edge(2, 4, 3), edge(4, 5, 4), edge(4, 11, 100))
	for at, want := range [][]int{{4}, {3, 4}, {4}, {1}, {0, 1, 2, 5, 11}, {4}, nil, nil, nil, nil, nil, {4}} {
		wantNums(t, "NearOf", mustNear(t, 12, l, at), want)
	}
	wantNums(t, "DegreesOf", mustDegrees(t, 12, l), []int{1, 2, 1, 1, 5, 1, 0, 0, 0, 0, 0, 1})
	wantNums(t, "NearOf a spot alone", mustNear(t, 1, nil, 0), nil)
	wantNums(t, "DegreesOf a spot alone", mustDegrees(t, 1, nil), []int{0})
	wantNums(t, "NearOf the first one of a ring", mustNear(t, 12, ringEdges(12), 0), []int{1, 11})
	wantNums(t, "NearOf the last one of a ring", mustNear(t, 12, ringEdges(12), 11), []int{0, 10})
	wantNums(t, "DegreesOf a ring", mustDegrees(t, 12, ringEdges(12)), slices.Repeat([]int{2}, 12))
	wantNums(t, "NearOf of all", mustNear(t, 9, edgesFrom(9, 0, 36), 4), []int{0, 1, 2, 3, 5, 6, 7, 8})
}

func TestSpotsThatAreNone(t *testing.T) {
	for spots := 1; spots <= 12; spots++ {
		for _, l := range [][]impl.Edge{nil, edgesFrom(spots, 0, min(40, len(allTwos(spots))))} {
			for _, at := range placesBeside(spots) {
				cantNear(t, spots, l, at)
			}
			mustNear(t, spots, l, 0)
			mustNear(t, spots, l, spots-1)
		}
	}
}

func TestWithoutEdgeByHand(t *testing.T) {
	l := edges(edge(0, 1, 9), edge(0, 2, 8), edge(1, 2, 7), edge(2, 3, 6))
	wantEdges(t, "without the first", mustWithout(t, 4, l, 0), edges(edge(0, 2, 8), edge(1, 2, 7), edge(2, 3, 6)))
	wantEdges(t, "without the next", mustWithout(t, 4, l, 1), edges(edge(0, 1, 9), edge(1, 2, 7), edge(2, 3, 6)))
	wantEdges(t, "without the last", mustWithout(t, 4, l, 3), edges(edge(0, 1, 9), edge(0, 2, 8), edge(1, 2, 7)))
	wantEdges(t, "without the only one", mustWithout(t, 4, l[2:3], 0), nil)
	wantEdges(t, "what was given", l, edges(edge(0, 1, 9), edge(0, 2, 8), edge(1, 2, 7), edge(2, 3, 6)))
}

func TestEdgeNumbersThatAreNone(t *testing.T) {
	for many := range 41 {
		l := edgesFrom(12, 0, many)
		for _, k := range placesBeside(many) {
			cantWithout(t, 12, l, k)
		}
		if many > 0 {
			mustWithout(t, 12, l, 0)
			mustWithout(t, 12, l, many-1)
		}
	}
	for _, l := range [][]impl.Edge{nil, {}} {
		for _, k := range []int{math.MinInt, -1, 0, 1, math.MaxInt} {
			cantWithout(t, 12, l, k)
			cantWithout(t, 1, l, k)
		}
	}
}

func TestGroupsOfAllSmallGraphs(t *testing.T) {
	graphs := 0
	for spots := 1; spots <= 5; spots++ {
		for _, l := range graphsOf(spots, func(k int, _ [2]int) int { return 1 + k }) {
			groupsAreAsSaid(t, spots, l)
			nearAreAsSaid(t, spots, l)
			graphs++
		}
	}
	if graphs != 1+2+8+64+1024 {
		t.Errorf("%d graphs", graphs)
	}
}

func TestGroupsOfByWords(t *testing.T) {
	r := rand.New(rand.NewSource(804))
	one := 0
	for range 4000 {
		spots, l := randomGraph(r)
		groupsAreAsSaid(t, spots, l)
		nearAreAsSaid(t, spots, l)
		if mustOne(t, spots, l) {
			one++
		}
	}
	if one < 400 || one > 3600 {
		t.Errorf("%d are one group: too few of one sort", one)
	}
}

// A forest has an edge less than its spots for each group; all edges join then,
// and without each one there is a group more.
func TestGroupsOfForests(t *testing.T) {
	r := rand.New(rand.NewSource(805))
	for range 1000 {
		spots := 1 + r.Intn(12)
		var l []impl.Edge
		for b := 1; b < spots; b++ {
			if r.Intn(4) > 0 {
				l = append(l, edge(r.Intn(b), b, 1))
			}
		}
		slices.SortFunc(l, func(x impl.Edge, y impl.Edge) int { return cmp.Or(x.A-y.A, x.B-y.B) })
		groupsAreAsSaid(t, spots, l)
		many := groupsIn(mustGroups(t, spots, l))
		if many != spots-len(l) {
			t.Fatalf("%d groups of %v", many, l)
		}
		for k := range l {
			if less := groupsIn(mustGroups(t, spots, mustWithout(t, spots, l, k))); less != many+1 {
				t.Fatalf("%d groups of %v, %d without %v", many, l, less, l[k])
			}
		}
	}
}

// No Cost changes who is near or in a group.
func TestCostsDoNotJoin(t *testing.T) {
	r := rand.New(rand.NewSource(806))
	for range 500 {
		spots, l := randomGraph(r)
		other := slices.Clone(l)
		for k := range other {
			other[k].Cost = 1 + r.Intn(100)
		}
		wantNums(t, "GroupsOf", mustGroups(t, spots, other), mustGroups(t, spots, l))
		wantNums(t, "DegreesOf", mustDegrees(t, spots, other), mustDegrees(t, spots, l))
		for spot := range spots {
			wantNums(t, "NearOf", mustNear(t, spots, other, spot), mustNear(t, spots, l, spot))
		}
	}
}

// edgesBehind lays edges ahead of more, which are no part of them: they would
// join all spots if they were read.
func edgesBehind(l []impl.Edge) []impl.Edge {
	memory := append(slices.Clone(l), ringEdges(12)...)
	return memory[:len(l):len(memory)]
}

func areEdgesUntouched(l []impl.Edge) bool {
	return slices.Equal(l[len(l):len(l)+12], ringEdges(12))
}

func scribbleEdges(l []impl.Edge) {
	l = l[:cap(l)]
	for k := range l {
		l[k] = edge(-5, -5, -5)
	}
}

func tellingsBehind(l []impl.Told) []impl.Told {
	memory := append(slices.Clone(l), ringTellings()...)
	return memory[:len(l):len(memory)]
}

func ringTellings() []impl.Told {
	var l []impl.Told
	for _, e := range ringEdges(12) {
		l = append(l, tell(e.A, e.B, 100), tell(e.B, e.A, 100))
	}
	return l
}

func TestGraphAnswersAreNewMemory(t *testing.T) {
	r := rand.New(rand.NewSource(807))
	for range 1000 {
		spots, made := randomGraph(r)
		l := edgesBehind(made)
		for range 2 {
			if !impl.GoodEdges(spots, l) {
				t.Fatalf("not good: %d, %v", spots, l)
			}
			mustOne(t, spots, l)
			groupsAreAsSaid(t, spots, l)
			nearAreAsSaid(t, spots, l)
			scribbleNums(mustGroups(t, spots, l))
			scribbleNums(mustDegrees(t, spots, l))
			for spot := range spots {
				scribbleNums(mustNear(t, spots, l, spot))
			}
			for k := range l {
				scribbleEdges(mustWithout(t, spots, l, k))
			}
		}
		wantEdges(t, "what was given", l, made)
		if !areEdgesUntouched(l) {
			t.Fatalf("behind %v something changed", l)
		}
	}
}

func TestBothWaysAnswersAreNewMemory(t *testing.T) {
	r := rand.New(rand.NewSource(808))
	for range 1000 {
		spots, made := randomTellings(r)
		l := tellingsBehind(made)
		for range 2 {
			scribbleEdges(bothEndsTell(t, spots, l))
		}
		if !slices.Equal(l, made) || !slices.Equal(l[len(l):len(l)+24], ringTellings()) {
			t.Fatalf("in or behind %v something changed", made)
		}
	}
}

func TestRefusedEdgesAreNotWrittenInto(t *testing.T) {
	for _, g := range edgesThatAreNone() {
		l := edgesBehind(g.l)
		refusesEdges(t, g.spots, l)
		wantEdges(t, "what was given", l, g.l)
		if !areEdgesUntouched(l) {
			t.Fatalf("behind %v something changed", l)
		}
	}
	l := edgesBehind(edgesFrom(12, 0, 40))
	for _, n := range placesBeside(40) {
		cantNear(t, 12, l, n)
		cantWithout(t, 12, l, n)
	}
	wantEdges(t, "what was given", l, edgesFrom(12, 0, 40))
	for _, wrong := range wrongTellings(4) {
		made := tellings(tell(0, 1, 5), wrong, tell(1, 0, 5))
		l := tellingsBehind(made)
		cantBoth(t, 4, l)
		if !slices.Equal(l, made) || !slices.Equal(l[3:27], ringTellings()) {
			t.Fatalf("in or behind %v something changed", made)
		}
	}
}

func TestEmptyAndNilListsOfEdges(t *testing.T) {
	two := ringEdges(3)
	for spots := 1; spots <= 12; spots++ {
		for _, none := range [][]impl.Edge{nil, {}, two[:0], two[3:]} {
			groupsAreAsSaid(t, spots, none)
			nearAreAsSaid(t, spots, none)
			wantNums(t, "GroupsOf", mustGroups(t, spots, none), risingFrom(0, spots))
			wantNums(t, "DegreesOf", mustDegrees(t, spots, none), make([]int, spots))
			if mustOne(t, spots, none) != (spots == 1) {
				t.Errorf("IsOneGroup(%d, none)", spots)
			}
		}
		for _, none := range [][]impl.Told{nil, {}, tellings(tell(0, 1, 5))[:0]} {
			wantEdges(t, "BothWays", bothEndsTell(t, spots, none), nil)
		}
	}
	wantEdges(t, "what was given", two, ringEdges(3))
}
