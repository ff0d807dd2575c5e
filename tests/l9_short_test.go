package tests

import (
	"cmp"
	"math"
	"math/rand"
	"slices"
	"testing"

	"loop.example/g00575/impl"
)

const farByWords = 100000

// costsByWords has for each two spots the Cost of the edge between them, 0 for none.
func costsByWords(l []impl.Edge) [12][12]int {
	var costs [12][12]int
	for _, e := range l {
		costs[e.A][e.B], costs[e.B][e.A] = e.Cost, e.Cost
	}
	return costs
}

// farsByWords lets each spot in turn be passed on the way between each two (Floyd).
func farsByWords(spots int, l []impl.Edge) [][]int {
	costs := costsByWords(l)
	far := make([][]int, spots)
	for a := range far {
		far[a] = slices.Repeat([]int{farByWords}, spots)
		for b := range spots {
			if costs[a][b] > 0 {
				far[a][b] = costs[a][b]
			}
		}
		far[a][a] = 0
	}
	for by := range spots {
		for a := range spots {
			for b := range spots {
				far[a][b] = min(far[a][b], far[a][by]+far[by][b])
			}
		}
	}
	return far
}

// waysByWords are all ways from one spot on that come to none twice, those to
// lesser spots ahead. That is many: it is for few spots.
func waysByWords(spots int, l []impl.Edge, from int) [][]int {
	costs := costsByWords(l)
	var all [][]int
	var goOn func(way []int)
	goOn = func(way []int) {
		all = append(all, way)
		for next := range spots {
			if costs[way[len(way)-1]][next] > 0 && !slices.Contains(way, next) {
				goOn(append(slices.Clone(way), next))
			}
		}
	}
	goOn([]int{from})
	return all
}

func costByWords(spots int, l []impl.Edge, way []int) (int, bool) {
	costs, all := costsByWords(l), 0
	for k, spot := range way {
		if spot < 0 || spots <= spot || k > 0 && costs[way[k-1]][spot] == 0 {
			return 0, false
		}
		if k > 0 {
			all += costs[way[k-1]][spot]
		}
	}
	return all, 1 <= len(way) && len(way) <= 12
}

func relaxByWords(spots int, l []impl.Edge, far []int) []int {
	costs := costsByWords(l)
	var relaxed []int
	for a := range spots {
		least := far[a]
		for b := range spots {
			if costs[a][b] > 0 && far[b]+costs[a][b] < least {
				least = far[b] + costs[a][b]
			}
		}
		relaxed = append(relaxed, least)
	}
	return relaxed
}

// hopsByWords are the neighbours from which it is as far to the end as it is
// from the first spot less the Cost of the edge to them.
func hopsByWords(spots int, l []impl.Edge, from int, to int) []int {
	far, costs := farsByWords(spots, l), costsByWords(l)
	var hops []int
	for near := range spots {
		if costs[from][near] > 0 && far[near][to] == far[from][to]-costs[from][near] {
			hops = append(hops, near)
		}
	}
	return hops
}

func wayByWords(spots int, l []impl.Edge, from int, to int) []int {
	way := []int{from}
	for way[len(way)-1] != to {
		way = append(way, hopsByWords(spots, l, way[len(way)-1], to)[0])
	}
	return way
}

func centreByWords(spots int, l []impl.Edge) (int, int) {
	centre, least := -1, math.MaxInt
	for spot, far := range farsByWords(spots, l) {
		if slices.Max(far) < least {
			centre, least = spot, slices.Max(far)
		}
	}
	return centre, least
}

// chainEdges joins the spots one behind the other, in the order of the list.
func chainEdges(cost int, spots ...int) []impl.Edge {
	var l []impl.Edge
	for k := 1; k < len(spots); k++ {
		l = append(l, edge(min(spots[k-1], spots[k]), max(spots[k-1], spots[k]), cost))
	}
	return inOrder(l)
}

func inOrder(l []impl.Edge) []impl.Edge {
	slices.SortFunc(l, func(x impl.Edge, y impl.Edge) int { return cmp.Or(cmp.Compare(x.A, y.A), cmp.Compare(x.B, y.B)) })
	return l
}

// renamed calls each spot by its number in names.
func renamed(l []impl.Edge, names []int) []impl.Edge {
	var own []impl.Edge
	for _, e := range l {
		a, b := names[e.A], names[e.B]
		own = append(own, edge(min(a, b), max(a, b), e.Cost))
	}
	return inOrder(own)
}

// halves has two groups of which neither leads to the other one, and a spot alone.
func halves() []impl.Edge {
	return edges(edge(0, 1, 2), edge(1, 2, 3), edge(3, 4, 4))
}

// diamond has three ways of the same cost from 0 to 5: by 1, by 2 and by 3.
func diamond() []impl.Edge {
	return edges(edge(0, 1, 2), edge(0, 2, 1), edge(0, 3, 3), edge(1, 4, 2), edge(2, 4, 3), edge(3, 5, 2), edge(4, 5, 1))
}

func mustFars(t *testing.T, spots int, l []impl.Edge, from int) []int {
	t.Helper()
	far, ok := impl.FarsFrom(spots, l, from)
	if !ok || len(far) != spots {
		t.Fatalf("FarsFrom(%d, %v, %d) = %v, %v", spots, l, from, far, ok)
	}
	return far
}

func mustRelax(t *testing.T, spots int, l []impl.Edge, far []int) []int {
	t.Helper()
	relaxed, ok := impl.RelaxAll(spots, l, far)
	if !ok || len(relaxed) != spots {
		t.Fatalf("RelaxAll(%d, %v, %v) = %v, %v", spots, l, far, relaxed, ok)
	}
	return relaxed
}

func mustHops(t *testing.T, spots int, l []impl.Edge, from int, to int) []int {
	t.Helper()
	hops, ok := impl.FirstHops(spots, l, from, to)
	if !ok {
		t.Fatalf("FirstHops(%d, %v, %d, %d) is refused", spots, l, from, to)
	}
	return hops
}

func mustWay(t *testing.T, spots int, l []impl.Edge, from int, to int) ([]int, int) {
	t.Helper()
	way, cost, ok := impl.WayTo(spots, l, from, to)
	if !ok || len(way) == 0 {
		t.Fatalf("WayTo(%d, %v, %d, %d) = %v, %d, %v", spots, l, from, to, way, cost, ok)
	}
	return way, cost
}

func mustCost(t *testing.T, spots int, l []impl.Edge, way []int) int {
	t.Helper()
	cost, ok := impl.CostOf(spots, l, way)
	if !ok {
		t.Fatalf("CostOf(%d, %v, %v) is refused", spots, l, way)
	}
	return cost
}

func mustHop(t *testing.T, spots int, l []impl.Edge, from int, to int, flow int) int {
	t.Helper()
	hop, ok := impl.HopFor(spots, l, from, to, flow)
	if !ok {
		t.Fatalf("HopFor(%d, %v, %d, %d, %d) is refused", spots, l, from, to, flow)
	}
	return hop
}

func mustCentre(t *testing.T, spots int, l []impl.Edge) (int, int) {
	t.Helper()
	centre, most, ok := impl.CentreOf(spots, l)
	if !ok {
		t.Fatalf("CentreOf(%d, %v) is refused", spots, l)
	}
	return centre, most
}

func cantFars(t *testing.T, spots int, l []impl.Edge, from int) {
	t.Helper()
	if far, ok := impl.FarsFrom(spots, l, from); ok || len(far) != 0 {
		t.Fatalf("FarsFrom(%d, %v, %d) = %v, %v", spots, l, from, far, ok)
	}
}

func cantRelax(t *testing.T, spots int, l []impl.Edge, far []int) {
	t.Helper()
	if relaxed, ok := impl.RelaxAll(spots, l, far); ok || len(relaxed) != 0 {
		t.Fatalf("RelaxAll(%d, %v, %v) = %v, %v", spots, l, far, relaxed, ok)
	}
}

func cantHops(t *testing.T, spots int, l []impl.Edge, from int, to int) {
	t.Helper()
	if hops, ok := impl.FirstHops(spots, l, from, to); ok || len(hops) != 0 {
		t.Fatalf("FirstHops(%d, %v, %d, %d) = %v, %v", spots, l, from, to, hops, ok)
	}
}

func cantWay(t *testing.T, spots int, l []impl.Edge, from int, to int) {
	t.Helper()
	if way, cost, ok := impl.WayTo(spots, l, from, to); ok || len(way) != 0 || cost != 0 {
		t.Fatalf("WayTo(%d, %v, %d, %d) = %v, %d, %v", spots, l, from, to, way, cost, ok)
	}
}

func cantCost(t *testing.T, spots int, l []impl.Edge, way []int) {
	t.Helper()
	if cost, ok := impl.CostOf(spots, l, way); ok || cost != 0 {
		t.Fatalf("CostOf(%d, %v, %v) = %d, %v", spots, l, way, cost, ok)
	}
}

func cantHop(t *testing.T, spots int, l []impl.Edge, from int, to int, flow int) {
	t.Helper()
	if hop, ok := impl.HopFor(spots, l, from, to, flow); ok || hop != 0 {
		t.Fatalf("HopFor(%d, %v, %d, %d, %d) = %d, %v", spots, l, from, to, flow, hop, ok)
	}
}

func cantCentre(t *testing.T, spots int, l []impl.Edge) {
	t.Helper()
	if centre, most, ok := impl.CentreOf(spots, l); ok || centre != 0 || most != 0 {
		t.Fatalf("CentreOf(%d, %v) = %d, %d, %v", spots, l, centre, most, ok)
	}
}

// cantGo asks all that goes from one spot to another one.
func cantGo(t *testing.T, spots int, l []impl.Edge, from int, to int) {
	t.Helper()
	cantHops(t, spots, l, from, to)
	cantWay(t, spots, l, from, to)
	for _, flow := range []int{math.MinInt, -1, 0, 1, 1000, math.MaxInt} {
		cantHop(t, spots, l, from, to, flow)
	}
}

// Promise 9, of how far spots are.
func farsAreAsSaid(t *testing.T, spots int, l []impl.Edge) {
	t.Helper()
	groups := mustGroups(t, spots, l)
	all := farsByWords(spots, l)
	for from := range spots {
		far := mustFars(t, spots, l, from)
		wantNums(t, "how far they are", far, all[from])
		wantNums(t, "how far they are, relaxed", mustRelax(t, spots, l, far), far)
		if far[from] != 0 {
			t.Fatalf("FarsFrom(%d, %v, %d) = %v", spots, l, from, far)
		}
		for to := range spots {
			if (far[to] == impl.Far) != (groups[from] != groups[to]) {
				t.Fatalf("FarsFrom(%d, %v, %d) = %v: the groups are %v", spots, l, from, far, groups)
			}
			if back := mustFars(t, spots, l, to)[from]; back != far[to] {
				t.Fatalf("of %v: it is %d from %d to %d, %d back", l, far[to], from, to, back)
			}
		}
	}
}

// Promise 9, of hops and ways between each two spots.
func waysAreAsSaid(t *testing.T, spots int, l []impl.Edge) {
	t.Helper()
	for from := range spots {
		far := mustFars(t, spots, l, from)
		for to := range spots {
			switch {
			case from == to:
				staysThere(t, spots, l, from)
			case far[to] == impl.Far:
				leadsNowhere(t, spots, l, from, to)
			default:
				goesAsSaid(t, spots, l, from, to, far[to])
			}
		}
	}
}

func staysThere(t *testing.T, spots int, l []impl.Edge, at int) {
	t.Helper()
	way, cost := mustWay(t, spots, l, at, at)
	wantNums(t, "the way of a spot to itself", way, []int{at})
	if cost != 0 {
		t.Fatalf("the way of a spot to itself costs %d", cost)
	}
	cantHops(t, spots, l, at, at)
	cantHop(t, spots, l, at, at, 0)
}

func leadsNowhere(t *testing.T, spots int, l []impl.Edge, from int, to int) {
	t.Helper()
	wantNums(t, "the hops where no way leads", mustHops(t, spots, l, from, to), nil)
	cantWay(t, spots, l, from, to)
	cantHop(t, spots, l, from, to, 0)
	cantHop(t, spots, l, from, to, 7)
}

func goesAsSaid(t *testing.T, spots int, l []impl.Edge, from int, to int, far int) {
	t.Helper()
	hops := mustHops(t, spots, l, from, to)
	wantNums(t, "the first hops", hops, hopsByWords(spots, l, from, to))
	for flow := range 2*len(hops) + 1 {
		if hop := mustHop(t, spots, l, from, to, flow); hop != hops[flow%len(hops)] {
			t.Fatalf("HopFor(%d, %v, %d, %d, %d) = %d of %v", spots, l, from, to, flow, hop, hops)
		}
	}
	way, cost := mustWay(t, spots, l, from, to)
	if way[0] != from || way[len(way)-1] != to || cost != far || mustCost(t, spots, l, way) != far {
		t.Fatalf("WayTo(%d, %v, %d, %d) = %v, %d: it is %d far", spots, l, from, to, way, cost, far)
	}
	for k, at := range way[:len(way)-1] {
		if way[k+1] != mustHops(t, spots, l, at, to)[0] {
			t.Fatalf("WayTo(%d, %v, %d, %d) = %v: from %d it goes to %d", spots, l, from, to, way, at, way[k+1])
		}
	}
	wantNums(t, "the way", way, wayByWords(spots, l, from, to))
}

// Promise 9, of few spots: held against all ways that there are.
func bestOfAllWays(t *testing.T, spots int, l []impl.Edge) {
	t.Helper()
	for from := range spots {
		least, best, hops := slices.Repeat([]int{impl.Far}, spots), make([][]int, spots), make([][]int, spots)
		for _, way := range waysByWords(spots, l, from) {
			to, cost := way[len(way)-1], mustCost(t, spots, l, way)
			if cost < least[to] {
				least[to], best[to], hops[to] = cost, way, nil
			}
			if cost == least[to] && to != from && !slices.Contains(hops[to], way[1]) {
				hops[to] = append(hops[to], way[1])
			}
		}
		wantNums(t, "the least of all ways", mustFars(t, spots, l, from), least)
		for to := range spots {
			if from != to {
				wantNums(t, "how the best of all ways begin", mustHops(t, spots, l, from, to), hops[to])
			}
			if least[to] < impl.Far {
				way, _ := mustWay(t, spots, l, from, to)
				wantNums(t, "the first of the best of all ways", way, best[to])
			}
		}
	}
}

// Promise 9, of the centre.
func centreIsAsSaid(t *testing.T, spots int, l []impl.Edge) {
	t.Helper()
	centre, most := mustCentre(t, spots, l)
	if w, n := centreByWords(spots, l); centre != w || most != n {
		t.Fatalf("CentreOf(%d, %v) = %d, %d, not %d, %d", spots, l, centre, most, w, n)
	}
	for spot := range spots {
		greatest := slices.Max(mustFars(t, spots, l, spot))
		if greatest < most || spot < centre && greatest == most || spot == centre && greatest != most {
			t.Fatalf("CentreOf(%d, %v) = %d, %d: of %d it is %d", spots, l, centre, most, spot, greatest)
		}
	}
}

func allIsAsSaid(t *testing.T, spots int, l []impl.Edge) {
	t.Helper()
	farsAreAsSaid(t, spots, l)
	waysAreAsSaid(t, spots, l)
	centreIsAsSaid(t, spots, l)
}

func TestShortConstants(t *testing.T) {
	if impl.Far != 100000 {
		t.Error(impl.Far)
	}
}

func TestFarsFromByHand(t *testing.T) {
	for _, c := range []struct {
		spots int
		l     []impl.Edge
		from  int
		want  []int
	}{
		{1, nil, 0, []int{0}},
		{2, nil, 0, []int{0, 100000}},
		{2, nil, 1, []int{100000, 0}},
		{2, edges(edge(0, 1, 1)), 0, []int{0, 1}},
		{2, edges(edge(0, 1, 100)), 1, []int{100, 0}},
		// An edge that costs more than the way round, as much, and less.
		{3, edges(edge(0, 1, 1), edge(0, 2, 4), edge(1, 2, 2)), 0, []int{0, 1, 3}},
		{3, edges(edge(0, 1, 1), edge(0, 2, 4), edge(1, 2, 2)), 2, []int{3, 2, 0}},
		{3, edges(edge(0, 1, 1), edge(0, 2, 3), edge(1, 2, 2)), 0, []int{0, 1, 3}},
		{3, edges(edge(0, 1, 1), edge(0, 2, 2), edge(1, 2, 2)), 0, []int{0, 1, 2}},
		{6, halves(), 0, []int{0, 2, 5, 100000, 100000, 100000}},
		{6, halves(), 1, []int{2, 0, 3, 100000, 100000, 100000}},
		{6, halves(), 4, []int{100000, 100000, 100000, 4, 0, 100000}},
		{6, halves(), 5, []int{100000, 100000, 100000, 100000, 100000, 0}},
		{6, diamond(), 0, []int{0, 2, 1, 3, 4, 5}},
		{6, diamond(), 5, []int{5, 3, 4, 2, 1, 0}},
		{12, ringEdges(12), 0, []int{0, 1, 2, 3, 4, 5, 6, 5, 4, 3, 2, 1}},
		{12, ringEdges(12), 7, []int{5, 6, 5, 4, 3, 2, 1, 0, 1, 2, 3, 4}},
		{12, edges(edge(0, 11, 100)), 11, []int{100, 100000, 100000, 100000, 100000, 100000, 100000, 100000, 100000, 100000, 100000, 0}},
	} {
		wantNums(t, "FarsFrom", mustFars(t, c.spots, c.l, c.from), c.want)
		allIsAsSaid(t, c.spots, c.l)
	}
}

// The far end of a chain is eleven edges off, whatever order they stand in.
func TestShortOfAChain(t *testing.T) {
	r := rand.New(rand.NewSource(901))
	orders := [][]int{risingFrom(0, 12), {11, 10, 9, 8, 7, 6, 5, 4, 3, 2, 1, 0}, {0, 11, 1, 10, 2, 9, 3, 8, 4, 7, 5, 6}}
	for range 50 {
		orders = append(orders, r.Perm(12))
	}
	for _, order := range orders {
		for _, cost := range []int{1, 7, 100} {
			l := chainEdges(cost, order...)
			first, last := order[0], order[11]
			far := mustFars(t, 12, l, first)
			for k, spot := range order {
				if far[spot] != k*cost {
					t.Fatalf("FarsFrom(12, %v, %d) = %v", l, first, far)
				}
			}
			way, all := mustWay(t, 12, l, first, last)
			wantNums(t, "the way along the chain", way, order)
			if all != 11*cost || mustCost(t, 12, l, order) != all {
				t.Fatalf("%d along %v", all, l)
			}
			if centre, most := mustCentre(t, 12, l); centre != min(order[5], order[6]) || most != 6*cost {
				t.Fatalf("CentreOf(12, %v) = %d, %d", l, centre, most)
			}
			allIsAsSaid(t, 12, l)
		}
	}
}

func TestShortOfAllSmallGraphs(t *testing.T) {
	for _, g := range smallGraphs() {
		allIsAsSaid(t, g.spots, g.l)
		bestOfAllWays(t, g.spots, g.l)
	}
}

func TestShortOfAllGraphsOfFiveSpots(t *testing.T) {
	for _, l := range graphsOf(5, func(_ int, two [2]int) int { return two[1] - two[0] }) {
		allIsAsSaid(t, 5, l)
		bestOfAllWays(t, 5, l)
	}
}

func TestShortByWords(t *testing.T) {
	r := rand.New(rand.NewSource(902))
	joined := 0
	for range 1200 {
		spots, l := randomGraph(r)
		allIsAsSaid(t, spots, l)
		if spots <= 6 {
			bestOfAllWays(t, spots, l)
		}
		if mustOne(t, spots, l) {
			joined++
		}
	}
	if joined < 200 || joined > 1000 {
		t.Errorf("%d are one group: too few of one sort", joined)
	}
}

func TestShortOfAsManyEdgesAsCanBe(t *testing.T) {
	for _, l := range [][]impl.Edge{edgesFrom(12, 0, 40), edgesFrom(12, 26, 40), edgesFrom(12, 13, 40), edgesFrom(12, 0, 39)} {
		allIsAsSaid(t, 12, l)
	}
	allIsAsSaid(t, 10, edgesFrom(10, 5, 40))
	allIsAsSaid(t, 9, edgesFrom(9, 0, 36))
	for spots := 1; spots <= 12; spots++ {
		allIsAsSaid(t, spots, nil)
	}
}

func TestRelaxAllByHand(t *testing.T) {
	far := impl.Far
	triangle := edges(edge(0, 1, 1), edge(0, 2, 4), edge(1, 2, 2))
	for _, c := range []struct {
		spots int
		l     []impl.Edge
		far   []int
		want  []int
	}{
		{1, nil, []int{0}, []int{0}},
		{1, nil, []int{far}, []int{far}},
		{1, nil, []int{77}, []int{77}},
		{3, nil, []int{5, 0, far}, []int{5, 0, far}},
		{3, triangle, []int{0, far, far}, []int{0, 1, 4}},
		{3, triangle, []int{0, 1, 4}, []int{0, 1, 3}},
		{3, triangle, []int{0, 1, 3}, []int{0, 1, 3}},
		{3, triangle, []int{0, 0, 0}, []int{0, 0, 0}},
		{3, triangle, []int{far, far, 0}, []int{4, 2, 0}},
		// None is 0.
		{3, triangle, []int{10, far, far}, []int{10, 11, 14}},
		{3, triangle, []int{10, 9, 8}, []int{10, 9, 8}},
		{3, triangle, []int{9, 20, 30}, []int{9, 10, 13}},
		{3, triangle, []int{30, 20, 10}, []int{14, 12, 10}},
		// Far and a Cost come together.
		{3, triangle, []int{far, far, far}, []int{far, far, far}},
		{2, edges(edge(0, 1, 100)), []int{far, far}, []int{far, far}},
		{2, edges(edge(0, 1, 1)), []int{far - 1, far}, []int{far - 1, far}},
		{2, edges(edge(0, 1, 1)), []int{far, far - 2}, []int{far - 1, far - 2}},
		{2, edges(edge(0, 1, 100)), []int{far - 1, far}, []int{far - 1, far}},
		{2, edges(edge(0, 1, 100)), []int{far, far - 100}, []int{far, far - 100}},
		{2, edges(edge(0, 1, 100)), []int{far, far - 101}, []int{far - 1, far - 101}},
		// A number goes over one edge alone.
		{4, chainEdges(1, 0, 1, 2, 3), []int{0, far, far, far}, []int{0, 1, far, far}},
		{4, chainEdges(1, 0, 1, 2, 3), []int{far, far, far, 0}, []int{far, far, 1, 0}},
		{4, chainEdges(5, 2, 0, 3, 1), []int{far, far, 0, far}, []int{5, far, 0, far}},
		{4, chainEdges(1, 0, 1, 2, 3), []int{0, 50, 60, 70}, []int{0, 1, 51, 61}},
		{4, chainEdges(1, 0, 1, 2, 3), []int{70, 60, 50, 0}, []int{61, 51, 1, 0}},
	} {
		kept := slices.Clone(c.far)
		wantNums(t, "RelaxAll", mustRelax(t, c.spots, c.l, c.far), c.want)
		wantNums(t, "what was given", c.far, kept)
	}
}

// From one 0 each round comes one edge further, in each order of the edges.
func TestRelaxAllGoesOverOneEdgeAtATime(t *testing.T) {
	r := rand.New(rand.NewSource(903))
	for range 300 {
		order := r.Perm(12)
		l := chainEdges(1+r.Intn(100), order...)
		far := slices.Repeat([]int{impl.Far}, 12)
		far[order[0]] = 0
		for round := range 12 {
			for k, spot := range order {
				if (far[spot] < impl.Far) != (k <= round) {
					t.Fatalf("of %v in round %d: %v", l, round, far)
				}
			}
			far = mustRelax(t, 12, l, far)
		}
		wantNums(t, "relaxed eleven times", far, mustFars(t, 12, l, order[0]))
	}
}

func randomFars(r *rand.Rand, spots int) []int {
	var far []int
	for range spots {
		far = append(far, []int{0, impl.Far, impl.Far - r.Intn(200), r.Intn(300), r.Intn(impl.Far + 1)}[r.Intn(5)])
	}
	return far
}

func TestRelaxAllByWords(t *testing.T) {
	r := rand.New(rand.NewSource(904))
	for range 10000 {
		spots, l := randomGraph(r)
		far := randomFars(r, spots)
		kept := slices.Clone(far)
		relaxed := mustRelax(t, spots, l, far)
		wantNums(t, "RelaxAll", relaxed, relaxByWords(spots, l, far))
		wantNums(t, "what was given", far, kept)
		names := r.Perm(spots)
		others, want := make([]int, spots), make([]int, spots)
		for spot, name := range names {
			others[name], want[name] = far[spot], relaxed[spot]
		}
		wantNums(t, "RelaxAll by other names", mustRelax(t, spots, renamed(l, names), others), want)
	}
}

// Relaxing from one 0 on comes to how far spots are, and no further.
func TestRelaxingComesToFarsFrom(t *testing.T) {
	r := rand.New(rand.NewSource(905))
	for range 1000 {
		spots, l := randomGraph(r)
		from := r.Intn(spots)
		far := slices.Repeat([]int{impl.Far}, spots)
		far[from] = 0
		want := mustFars(t, spots, l, from)
		for range spots - 1 {
			far = mustRelax(t, spots, l, far)
			for spot := range spots {
				if far[spot] < want[spot] {
					t.Fatalf("of %v: %v, less than %v", l, far, want)
				}
			}
		}
		wantNums(t, "relaxed as often as there are other spots", far, want)
	}
}

func TestFirstHopsByHand(t *testing.T) {
	for _, c := range []struct {
		spots int
		l     []impl.Edge
		from  int
		to    int
		want  []int
	}{
		{2, edges(edge(0, 1, 1)), 0, 1, []int{1}},
		{2, edges(edge(0, 1, 100)), 1, 0, []int{0}},
		{2, nil, 0, 1, nil},
		{2, nil, 1, 0, nil},
		{3, edges(edge(0, 1, 1), edge(0, 2, 4), edge(1, 2, 2)), 0, 2, []int{1}},
		{3, edges(edge(0, 1, 1), edge(0, 2, 3), edge(1, 2, 2)), 0, 2, []int{1, 2}},
		{3, edges(edge(0, 1, 1), edge(0, 2, 3), edge(1, 2, 2)), 2, 0, []int{0, 1}},
		{3, edges(edge(0, 1, 1), edge(0, 2, 2), edge(1, 2, 2)), 0, 2, []int{2}},
		{6, halves(), 0, 2, []int{1}},
		{6, halves(), 0, 3, nil},
		{6, halves(), 4, 1, nil},
		{6, halves(), 5, 0, nil},
		{6, halves(), 0, 5, nil},
		{6, diamond(), 0, 5, []int{1, 2, 3}},
		{6, diamond(), 0, 4, []int{1, 2}},
		{6, diamond(), 5, 0, []int{3, 4}},
		{6, diamond(), 4, 0, []int{1, 2}},
		// Two ways of the same cost with the same first hop.
		{5, edges(edge(0, 1, 9), edge(1, 2, 1), edge(1, 3, 1), edge(2, 4, 1), edge(3, 4, 1)), 0, 4, []int{1}},
		{5, edges(edge(0, 1, 9), edge(1, 2, 1), edge(1, 3, 1), edge(2, 4, 1), edge(3, 4, 1)), 4, 0, []int{2, 3}},
		{12, ringEdges(12), 0, 6, []int{1, 11}},
		{12, ringEdges(12), 6, 0, []int{5, 7}},
		{12, ringEdges(12), 0, 7, []int{11}},
		{12, ringEdges(12), 11, 4, []int{0}},
		{12, ringEdges(12), 11, 5, []int{0, 10}},
	} {
		wantNums(t, "FirstHops", mustHops(t, c.spots, c.l, c.from, c.to), c.want)
		allIsAsSaid(t, c.spots, c.l)
	}
}

func TestWayToByHand(t *testing.T) {
	for _, c := range []struct {
		spots int
		l     []impl.Edge
		want  []int
		cost  int
	}{
		{1, nil, []int{0}, 0},
		{12, nil, []int{11}, 0},
		{12, ringEdges(12), []int{4}, 0},
		{2, edges(edge(0, 1, 100)), []int{1, 0}, 100},
		{3, edges(edge(0, 1, 1), edge(0, 2, 4), edge(1, 2, 2)), []int{0, 1, 2}, 3},
		{3, edges(edge(0, 1, 1), edge(0, 2, 4), edge(1, 2, 2)), []int{2, 1, 0}, 3},
		{3, edges(edge(0, 1, 1), edge(0, 2, 3), edge(1, 2, 2)), []int{0, 1, 2}, 3},
		{3, edges(edge(0, 1, 1), edge(0, 2, 3), edge(1, 2, 2)), []int{2, 0}, 3},
		{6, halves(), []int{0, 1, 2}, 5},
		{6, halves(), []int{4, 3}, 4},
		{6, diamond(), []int{0, 1, 4, 5}, 5},
		{6, diamond(), []int{5, 3, 0}, 5},
		{6, diamond(), []int{4, 1, 0}, 4},
		{5, edges(edge(0, 1, 9), edge(1, 2, 1), edge(1, 3, 1), edge(2, 4, 1), edge(3, 4, 1)), []int{0, 1, 2, 4}, 11},
		{5, edges(edge(0, 1, 9), edge(1, 2, 1), edge(1, 3, 1), edge(2, 4, 1), edge(3, 4, 1)), []int{4, 2, 1, 0}, 11},
		{12, ringEdges(12), []int{0, 1, 2, 3, 4, 5, 6}, 6},
		{12, ringEdges(12), []int{6, 5, 4, 3, 2, 1, 0}, 6},
		{12, ringEdges(12), []int{7, 6, 5, 4, 3, 2, 1}, 6},
		{12, ringEdges(12), []int{11, 0, 1, 2, 3, 4, 5}, 6},
		{12, ringEdges(12), []int{0, 11, 10, 9}, 3},
		{12, chainEdges(100, risingFrom(0, 12)...), risingFrom(0, 12), 1100},
	} {
		way, cost := mustWay(t, c.spots, c.l, c.want[0], c.want[len(c.want)-1])
		wantNums(t, "WayTo", way, c.want)
		if cost != c.cost || mustCost(t, c.spots, c.l, way) != c.cost {
			t.Fatalf("%v costs %d, not %d", way, cost, c.cost)
		}
	}
	cantWay(t, 2, nil, 0, 1)
	cantWay(t, 6, halves(), 0, 3)
	cantWay(t, 6, halves(), 4, 0)
	cantWay(t, 6, halves(), 0, 5)
	cantWay(t, 6, halves(), 5, 0)
}

func TestHopForByHand(t *testing.T) {
	for flow := 0; flow <= 1000; flow++ {
		if hop := mustHop(t, 6, diamond(), 0, 5, flow); hop != 1+flow%3 {
			t.Fatalf("flow %d goes to %d of three", flow, hop)
		}
		if hop := mustHop(t, 12, ringEdges(12), 0, 6, flow); hop != []int{1, 11}[flow%2] {
			t.Fatalf("flow %d goes to %d of two", flow, hop)
		}
		if hop := mustHop(t, 6, halves(), 2, 0, flow); hop != 1 {
			t.Fatalf("flow %d goes to %d of one", flow, hop)
		}
	}
	cantHop(t, 2, nil, 0, 1, 0)
	cantHop(t, 6, halves(), 0, 3, 1)
	cantHop(t, 6, halves(), 5, 0, 1000)
}

// One spot is joined with each two of ten in the middle, and so is another one.
func TestHopForOfTenHops(t *testing.T) {
	var l []impl.Edge
	for mid := 1; mid <= 10; mid++ {
		l = append(l, edge(0, mid, mid), edge(mid, 11, 11-mid))
	}
	l = inOrder(l)
	for many := 10; many >= 1; many-- {
		hops := risingFrom(1, many)
		wantNums(t, "FirstHops", mustHops(t, 12, l, 0, 11), hops)
		for flow := 0; flow <= 1000; flow++ {
			if hop := mustHop(t, 12, l, 0, 11, flow); hop != hops[flow%many] {
				t.Fatalf("flow %d goes to %d of %v", flow, hop, hops)
			}
		}
		l = slices.DeleteFunc(l, func(e impl.Edge) bool { return e.A == 0 && e.B == many })
	}
	leadsNowhere(t, 12, l, 0, 11)
}

func TestFlowsThatAreNone(t *testing.T) {
	for _, flow := range []int{math.MinInt, math.MinInt + 1, -1 << 32, -1000, -3, -2, -1, 1001, 1002, 1 << 32, 1<<32 + 1, math.MaxInt - 1, math.MaxInt} {
		cantHop(t, 6, diamond(), 0, 5, flow)
		cantHop(t, 2, edges(edge(0, 1, 1)), 1, 0, flow)
		cantHop(t, 12, ringEdges(12), 0, 6, flow)
		cantHop(t, 6, halves(), 0, 3, flow)
		cantHop(t, 6, halves(), 0, 0, flow)
		cantHop(t, 6, diamond(), flow, flow, flow)
	}
}

func TestCostOfByHand(t *testing.T) {
	triangle := edges(edge(0, 1, 1), edge(0, 2, 4), edge(1, 2, 2))
	for _, c := range []struct {
		spots int
		l     []impl.Edge
		way   []int
		want  int
	}{
		{1, nil, []int{0}, 0},
		{12, nil, []int{0}, 0},
		{12, nil, []int{11}, 0},
		{3, triangle, []int{2}, 0},
		{3, triangle, []int{0, 2}, 4},
		{3, triangle, []int{2, 0}, 4},
		{3, triangle, []int{0, 1, 2}, 3},
		{3, triangle, []int{2, 1, 0}, 3},
		// To and fro over one edge, and one spot twice.
		{3, triangle, []int{0, 1, 0}, 2},
		{3, triangle, []int{0, 2, 0, 2}, 12},
		{3, triangle, []int{0, 1, 2, 0}, 7},
		{3, triangle, []int{1, 0, 2, 1, 0}, 8},
		{2, edges(edge(0, 1, 100)), []int{0, 1, 0, 1, 0, 1, 0, 1, 0, 1, 0, 1}, 1100},
		{2, edges(edge(0, 1, 1)), []int{1, 0, 1, 0, 1, 0, 1, 0, 1, 0, 1}, 10},
		{6, halves(), []int{4, 3, 4}, 8},
		{12, ringEdges(12), risingFrom(0, 12), 11},
		{12, ringEdges(12), []int{10, 11, 0, 1}, 3},
	} {
		kept := slices.Clone(c.way)
		if cost := mustCost(t, c.spots, c.l, c.way); cost != c.want {
			t.Errorf("CostOf(%d, %v, %v) = %d, not %d", c.spots, c.l, c.way, cost, c.want)
		}
		wantNums(t, "what was given", c.way, kept)
	}
}

func TestWaysThatAreNone(t *testing.T) {
	two := edges(edge(0, 1, 5))
	for _, c := range []struct {
		spots int
		l     []impl.Edge
		way   []int
	}{
		{1, nil, nil}, {1, nil, []int{}}, {12, ringEdges(12), nil}, {2, two, []int{}},
		{2, two, []int{0, 1, 0, 1, 0, 1, 0, 1, 0, 1, 0, 1, 0}},
		{2, two, []int{1, 0, 1, 0, 1, 0, 1, 0, 1, 0, 1, 0, 1}},
		{12, ringEdges(12), []int{0, 1, 2, 3, 4, 5, 6, 7, 8, 9, 10, 11, 0}},
		{12, ringEdges(12), slices.Repeat([]int{0, 1}, 20)},
		// No edge joins a spot with itself, or these two.
		{1, nil, []int{0, 0}}, {2, two, []int{0, 0}}, {2, two, []int{1, 1}}, {2, two, []int{0, 1, 1}}, {2, two, []int{0, 0, 1}},
		{2, nil, []int{0, 1}}, {3, two, []int{0, 2}}, {3, two, []int{2, 0}}, {3, two, []int{0, 1, 2}}, {3, two, []int{2, 1, 0}},
		{6, halves(), []int{0, 2}}, {6, halves(), []int{0, 1, 2, 3}}, {6, halves(), []int{0, 1, 2, 3, 4}}, {6, halves(), []int{5, 0}},
		{12, ringEdges(12), []int{0, 2}}, {12, ringEdges(12), []int{1, 11}}, {12, ringEdges(12), []int{0, 1, 2, 4, 5}},
	} {
		cantCost(t, c.spots, c.l, c.way)
	}
	for _, spots := range []int{1, 2, 3, 12} {
		for _, n := range placesBeside(spots) {
			for _, way := range [][]int{{n}, {n, 0}, {0, n}, {spots - 1, n}, {n, spots - 1}, {0, 1, n}, {n, 1, 0}, {0, n, 0}, {n, n}, {0, 1, n, 1}, slices.Repeat([]int{n}, 12), slices.Repeat([]int{n}, 13)} {
				cantCost(t, spots, chainEdges(5, risingFrom(0, spots)...), way)
				cantCost(t, spots, nil, way)
			}
		}
	}
}

// Each list of up to four numbers about the spots, of edges of four spots.
func TestCostOfEachShortWay(t *testing.T) {
	ways := [][]int{nil}
	for ahead := 0; len(ways[ahead]) < 4; ahead++ {
		for spot := -1; spot <= 4; spot++ {
			ways = append(ways, append(slices.Clone(ways[ahead]), spot))
		}
	}
	for _, l := range [][]impl.Edge{nil, edges(edge(0, 1, 5)), ringEdges(4), edgesFrom(4, 0, 6), edges(edge(0, 3, 100), edge(1, 2, 1))} {
		good := 0
		for _, way := range ways {
			if want, ok := costByWords(4, l, way); !ok {
				cantCost(t, 4, l, way)
			} else if cost := mustCost(t, 4, l, way); cost != want {
				t.Fatalf("CostOf(4, %v, %v) = %d, not %d", l, way, cost, want)
			} else {
				good++
			}
		}
		if good < 4 || good == len(ways) {
			t.Errorf("of %v %d ways are good", l, good)
		}
	}
}

func TestCostOfByWords(t *testing.T) {
	r := rand.New(rand.NewSource(906))
	long := 0
	for range 4000 {
		spots, l := randomGraph(r)
		way := []int{r.Intn(spots)}
		for len(way) < 13 {
			near := nearByWords(l, way[len(way)-1])
			if len(near) == 0 {
				break
			}
			way = append(way, near[r.Intn(len(near))])
			if want, ok := costByWords(spots, l, way); !ok {
				cantCost(t, spots, l, way)
				long++
			} else if cost := mustCost(t, spots, l, way); cost != want {
				t.Fatalf("CostOf(%d, %v, %v) = %d, not %d", spots, l, way, cost, want)
			}
		}
	}
	if long < 1000 {
		t.Errorf("just %d were too long", long)
	}
}

func TestCentreOfByHand(t *testing.T) {
	for _, c := range []struct {
		spots int
		l     []impl.Edge
		at    int
		most  int
	}{
		{1, nil, 0, 0},
		{2, edges(edge(0, 1, 1)), 0, 1},
		{2, edges(edge(0, 1, 100)), 0, 100},
		{3, edges(edge(0, 1, 1), edge(0, 2, 4), edge(1, 2, 2)), 1, 2},
		{3, edges(edge(0, 2, 5), edge(1, 2, 5)), 2, 5},
		{3, edges(edge(0, 1, 5), edge(0, 2, 4)), 0, 5},
		// Of as great ones the first.
		{3, ringEdges(3), 0, 1},
		{12, ringEdges(12), 0, 6},
		{4, chainEdges(3, 0, 1, 2, 3), 1, 6},
		{4, chainEdges(3, 0, 3, 2, 1), 2, 6},
		{4, chainEdges(3, 3, 1, 0, 2), 0, 6},
		{5, edges(edge(0, 4, 2), edge(1, 4, 2), edge(2, 4, 2), edge(3, 4, 2)), 4, 2},
		{12, chainEdges(100, risingFrom(0, 12)...), 5, 600},
		// Not all are joined: each one has one that is Far.
		{2, nil, 0, 100000},
		{12, nil, 0, 100000},
		{6, halves(), 0, 100000},
		{3, edges(edge(1, 2, 1)), 0, 100000},
		{12, ringEdges(11), 0, 100000},
	} {
		if at, most := mustCentre(t, c.spots, c.l); at != c.at || most != c.most {
			t.Errorf("CentreOf(%d, %v) = %d, %d, not %d, %d", c.spots, c.l, at, most, c.at, c.most)
		}
		centreIsAsSaid(t, c.spots, c.l)
	}
}

func TestEndsThatAreNone(t *testing.T) {
	for spots := 1; spots <= 12; spots++ {
		for _, l := range [][]impl.Edge{nil, chainEdges(5, risingFrom(0, spots)...), edgesFrom(spots, 0, min(40, len(allTwos(spots))))} {
			for _, n := range placesBeside(spots) {
				cantFars(t, spots, l, n)
				cantGo(t, spots, l, n, n)
				for spot := range spots {
					cantGo(t, spots, l, n, spot)
					cantGo(t, spots, l, spot, n)
				}
				for _, other := range placesBeside(spots) {
					cantGo(t, spots, l, n, other)
				}
			}
			mustFars(t, spots, l, 0)
			mustFars(t, spots, l, spots-1)
		}
	}
}

func TestNumbersThatCantBeRelaxed(t *testing.T) {
	wrong := []int{math.MinInt, math.MinInt + 1, -1 << 32, -100000, -100, -2, -1, 100001, 100002, 100100, 1 << 32, 1<<32 + 5, math.MaxInt - 100, math.MaxInt - 1, math.MaxInt}
	for spots := 1; spots <= 12; spots++ {
		for _, l := range [][]impl.Edge{nil, chainEdges(100, risingFrom(0, spots)...)} {
			for at := range spots {
				for _, n := range wrong {
					for _, rest := range []int{0, 1, impl.Far, n} {
						far := slices.Repeat([]int{rest}, spots)
						far[at] = n
						kept := slices.Clone(far)
						cantRelax(t, spots, l, far)
						wantNums(t, "what was given", far, kept)
					}
				}
				for _, n := range []int{0, 1, 100, impl.Far - 1, impl.Far} {
					far := slices.Repeat([]int{50}, spots)
					far[at] = n
					wantNums(t, "RelaxAll", mustRelax(t, spots, l, far), relaxByWords(spots, l, far))
				}
			}
			for _, many := range []int{0, spots - 1, spots + 1, spots + 12, 2 * spots, 41, 1000} {
				if many != spots {
					cantRelax(t, spots, l, make([]int, many))
					cantRelax(t, spots, l, slices.Repeat([]int{impl.Far}, many))
				}
			}
			cantRelax(t, spots, l, nil)
		}
	}
}

// wantEdgesKept asks of edgesBehind, wantNumsKept of behind, whether they are as
// they were made, and what lies behind them too.
func wantEdgesKept(t *testing.T, l []impl.Edge, made []impl.Edge) {
	t.Helper()
	wantEdges(t, "what was given", l, made)
	if !areEdgesUntouched(l) {
		t.Fatalf("behind %v something changed", l)
	}
}

func wantNumsKept(t *testing.T, l []int, made []int) {
	t.Helper()
	wantNums(t, "what was given", l, made)
	if !isUntouched(l) {
		t.Fatalf("behind %v something changed", l)
	}
}

// refusesShort asks each function for edges, or spots, that are not as said.
func refusesShort(t *testing.T, spots int, l []impl.Edge) {
	t.Helper()
	for _, n := range []int{math.MinInt, -1, 0, 1, 2, 3, 11, 12, spots - 1, spots, math.MaxInt} {
		cantFars(t, spots, l, n)
		for _, to := range []int{math.MinInt, -1, 0, 1, 3, 11, spots - 1, spots, math.MaxInt} {
			cantGo(t, spots, l, n, to)
			cantCost(t, spots, l, []int{n, to})
		}
		cantCost(t, spots, l, []int{n})
	}
	for _, many := range []int{0, 1, 2, 3, 4, 11, 12, 13, 14, 66} {
		cantRelax(t, spots, l, make([]int, many))
		cantRelax(t, spots, l, slices.Repeat([]int{impl.Far}, many))
		cantCost(t, spots, l, risingFrom(0, many))
	}
	cantRelax(t, spots, l, nil)
	cantCost(t, spots, l, nil)
	cantCentre(t, spots, l)
}

// overWrongEdges and overDamagedEdges ask each time the question for edges, or
// spots, that are not as said; the latter also that of good ones.
func overWrongEdges(t *testing.T, refuses func(*testing.T, int, []impl.Edge)) {
	t.Helper()
	for _, g := range edgesThatAreNone() {
		l := edgesBehind(g.l)
		refuses(t, g.spots, l)
		wantEdgesKept(t, l, g.l)
	}
}

func overDamagedEdges(t *testing.T, seed int64, holds func(*testing.T, int, []impl.Edge), refuses func(*testing.T, int, []impl.Edge)) {
	t.Helper()
	r := rand.New(rand.NewSource(seed))
	good := 0
	for range 3000 {
		spots, l := randomGraph(r)
		spots, l = damageEdges(r, spots, l)
		if goodEdgesByWords(spots, l) {
			holds(t, spots, l)
			good++
		} else {
			refuses(t, spots, l)
		}
	}
	if good < 100 || good > 2900 {
		t.Errorf("%d are good: too few of one sort", good)
	}
}

func TestShortOfEdgesThatAreNone(t *testing.T) {
	overWrongEdges(t, refusesShort)
}

func TestShortOfDamagedEdges(t *testing.T) {
	overDamagedEdges(t, 907, centreIsAsSaid, refusesShort)
}

func TestShortAnswersAreNewMemory(t *testing.T) {
	r := rand.New(rand.NewSource(908))
	for range 300 {
		spots, made := randomGraph(r)
		l := edgesBehind(made)
		from, to := r.Intn(spots), r.Intn(spots)
		for range 2 {
			allIsAsSaid(t, spots, l)
			scribbleNums(mustFars(t, spots, l, from))
			if from != to {
				scribbleNums(mustHops(t, spots, l, from, to))
			}
			if way, _, ok := impl.WayTo(spots, l, from, to); ok {
				kept := slices.Clone(way)
				given := behind(way)
				mustCost(t, spots, l, given)
				wantNumsKept(t, given, kept)
				scribbleNums(way)
			}
		}
		wantEdgesKept(t, l, made)
	}
}

// What relaxing leaves as it is comes back in memory of its own, too.
func TestRelaxAllAnswersAreNewMemory(t *testing.T) {
	r := rand.New(rand.NewSource(909))
	for range 2000 {
		spots, made := randomGraph(r)
		l := edgesBehind(made)
		for _, kept := range [][]int{randomFars(r, spots), mustFars(t, spots, l, r.Intn(spots)), make([]int, spots)} {
			far := behind(kept)
			for range 2 {
				relaxed := mustRelax(t, spots, l, far)
				wantNums(t, "RelaxAll", relaxed, relaxByWords(spots, l, kept))
				scribbleNums(relaxed)
				wantNumsKept(t, far, kept)
			}
		}
		wantEdgesKept(t, l, made)
	}
}

// Numbers and spots that lie behind a list are no part of it.
func TestShortReadsNothingBehindAList(t *testing.T) {
	l := ringEdges(12)
	memory := risingFrom(0, 12)
	cantRelax(t, 12, l, memory[:11])
	cantRelax(t, 12, l, memory[:0])
	cantCost(t, 12, l, memory[:0])
	if cost := mustCost(t, 12, l, memory[:3]); cost != 2 {
		t.Errorf("the way of three costs %d", cost)
	}
	wantNums(t, "what was given", memory, risingFrom(0, 12))
}

func TestEmptyAndNilListsOfWays(t *testing.T) {
	two := ringEdges(3)
	for spots := 1; spots <= 12; spots++ {
		for _, none := range [][]impl.Edge{nil, {}, two[:0], two[3:]} {
			allIsAsSaid(t, spots, none)
			want := slices.Repeat([]int{impl.Far}, spots)
			want[spots-1] = 0
			wantNums(t, "FarsFrom", mustFars(t, spots, none, spots-1), want)
			wantNums(t, "RelaxAll", mustRelax(t, spots, none, want), want)
			if cost := mustCost(t, spots, none, []int{spots - 1}); cost != 0 {
				t.Errorf("a way of one spot costs %d", cost)
			}
			for _, nothing := range [][]int{nil, {}, want[:0]} {
				cantCost(t, spots, none, nothing)
				cantRelax(t, spots, none, nothing)
			}
		}
	}
	wantEdges(t, "what was given", two, ringEdges(3))
}
