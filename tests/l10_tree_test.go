package tests

import (
	"math"
	"math/rand"
	"slices"
	"testing"

	"loop.example/g00575/impl"
)

func hop(from int, to int) impl.Hop { return impl.Hop{From: from, To: to} }

func hops(l ...impl.Hop) []impl.Hop { return l }

func alone(spots int) []int { return slices.Repeat([]int{-1}, spots) }

// chainUp has each spot but the last one of the list below the next one.
func chainUp(order ...int) []int {
	parents := alone(len(order))
	for k, spot := range order[1:] {
		parents[order[k]] = spot
	}
	return parents
}

// branches is a tree of seven spots in which greater ones get a frame of 5 ahead
// of lesser ones, and three spots alone.
func branches() []int { return []int{2, 5, 4, 9, 5, -1, -1, -1, -1, 1} }

// goodParentsByWords goes up from each spot, as often as there are spots at most.
func goodParentsByWords(parents []int) bool {
	if len(parents) < 1 || 12 < len(parents) {
		return false
	}
	for spot, parent := range parents {
		if parent < -1 || len(parents) <= parent || parent == spot {
			return false
		}
	}
	for at := range parents {
		for range parents {
			if at != -1 {
				at = parents[at]
			}
		}
		if at != -1 {
			return false
		}
	}
	return true
}

// upByWords is a spot, its parent, the parent of that, and so on.
func upByWords(parents []int, at int) []int {
	var up []int
	for ; at != -1; at = parents[at] {
		up = append(up, at)
	}
	return up
}

// onTreeByWords goes up from a to the first spot above b too, and down from there.
func onTreeByWords(parents []int, a int, b int) []int {
	ups, others := upByWords(parents, a), upByWords(parents, b)
	for k, spot := range ups {
		if m := slices.Index(others, spot); m >= 0 {
			down := slices.Clone(others[:m])
			slices.Reverse(down)
			return append(slices.Clone(ups[:k+1]), down...)
		}
	}
	return nil
}

// spreadByWords has those who got it in a row, each with who it came from.
func spreadByWords(parents []int, from int) []impl.Hop {
	var all []impl.Hop
	row := hops(hop(-1, from))
	for len(row) > 0 {
		at, back := row[0].To, row[0].From
		row = row[1:]
		for spot := range parents {
			isOwn, isBelow := parents[at] == spot, parents[spot] == at
			if spot != back && (isOwn || isBelow) {
				all = append(all, hop(at, spot))
				row = append(row, hop(at, spot))
			}
		}
	}
	return all
}

// treeByWords tries all neighbours of each spot, the lesser ones ahead.
func treeByWords(spots int, l []impl.Edge, root int) []int {
	far, costs := farsByWords(spots, l)[root], costsByWords(l)
	parents := alone(spots)
	for spot := range spots {
		for near := spots - 1; near >= 0; near-- {
			if spot != root && far[spot] < farByWords && costs[near][spot] > 0 && far[near]+costs[near][spot] == far[spot] {
				parents[spot] = near
			}
		}
	}
	return parents
}

func treeCostByWords(spots int, l []impl.Edge, parents []int) (int, bool) {
	if len(parents) != spots {
		return 0, false
	}
	costs, all := costsByWords(l), 0
	for spot, parent := range parents {
		if parent == -1 {
			continue
		}
		if costs[spot][parent] == 0 {
			return 0, false
		}
		all += costs[spot][parent]
	}
	return all, true
}

// leastByWords goes through all edges for each Cost, the lesser Costs ahead.
func leastByWords(l []impl.Edge) ([]impl.Edge, int) {
	var tree []impl.Edge
	all := 0
	for cost := 1; cost <= 100; cost++ {
		for _, e := range l {
			if e.Cost == cost && !slices.Contains(reachedByWords(tree, e.A), e.B) {
				tree = append(tree, e)
				all += cost
			}
		}
	}
	return tree, all
}

// parentsFrom hangs the spots that edges without a way round join below the
// least one of each group.
func parentsFrom(spots int, l []impl.Edge) []int {
	parents := alone(spots)
	for root, group := range groupsByWords(spots, l) {
		if root != group {
			continue
		}
		for _, at := range reachedByWords(l, root) {
			for _, near := range nearByWords(l, at) {
				if near != parents[at] {
					parents[near] = at
				}
			}
		}
	}
	return parents
}

// randomParents are good ones: each spot may hang below any that stands ahead of
// it in some order, or just below the last one.
func randomParents(r *rand.Rand) []int {
	order := r.Perm(1 + r.Intn(12))
	parents := alone(len(order))
	loose, long := r.Intn(4), r.Intn(3)
	for k := 1; k < len(order); k++ {
		switch {
		case r.Intn(8) < loose:
		case r.Intn(3) < long:
			parents[order[k]] = order[k-1]
		default:
			parents[order[k]] = order[r.Intn(k)]
		}
	}
	return parents
}

// damageParents changes one thing, which may stay good.
func damageParents(r *rand.Rand, parents []int) []int {
	l := slices.Clone(parents)
	at := r.Intn(len(l))
	switch r.Intn(6) {
	case 0:
		l[at] = placesBeside(len(l))[r.Intn(len(placesBeside(len(l))))]
	case 1:
		return l[:at]
	case 2:
		for len(l) < 13 {
			l = append(l, r.Intn(len(l)))
		}
	default:
		l[at] = r.Intn(len(l)+1) - 1
	}
	return l
}

func parentsThatAreNone() [][]int {
	all := [][]int{
		nil, {}, {0}, {1}, {-2}, {12}, alone(13), alone(14), chainUp(risingFrom(0, 13)...), chainUp(risingFrom(0, 40)...), append(chainUp(risingFrom(0, 12)...), 0),
		// One that is its own parent.
		{0, 0}, {0, -1}, {-1, 1}, {1, 1}, {-1, 0, 2}, {-1, 0, 1, 3}, {1, 2, 2}, {0, 0, 0},
		// Two, three and more lead round, with others below them and beside them.
		{1, 0}, {1, 0, -1}, {-1, 2, 1}, {2, -1, 0}, {1, 2, 1}, {1, 2, 0}, {2, 0, 1}, {1, 0, 0}, {1, 0, 3, 2}, {1, 2, 3, 0}, {3, 0, 1, 2}, {1, 2, 3, 1}, {3, 3, 3, 0},
		{1, 2, 3, 4, 5, 6, 7, 8, 9, 10, 11, 0}, {11, 0, 1, 2, 3, 4, 5, 6, 7, 8, 9, 10}, {1, 2, 3, 4, 5, 6, 7, 8, 9, 10, 11, 10}, {-1, 2, 3, 4, 5, 6, 7, 8, 9, 10, 11, 1},
	}
	for _, spots := range []int{1, 2, 3, 11, 12} {
		for _, n := range append(placesBeside(spots), math.MinInt+2, math.MaxInt-2) {
			if n == -1 {
				continue
			}
			for _, rest := range [][]int{alone(spots), chainUp(risingFrom(0, spots)...)} {
				for _, at := range []int{0, spots / 2, spots - 1} {
					wrong := slices.Clone(rest)
					wrong[at] = n
					all = append(all, wrong)
				}
			}
			all = append(all, slices.Repeat([]int{n}, spots))
		}
	}
	return all
}

func mustTree(t *testing.T, spots int, l []impl.Edge, root int) []int {
	t.Helper()
	parents, ok := impl.TreeAt(spots, l, root)
	if !ok || len(parents) != spots {
		t.Fatalf("TreeAt(%d, %v, %d) = %v, %v", spots, l, root, parents, ok)
	}
	return parents
}

func mustTrees(t *testing.T, spots int, l []impl.Edge, many int) [][]int {
	t.Helper()
	trees, ok := impl.TreesFor(spots, l, many)
	if !ok || len(trees) != many {
		t.Fatalf("TreesFor(%d, %v, %d) = %v, %v", spots, l, many, trees, ok)
	}
	return trees
}

func mustSpread(t *testing.T, parents []int, from int) []impl.Hop {
	t.Helper()
	g, ok := impl.SpreadOn(parents, from)
	if !ok {
		t.Fatalf("SpreadOn(%v, %d) is refused", parents, from)
	}
	return g
}

func mustOnTree(t *testing.T, parents []int, a int, b int) []int {
	t.Helper()
	way, ok := impl.OnTree(parents, a, b)
	if !ok || len(way) == 0 {
		t.Fatalf("OnTree(%v, %d, %d) = %v, %v", parents, a, b, way, ok)
	}
	return way
}

func mustComeFrom(t *testing.T, parents []int, from int, at int) int {
	t.Helper()
	by, ok := impl.ComesFrom(parents, from, at)
	if !ok {
		t.Fatalf("ComesFrom(%v, %d, %d) is refused", parents, from, at)
	}
	return by
}

func mustTreeCost(t *testing.T, spots int, l []impl.Edge, parents []int) int {
	t.Helper()
	cost, ok := impl.TreeCost(spots, l, parents)
	if !ok {
		t.Fatalf("TreeCost(%d, %v, %v) is refused", spots, l, parents)
	}
	return cost
}

func mustLeast(t *testing.T, spots int, l []impl.Edge) ([]impl.Edge, int) {
	t.Helper()
	tree, cost, ok := impl.LeastTree(spots, l)
	if !ok {
		t.Fatalf("LeastTree(%d, %v) is refused", spots, l)
	}
	return tree, cost
}

func cantTree(t *testing.T, spots int, l []impl.Edge, root int) {
	t.Helper()
	if parents, ok := impl.TreeAt(spots, l, root); ok || len(parents) != 0 {
		t.Fatalf("TreeAt(%d, %v, %d) = %v, %v", spots, l, root, parents, ok)
	}
}

func cantTrees(t *testing.T, spots int, l []impl.Edge, many int) {
	t.Helper()
	if trees, ok := impl.TreesFor(spots, l, many); ok || len(trees) != 0 {
		t.Fatalf("TreesFor(%d, %v, %d) = %v, %v", spots, l, many, trees, ok)
	}
}

func cantSpread(t *testing.T, parents []int, from int) {
	t.Helper()
	if g, ok := impl.SpreadOn(parents, from); ok || len(g) != 0 {
		t.Fatalf("SpreadOn(%v, %d) = %v, %v", parents, from, g, ok)
	}
}

func cantComeFrom(t *testing.T, parents []int, from int, at int) {
	t.Helper()
	if by, ok := impl.ComesFrom(parents, from, at); ok || by != 0 {
		t.Fatalf("ComesFrom(%v, %d, %d) = %d, %v", parents, from, at, by, ok)
	}
}

// cantPass asks both that go from one spot to another one.
func cantPass(t *testing.T, parents []int, a int, b int) {
	t.Helper()
	if way, ok := impl.OnTree(parents, a, b); ok || len(way) != 0 {
		t.Fatalf("OnTree(%v, %d, %d) = %v, %v", parents, a, b, way, ok)
	}
	cantComeFrom(t, parents, a, b)
}

func cantTreeCost(t *testing.T, spots int, l []impl.Edge, parents []int) {
	t.Helper()
	if cost, ok := impl.TreeCost(spots, l, parents); ok || cost != 0 {
		t.Fatalf("TreeCost(%d, %v, %v) = %d, %v", spots, l, parents, cost, ok)
	}
}

func cantLeast(t *testing.T, spots int, l []impl.Edge) {
	t.Helper()
	if tree, cost, ok := impl.LeastTree(spots, l); ok || len(tree) != 0 || cost != 0 {
		t.Fatalf("LeastTree(%d, %v) = %v, %d, %v", spots, l, tree, cost, ok)
	}
}

func wantHops(t *testing.T, told string, g []impl.Hop, w []impl.Hop) {
	t.Helper()
	if !slices.Equal(g, w) {
		t.Fatalf("%s: %v, not %v", told, g, w)
	}
}

// Promise 10, of one who sends.
func spreadIsAsSaid(t *testing.T, parents []int, from int) {
	t.Helper()
	all := mustSpread(t, parents, from)
	wantHops(t, "the hops of a frame", all, spreadByWords(parents, from))
	got := []int{from}
	for _, h := range all {
		if !slices.Contains(got, h.From) || slices.Contains(got, h.To) {
			t.Fatalf("SpreadOn(%v, %d) = %v: %v had it ahead of %v", parents, from, all, got, h)
		}
		if by := mustComeFrom(t, parents, from, h.To); by != h.From {
			t.Fatalf("SpreadOn(%v, %d) = %v: to %d it comes from %d", parents, from, all, h.To, by)
		}
		got = append(got, h.To)
	}
	for spot := range parents {
		if slices.Contains(got, spot) != (onTreeByWords(parents, from, spot) != nil) {
			t.Fatalf("SpreadOn(%v, %d) = %v: of the spots %v have it", parents, from, all, got)
		}
	}
}

// Promise 10, of two spots.
func passIsAsSaid(t *testing.T, parents []int, a int, b int) {
	t.Helper()
	want := onTreeByWords(parents, a, b)
	if want == nil {
		cantPass(t, parents, a, b)
		return
	}
	way := mustOnTree(t, parents, a, b)
	wantNums(t, "the way on the tree", way, want)
	if way[0] != a || way[len(way)-1] != b {
		t.Fatalf("OnTree(%v, %d, %d) = %v", parents, a, b, way)
	}
	for k, spot := range way {
		if slices.Contains(way[:k], spot) || k > 0 && parents[spot] != way[k-1] && parents[way[k-1]] != spot {
			t.Fatalf("OnTree(%v, %d, %d) = %v: at %d it goes wrong", parents, a, b, way, spot)
		}
	}
	back := mustOnTree(t, parents, b, a)
	slices.Reverse(back)
	wantNums(t, "the way back, turned round", back, way)
	if a == b {
		cantComeFrom(t, parents, a, b)
	} else if by := mustComeFrom(t, parents, a, b); by != way[len(way)-2] {
		t.Fatalf("ComesFrom(%v, %d, %d) = %d on %v", parents, a, b, by, way)
	}
}

// Promise 10, of good parents.
func parentsAreAsSaid(t *testing.T, parents []int) {
	t.Helper()
	if !impl.GoodParents(parents) {
		t.Fatalf("not good: %v", parents)
	}
	for from := range parents {
		spreadIsAsSaid(t, parents, from)
		for to := range parents {
			passIsAsSaid(t, parents, from, to)
		}
	}
}

// Promise 10, of one root: also, the ways on its tree are ways of least cost.
func treeIsAsSaid(t *testing.T, spots int, l []impl.Edge, root int) {
	t.Helper()
	parents := mustTree(t, spots, l, root)
	wantNums(t, "the tree of a root", parents, treeByWords(spots, l, root))
	if !impl.GoodParents(parents) || parents[root] != -1 {
		t.Fatalf("TreeAt(%d, %v, %d) = %v", spots, l, root, parents)
	}
	far, costs, all := mustFars(t, spots, l, root), costsByWords(l), 0
	for spot, parent := range parents {
		if (parent == -1) != (spot == root || far[spot] == impl.Far) {
			t.Fatalf("TreeAt(%d, %v, %d) = %v: they are %v far", spots, l, root, parents, far)
		}
		if parent == -1 {
			continue
		}
		all += costs[spot][parent]
		if far[parent]+costs[spot][parent] != far[spot] || mustCost(t, spots, l, mustOnTree(t, parents, root, spot)) != far[spot] {
			t.Fatalf("TreeAt(%d, %v, %d) = %v: they are %v far", spots, l, root, parents, far)
		}
	}
	if got := len(mustSpread(t, parents, root)) + 1; got != len(reachedByWords(l, root)) {
		t.Fatalf("TreeAt(%d, %v, %d) = %v: over that a frame comes to %d", spots, l, root, parents, got)
	}
	if cost := mustTreeCost(t, spots, l, parents); cost != all {
		t.Fatalf("TreeCost(%d, %v, %v) = %d, not %d", spots, l, parents, cost, all)
	}
}

// Promise 10, of all roots.
func treesAreAsSaid(t *testing.T, spots int, l []impl.Edge) {
	t.Helper()
	for root := range spots {
		treeIsAsSaid(t, spots, l, root)
	}
	for many := range spots + 1 {
		for root, parents := range mustTrees(t, spots, l, many) {
			wantNums(t, "the trees one by one", parents, treeByWords(spots, l, root))
		}
	}
}

// Promise 10, of the tree of least cost: an edge beside it costs no less than
// any on the way on the tree between its ends, so that no change makes it less.
func leastIsAsSaid(t *testing.T, spots int, l []impl.Edge) {
	t.Helper()
	tree, cost := mustLeast(t, spots, l)
	want, least := leastByWords(l)
	wantEdges(t, "the least tree", tree, want)
	if cost != least {
		t.Fatalf("LeastTree(%d, %v) = %v, %d, not %d", spots, l, tree, cost, least)
	}
	groups := groupsByWords(spots, l)
	wantNums(t, "the groups that it joins", mustGroups(t, spots, inOrder(slices.Clone(tree))), groups)
	if len(tree) != spots-groupsIn(groups) {
		t.Fatalf("LeastTree(%d, %v) = %v: of as many edges some lead round", spots, l, tree)
	}
	parents := parentsFrom(spots, tree)
	if all := mustTreeCost(t, spots, l, parents); all != cost {
		t.Fatalf("LeastTree(%d, %v) = %v, %d: by parents it costs %d", spots, l, tree, cost, all)
	}
	for _, e := range l {
		for from, to := range neighboursOn(mustOnTree(t, parents, e.A, e.B)) {
			if costsByWords(l)[from][to] > e.Cost {
				t.Fatalf("LeastTree(%d, %v) = %v: %v costs less than that from %d to %d", spots, l, tree, e, from, to)
			}
		}
	}
	for root := range spots {
		if over := mustTreeCost(t, spots, l, mustTree(t, spots, l, root)); groupsIn(groups) == 1 && over < cost {
			t.Fatalf("LeastTree(%d, %v) = %v, %d: the tree of %d costs %d", spots, l, tree, cost, root, over)
		}
	}
}

func neighboursOn(way []int) map[int]int {
	steps := map[int]int{}
	for k := 1; k < len(way); k++ {
		steps[way[k-1]] = way[k]
	}
	return steps
}

// Promise 10, of few edges: held against all choices of them.
func noChoiceCostsLess(t *testing.T, spots int, l []impl.Edge) {
	t.Helper()
	tree, least := mustLeast(t, spots, l)
	groups := groupsByWords(spots, l)
	for picked := range 1 << len(l) {
		var choice []impl.Edge
		cost := 0
		for k, e := range l {
			if picked>>k&1 == 1 {
				choice = append(choice, e)
				cost += e.Cost
			}
		}
		if cost < least && slices.Equal(groupsByWords(spots, choice), groups) {
			t.Fatalf("LeastTree(%d, %v) = %v, %d: %v cost %d", spots, l, tree, least, choice, cost)
		}
	}
}

func TestGoodParentsByHand(t *testing.T) {
	for _, parents := range [][]int{
		{-1}, {-1, -1}, {-1, 0}, {1, -1}, {-1, 0, 1}, {1, 2, -1}, {2, 0, -1}, {1, -1, 1}, {-1, 2, -1}, branches(),
		alone(11), alone(12), chainUp(risingFrom(0, 12)...), chainUp(11, 10, 9, 8, 7, 6, 5, 4, 3, 2, 1, 0), chainUp(0, 11, 1, 10, 2, 9, 3, 8, 4, 7, 5, 6),
		append(slices.Repeat([]int{11}, 11), -1), append([]int{-1}, slices.Repeat([]int{0}, 11)...), {1, -1, 3, -1, 5, -1, 7, -1, 9, -1, 11, -1},
	} {
		parentsAreAsSaid(t, parents)
	}
	for _, parents := range parentsThatAreNone() {
		if impl.GoodParents(parents) || goodParentsByWords(parents) {
			t.Errorf("good: %v", parents)
		}
	}
}

// Each list of up to five numbers about the spots. Of n spots (n+1)^(n-1) are good
// (Cayley).
func TestTreesOverAllSmallParents(t *testing.T) {
	for spots, want := range []int{0, 1, 3, 16, 125, 1296} {
		lists, good := 1, 0
		for range spots {
			lists *= spots + 3
		}
		for picked := range lists {
			parents := make([]int, spots)
			for k := range parents {
				parents[k] = picked%(spots+3) - 2
				picked /= spots + 3
			}
			if g := impl.GoodParents(parents); g != goodParentsByWords(parents) {
				t.Fatalf("GoodParents(%v) = %v", parents, g)
			} else if g {
				parentsAreAsSaid(t, parents)
				good++
			}
		}
		if good != want {
			t.Errorf("of %d spots %d parents are good, not %d", spots, good, want)
		}
	}
}

func TestTreesOverParentsByWords(t *testing.T) {
	r := rand.New(rand.NewSource(1001))
	one, long := 0, 0
	for range 1500 {
		parents := randomParents(r)
		parentsAreAsSaid(t, parents)
		if all := len(mustSpread(t, parents, 0)) + 1; all == len(parents) {
			one++
		}
		for spot := range parents {
			if len(upByWords(parents, spot)) > 6 {
				long++
			}
		}
	}
	if one < 200 || one > 1300 || long < 200 {
		t.Errorf("%d are one tree, %d spots lie deep", one, long)
	}
}

func TestTreeAtByHand(t *testing.T) {
	triangle := edges(edge(0, 1, 1), edge(0, 2, 4), edge(1, 2, 2))
	for _, c := range []struct {
		spots int
		l     []impl.Edge
		root  int
		want  []int
	}{
		{1, nil, 0, []int{-1}},
		{2, nil, 0, []int{-1, -1}},
		{2, nil, 1, []int{-1, -1}},
		{2, edges(edge(0, 1, 1)), 0, []int{-1, 0}},
		{2, edges(edge(0, 1, 100)), 1, []int{1, -1}},
		{3, triangle, 0, []int{-1, 0, 1}},
		{3, triangle, 1, []int{1, -1, 1}},
		{3, triangle, 2, []int{1, 2, -1}},
		// Over 0 and over 1 it costs the same: the lesser one, whose edge is the dearer.
		{3, edges(edge(0, 1, 1), edge(0, 2, 3), edge(1, 2, 2)), 0, []int{-1, 0, 0}},
		{4, edges(edge(0, 2, 9), edge(0, 3, 1), edge(1, 2, 5), edge(1, 3, 5)), 3, []int{3, 3, 0, -1}},
		// Likewise, the lesser one's edge being the cheaper, and both alike.
		{4, edges(edge(0, 2, 5), edge(0, 3, 5), edge(1, 2, 9), edge(1, 3, 1)), 3, []int{3, 3, 0, -1}},
		{4, edges(edge(0, 2, 5), edge(0, 3, 5), edge(1, 2, 5), edge(1, 3, 5)), 3, []int{3, 3, 0, -1}},
		// The way over the lesser one costs 1 more.
		{4, edges(edge(0, 2, 9), edge(0, 3, 2), edge(1, 2, 5), edge(1, 3, 5)), 3, []int{3, 3, 1, -1}},
		// The lesser one lies behind the spot, and not ahead of it.
		{4, edges(edge(0, 1, 1), edge(1, 2, 1), edge(2, 3, 1)), 3, []int{1, 2, 3, -1}},
		{6, diamond(), 0, []int{-1, 0, 0, 0, 1, 3}},
		{6, diamond(), 5, []int{1, 4, 4, 5, 5, -1}},
		{6, halves(), 0, []int{-1, 0, 1, -1, -1, -1}},
		{6, halves(), 2, []int{1, 2, -1, -1, -1, -1}},
		{6, halves(), 4, []int{-1, -1, -1, 4, -1, -1}},
		{6, halves(), 5, alone(6)},
		{12, nil, 11, alone(12)},
		{12, ringEdges(12), 0, []int{-1, 0, 1, 2, 3, 4, 5, 8, 9, 10, 11, 0}},
		{12, ringEdges(12), 7, []int{11, 0, 3, 4, 5, 6, 7, -1, 7, 8, 9, 10}},
		{12, chainEdges(100, risingFrom(0, 12)...), 0, risingFrom(-1, 12)},
		{12, chainEdges(1, risingFrom(0, 12)...), 11, append(risingFrom(1, 11), -1)},
	} {
		wantNums(t, "TreeAt", mustTree(t, c.spots, c.l, c.root), c.want)
		treesAreAsSaid(t, c.spots, c.l)
		leastIsAsSaid(t, c.spots, c.l)
	}
}

func TestTreesForByHand(t *testing.T) {
	for many := range 7 {
		want := [][]int{{-1, 0, 1, -1, -1, -1}, {1, -1, 1, -1, -1, -1}, {1, 2, -1, -1, -1, -1}, {-1, -1, -1, -1, 3, -1}, {-1, -1, -1, 4, -1, -1}, alone(6)}
		for root, parents := range mustTrees(t, 6, halves(), many) {
			wantNums(t, "TreesFor", parents, want[root])
		}
	}
	for spots := 1; spots <= 12; spots++ {
		for _, l := range [][]impl.Edge{nil, chainEdges(5, risingFrom(0, spots)...), edgesFrom(spots, 0, min(40, len(allTwos(spots))))} {
			for _, many := range placesBeside(spots) {
				if many != spots {
					cantTrees(t, spots, l, many)
				}
			}
			mustTrees(t, spots, l, 0)
			mustTrees(t, spots, l, spots)
		}
	}
}

func TestSpreadOnByHand(t *testing.T) {
	two := []int{-1, 0, 0, 1, 1, 2}
	for _, c := range []struct {
		parents []int
		from    int
		want    []impl.Hop
	}{
		{[]int{-1}, 0, nil},
		{alone(12), 11, nil},
		{[]int{-1, 0}, 0, hops(hop(0, 1))},
		{[]int{-1, 0}, 1, hops(hop(1, 0))},
		{[]int{1, -1}, 0, hops(hop(0, 1))},
		// First all that one spot sends, then all that the next one does.
		{two, 0, hops(hop(0, 1), hop(0, 2), hop(1, 3), hop(1, 4), hop(2, 5))},
		{two, 1, hops(hop(1, 0), hop(1, 3), hop(1, 4), hop(0, 2), hop(2, 5))},
		{two, 2, hops(hop(2, 0), hop(2, 5), hop(0, 1), hop(1, 3), hop(1, 4))},
		{two, 3, hops(hop(3, 1), hop(1, 0), hop(1, 4), hop(0, 2), hop(2, 5))},
		{two, 5, hops(hop(5, 2), hop(2, 0), hop(0, 1), hop(1, 3), hop(1, 4))},
		// A parent that is greater than those below stands among them by its number.
		{[]int{3, 3, 3, -1, 2}, 2, hops(hop(2, 3), hop(2, 4), hop(3, 0), hop(3, 1))},
		{[]int{3, 3, 3, -1, 2}, 4, hops(hop(4, 2), hop(2, 3), hop(3, 0), hop(3, 1))},
		{[]int{4, 0, 0, -1, 3, 0}, 0, hops(hop(0, 1), hop(0, 2), hop(0, 4), hop(0, 5), hop(4, 3))},
		// 9 sends ahead of 2, as it got it ahead.
		{branches(), 5, hops(hop(5, 1), hop(5, 4), hop(1, 9), hop(4, 2), hop(9, 3), hop(2, 0))},
		{branches(), 0, hops(hop(0, 2), hop(2, 4), hop(4, 5), hop(5, 1), hop(1, 9), hop(9, 3))},
		{branches(), 6, nil},
		{[]int{-1, 0, -1, 2}, 1, hops(hop(1, 0))},
		{[]int{-1, 0, -1, 2}, 2, hops(hop(2, 3))},
		{[]int{1, 2, -1, 2}, 3, hops(hop(3, 2), hop(2, 1), hop(1, 0))},
	} {
		wantHops(t, "SpreadOn", mustSpread(t, c.parents, c.from), c.want)
		parentsAreAsSaid(t, c.parents)
	}
}

func TestTreesOverAChain(t *testing.T) {
	r := rand.New(rand.NewSource(1002))
	for range 40 {
		order := r.Perm(12)
		parents := chainUp(order...)
		parentsAreAsSaid(t, parents)
		wantNums(t, "up all of it", mustOnTree(t, parents, order[0], order[11]), order)
		var up []impl.Hop
		for k := 1; k < 12; k++ {
			up = append(up, hop(order[k-1], order[k]))
		}
		wantHops(t, "up all of it", mustSpread(t, parents, order[0]), up)
		if by := mustComeFrom(t, parents, order[0], order[11]); by != order[10] {
			t.Errorf("to the end of %v it comes from %d", order, by)
		}
		l := chainEdges(100, order...)
		wantNums(t, "the tree of its end", mustTree(t, 12, l, order[11]), parents)
		if cost := mustTreeCost(t, 12, l, parents); cost != 1100 {
			t.Errorf("TreeCost(12, %v, %v) = %d", l, parents, cost)
		}
		tree, cost := mustLeast(t, 12, l)
		wantEdges(t, "the least tree", tree, l)
		if cost != 1100 {
			t.Errorf("LeastTree(12, %v) costs %d", l, cost)
		}
		treesAreAsSaid(t, 12, l)
	}
}

func TestOnTreeByHand(t *testing.T) {
	two := []int{-1, 0, 0, 1, 1, 2}
	for _, c := range []struct {
		parents []int
		want    []int
	}{
		{[]int{-1}, []int{0}},
		{alone(12), []int{0}},
		{alone(12), []int{11}},
		{two, []int{4}},
		{two, []int{0, 1}},
		{two, []int{1, 0}},
		{two, []int{3, 1, 0}},
		{two, []int{3, 1, 4}},
		{two, []int{3, 1, 0, 2, 5}},
		{two, []int{5, 2, 0, 1, 3}},
		{two, []int{1, 0, 2}},
		{branches(), []int{0, 2, 4, 5, 1, 9, 3}},
		{branches(), []int{3, 9, 1, 5, 4, 2, 0}},
		{branches(), []int{9, 1, 5, 4}},
		{branches(), []int{7}},
		{[]int{3, 3, 3, -1, 2}, []int{4, 2, 3, 0}},
		{chainUp(risingFrom(0, 12)...), risingFrom(0, 12)},
	} {
		wantNums(t, "OnTree", mustOnTree(t, c.parents, c.want[0], c.want[len(c.want)-1]), c.want)
		parentsAreAsSaid(t, c.parents)
	}
	// Of two trees, and of one spot.
	for _, other := range []int{6, 7, 8} {
		cantPass(t, branches(), 5, other)
		cantPass(t, branches(), other, 0)
		cantComeFrom(t, branches(), other, other)
	}
	cantPass(t, []int{-1, -1}, 0, 1)
	cantPass(t, []int{-1, 0, -1, 2}, 1, 3)
	cantPass(t, []int{-1, 0, -1, 2}, 3, 0)
	cantPass(t, []int{-1, 0, -1, 2}, 0, 2)
	cantComeFrom(t, []int{-1}, 0, 0)
}

func TestComesFromByHand(t *testing.T) {
	for _, c := range []struct{ from, at, want int }{
		{0, 3, 9}, {3, 0, 2}, {0, 2, 0}, {2, 0, 2}, {5, 9, 1}, {9, 5, 1}, {1, 4, 5}, {4, 1, 5}, {0, 5, 4}, {3, 5, 1}, {0, 1, 5},
	} {
		if by := mustComeFrom(t, branches(), c.from, c.at); by != c.want {
			t.Errorf("from %d it comes to %d over %d, not %d", c.from, c.at, by, c.want)
		}
	}
}

func TestSpotsOnTreesThatAreNone(t *testing.T) {
	r := rand.New(rand.NewSource(1003))
	for spots := 1; spots <= 12; spots++ {
		for _, parents := range [][]int{alone(spots), chainUp(risingFrom(0, spots)...), chainUp(r.Perm(spots)...)} {
			for _, n := range placesBeside(spots) {
				cantSpread(t, parents, n)
				cantPass(t, parents, n, n)
				for spot := range spots {
					cantPass(t, parents, n, spot)
					cantPass(t, parents, spot, n)
				}
				for _, other := range placesBeside(spots) {
					cantPass(t, parents, n, other)
				}
			}
			parentsAreAsSaid(t, parents)
		}
	}
}

func TestRootsThatAreNone(t *testing.T) {
	for spots := 1; spots <= 12; spots++ {
		for _, l := range [][]impl.Edge{nil, chainEdges(5, risingFrom(0, spots)...), edgesFrom(spots, 0, min(40, len(allTwos(spots))))} {
			for _, root := range placesBeside(spots) {
				cantTree(t, spots, l, root)
			}
			treesAreAsSaid(t, spots, l)
		}
	}
}

func TestTreeCostByHand(t *testing.T) {
	triangle := edges(edge(0, 1, 1), edge(0, 2, 4), edge(1, 2, 2))
	for _, c := range []struct {
		spots   int
		l       []impl.Edge
		parents []int
		want    int
	}{
		{1, nil, []int{-1}, 0},
		{12, nil, alone(12), 0},
		{12, ringEdges(12), alone(12), 0},
		{3, triangle, []int{-1, 0, 1}, 3},
		{3, triangle, []int{-1, 0, 0}, 5},
		{3, triangle, []int{1, 2, -1}, 3},
		{3, triangle, []int{2, 0, -1}, 5},
		{3, triangle, []int{-1, 2, 0}, 6},
		{3, triangle, []int{-1, -1, 0}, 4},
		{3, triangle, []int{-1, 2, -1}, 2},
		{2, edges(edge(0, 1, 100)), []int{1, -1}, 100},
		{3, edges(edge(0, 1, 7)), []int{-1, 0, -1}, 7},
		{6, halves(), []int{-1, 0, 1, -1, 3, -1}, 9},
		{12, ringEdges(12), chainUp(risingFrom(0, 12)...), 11},
		{12, edgesFrom(12, 0, 40), append([]int{-1}, slices.Repeat([]int{0}, 11)...), 66},
	} {
		if cost := mustTreeCost(t, c.spots, c.l, c.parents); cost != c.want {
			t.Errorf("TreeCost(%d, %v, %v) = %d, not %d", c.spots, c.l, c.parents, cost, c.want)
		}
	}
	// No edge joins one of them with its parent.
	cantTreeCost(t, 2, nil, []int{-1, 0})
	cantTreeCost(t, 3, edges(edge(0, 1, 7)), []int{-1, 0, 1})
	cantTreeCost(t, 3, edges(edge(0, 1, 7)), []int{2, 0, -1})
	cantTreeCost(t, 3, edges(edge(0, 1, 7)), []int{-1, 0, 0})
	cantTreeCost(t, 6, halves(), []int{-1, 0, 1, 2, 3, -1})
	cantTreeCost(t, 12, ringEdges(12)[2:], chainUp(risingFrom(0, 12)...))
}

func TestTreeCostOfTooFewOrTooMany(t *testing.T) {
	for spots := 1; spots <= 12; spots++ {
		for _, l := range [][]impl.Edge{nil, chainEdges(5, risingFrom(0, spots)...)} {
			for many := range 14 {
				if many != spots {
					cantTreeCost(t, spots, l, alone(many))
					cantTreeCost(t, spots, l, alone(14)[:many])
				}
				if many > 0 && many < spots {
					cantTreeCost(t, spots, l, chainUp(risingFrom(0, many)...))
				}
			}
			for _, wrong := range parentsThatAreNone() {
				cantTreeCost(t, spots, l, wrong)
			}
			if cost := mustTreeCost(t, spots, l, alone(spots)); cost != 0 {
				t.Errorf("no edge costs %d", cost)
			}
		}
	}
}

// Parents and edges of which now and then one is not there.
func TestTreeCostByWords(t *testing.T) {
	r := rand.New(rand.NewSource(1004))
	good := 0
	for range 6000 {
		parents := randomParents(r)
		var l []impl.Edge
		for spot, parent := range parents {
			if parent >= 0 && r.Intn(12) > 0 {
				l = append(l, edge(min(spot, parent), max(spot, parent), 1+r.Intn(100)))
			}
		}
		for _, two := range allTwos(len(parents)) {
			isNew := !slices.Contains(nearByWords(l, two[0]), two[1])
			if isNew && len(l) < 40 && r.Intn(8) == 0 && parents[two[0]] != two[1] && parents[two[1]] != two[0] {
				l = append(l, edge(two[0], two[1], 1+r.Intn(100)))
			}
		}
		inOrder(l)
		if want, ok := treeCostByWords(len(parents), l, parents); !ok {
			cantTreeCost(t, len(parents), l, parents)
		} else if cost := mustTreeCost(t, len(parents), l, parents); cost != want {
			t.Fatalf("TreeCost(%d, %v, %v) = %d, not %d", len(parents), l, parents, cost, want)
		} else {
			good++
		}
	}
	if good < 1000 || good > 5000 {
		t.Errorf("%d are there: too few of one sort", good)
	}
}

func TestLeastTreeByHand(t *testing.T) {
	for _, c := range []struct {
		spots int
		l     []impl.Edge
		want  []impl.Edge
		cost  int
	}{
		{1, nil, nil, 0},
		{12, nil, nil, 0},
		{2, edges(edge(0, 1, 100)), edges(edge(0, 1, 100)), 100},
		{3, edges(edge(0, 1, 1), edge(0, 2, 4), edge(1, 2, 2)), edges(edge(0, 1, 1), edge(1, 2, 2)), 3},
		// They stand by Cost, not in the order of the list.
		{3, edges(edge(0, 1, 9), edge(0, 2, 1), edge(1, 2, 5)), edges(edge(0, 2, 1), edge(1, 2, 5)), 6},
		{3, edges(edge(0, 1, 9), edge(0, 2, 5)), edges(edge(0, 2, 5), edge(0, 1, 9)), 14},
		{4, edges(edge(0, 1, 3), edge(1, 2, 2), edge(2, 3, 1)), edges(edge(2, 3, 1), edge(1, 2, 2), edge(0, 1, 3)), 6},
		// Of alike ones the first.
		{3, ringEdges(3), edges(edge(0, 1, 1), edge(0, 2, 1)), 2},
		{4, edges(edge(0, 1, 7), edge(0, 2, 7), edge(0, 3, 7), edge(1, 2, 7), edge(1, 3, 7), edge(2, 3, 7)), edges(edge(0, 1, 7), edge(0, 2, 7), edge(0, 3, 7)), 21},
		{4, edges(edge(0, 1, 7), edge(0, 2, 3), edge(0, 3, 7), edge(1, 2, 7), edge(1, 3, 3), edge(2, 3, 7)), edges(edge(0, 2, 3), edge(1, 3, 3), edge(0, 1, 7)), 13},
		{12, ringEdges(12), ringEdges(12)[:11], 11},
		{12, ringEdges(11), ringEdges(11)[:10], 10},
		{4, edgesFrom(4, 0, 6), edgesFrom(4, 0, 3), 6},
		// Not all are joined.
		{6, halves(), halves(), 9},
		{5, edges(edge(0, 4, 2), edge(1, 2, 1), edge(1, 3, 1), edge(2, 3, 1)), edges(edge(1, 2, 1), edge(1, 3, 1), edge(0, 4, 2)), 4},
		// Groups come together late, at the dearest of all.
		{6, edges(edge(0, 1, 1), edge(0, 5, 10), edge(1, 2, 9), edge(2, 3, 1), edge(3, 4, 8), edge(4, 5, 1)), edges(edge(0, 1, 1), edge(2, 3, 1), edge(4, 5, 1), edge(3, 4, 8), edge(1, 2, 9)), 20},
		{6, edges(edge(0, 2, 1), edge(0, 4, 1), edge(1, 3, 1), edge(1, 5, 1), edge(2, 3, 100), edge(4, 5, 99)), edges(edge(0, 2, 1), edge(0, 4, 1), edge(1, 3, 1), edge(1, 5, 1), edge(4, 5, 99)), 103},
		{6, diamond(), edges(edge(0, 2, 1), edge(4, 5, 1), edge(0, 1, 2), edge(1, 4, 2), edge(3, 5, 2)), 8},
		{12, edgesFrom(12, 0, 40), edgesFrom(12, 0, 11), 66},
	} {
		tree, cost := mustLeast(t, c.spots, c.l)
		wantEdges(t, "LeastTree", tree, c.want)
		if cost != c.cost {
			t.Errorf("LeastTree(%d, %v) costs %d, not %d", c.spots, c.l, cost, c.cost)
		}
		leastIsAsSaid(t, c.spots, c.l)
		treesAreAsSaid(t, c.spots, c.l)
		if len(c.l) < 13 {
			noChoiceCostsLess(t, c.spots, c.l)
		}
	}
}

func TestTreesOfAllSmallGraphs(t *testing.T) {
	all := smallGraphs()
	for _, g := range all {
		treesAreAsSaid(t, g.spots, g.l)
		leastIsAsSaid(t, g.spots, g.l)
		noChoiceCostsLess(t, g.spots, g.l)
	}
	if len(all) != 1+4+64+4096 {
		t.Errorf("%d graphs", len(all))
	}
}

// Costs of which some are alike, rising, falling, and neither.
func TestLeastTreeOfAllGraphsOfFive(t *testing.T) {
	for _, costs := range [][]int{{1, 1, 1, 2, 2, 2, 3, 3, 3, 4}, {10, 9, 8, 7, 6, 5, 4, 3, 2, 1}, {1, 4, 3, 2, 1, 4, 3, 2, 1, 4}} {
		for _, l := range graphsOf(5, func(k int, _ [2]int) int { return costs[k] }) {
			leastIsAsSaid(t, 5, l)
			noChoiceCostsLess(t, 5, l)
		}
	}
}

func TestTreesByWords(t *testing.T) {
	r := rand.New(rand.NewSource(1005))
	one := 0
	for range 2000 {
		spots, l := randomGraph(r)
		treesAreAsSaid(t, spots, l)
		leastIsAsSaid(t, spots, l)
		parentsAreAsSaid(t, mustTree(t, spots, l, r.Intn(spots)))
		if len(l) < 11 {
			noChoiceCostsLess(t, spots, l)
		}
		if mustOne(t, spots, l) {
			one++
		}
	}
	if one < 200 || one > 1800 {
		t.Errorf("%d are one group: too few of one sort", one)
	}
}

// refusesTrees asks each function of edges for edges, or spots, that are not as said.
func refusesTrees(t *testing.T, spots int, l []impl.Edge) {
	t.Helper()
	for _, n := range []int{math.MinInt, -1, 0, 1, 2, 3, 11, 12, 13, spots - 1, spots, math.MaxInt} {
		cantTree(t, spots, l, n)
		cantTrees(t, spots, l, n)
	}
	for _, many := range []int{1, 2, 3, 4, 11, 12, 13, 14, 66} {
		cantTreeCost(t, spots, l, alone(many))
		cantTreeCost(t, spots, l, chainUp(risingFrom(0, many)...))
	}
	cantTreeCost(t, spots, l, nil)
	cantLeast(t, spots, l)
}

// refusesParents asks each function of parents for such as are not good.
func refusesParents(t *testing.T, parents []int) {
	t.Helper()
	if impl.GoodParents(parents) {
		t.Fatalf("good: %v", parents)
	}
	for _, n := range []int{math.MinInt, -1, 0, 1, 2, 11, 12, len(parents) - 1, len(parents), math.MaxInt} {
		cantSpread(t, parents, n)
		for _, other := range []int{math.MinInt, -1, 0, 1, 2, 11, 12, len(parents) - 1, len(parents), math.MaxInt} {
			cantPass(t, parents, n, other)
		}
	}
	for _, spots := range []int{math.MinInt, -1, 0, 1, 2, 3, 4, 11, 12, 13, len(parents), math.MaxInt} {
		cantTreeCost(t, spots, nil, parents)
		cantTreeCost(t, spots, ringEdges(3), parents)
		cantTreeCost(t, spots, edgesFrom(12, 0, 40), parents)
	}
}

func TestTreesOfEdgesThatAreNone(t *testing.T) {
	overWrongEdges(t, refusesTrees)
}

func TestTreesOfDamagedEdges(t *testing.T) {
	overDamagedEdges(t, 1006, leastIsAsSaid, refusesTrees)
}

func TestTreesOfParentsThatAreNone(t *testing.T) {
	for _, made := range parentsThatAreNone() {
		parents := behind(made)
		refusesParents(t, parents)
		wantNumsKept(t, parents, made)
	}
}

func TestTreesOfDamagedParents(t *testing.T) {
	r := rand.New(rand.NewSource(1007))
	good := 0
	for range 5000 {
		made := damageParents(r, randomParents(r))
		parents := behind(made)
		if goodParentsByWords(made) {
			spreadIsAsSaid(t, parents, r.Intn(len(parents)))
			good++
		} else {
			refusesParents(t, parents)
		}
		wantNumsKept(t, parents, made)
	}
	if good < 500 || good > 4500 {
		t.Errorf("%d are good: too few of one sort", good)
	}
}

func scribbleHops(l []impl.Hop) {
	l = l[:cap(l)]
	for k := range l {
		l[k] = hop(-5, -5)
	}
}

func TestTreeAnswersAreNewMemory(t *testing.T) {
	r := rand.New(rand.NewSource(1008))
	for range 200 {
		spots, made := randomGraph(r)
		l := edgesBehind(made)
		for range 2 {
			treesAreAsSaid(t, spots, l)
			leastIsAsSaid(t, spots, l)
			scribbleNums(mustTree(t, spots, l, r.Intn(spots)))
			tree, _ := mustLeast(t, spots, l)
			scribbleEdges(tree)
			trees := mustTrees(t, spots, l, spots)
			for root, parents := range trees {
				wantNums(t, "a tree when those ahead are written into", parents, treeByWords(spots, l, root))
				scribbleNums(parents)
			}
		}
		wantEdgesKept(t, l, made)
	}
}

// A tree that costs the least may be all edges: it comes back in memory of its own.
func TestLeastTreeOfATreeIsNewMemory(t *testing.T) {
	r := rand.New(rand.NewSource(1009))
	for range 200 {
		made := chainEdges(7, r.Perm(12)...)
		l := edgesBehind(made)
		for range 2 {
			tree, _ := mustLeast(t, 12, l)
			wantEdges(t, "the least tree", tree, made)
			scribbleEdges(tree)
			wantEdgesKept(t, l, made)
		}
	}
}

func TestTreeAnswersOfParentsAreNewMemory(t *testing.T) {
	r := rand.New(rand.NewSource(1010))
	for range 300 {
		made := randomParents(r)
		parents := behind(made)
		l := ringEdges(12)
		for range 2 {
			parentsAreAsSaid(t, parents)
			impl.TreeCost(len(parents), l, parents)
			for from := range parents {
				scribbleHops(mustSpread(t, parents, from))
				scribbleNums(mustOnTree(t, parents, from, from))
				for to := range parents {
					way, _ := impl.OnTree(parents, from, to)
					scribbleNums(way)
				}
			}
		}
		wantNumsKept(t, parents, made)
		wantEdges(t, "what was given", l, ringEdges(12))
	}
}

// Spots that lie behind a list are no part of it.
func TestTreesReadNothingBehindAList(t *testing.T) {
	memory := risingFrom(-1, 13)
	if impl.GoodParents(memory) || impl.GoodParents(memory[:0]) {
		t.Error("thirteen or none are good")
	}
	for many := 1; many <= 12; many++ {
		parents := memory[:many]
		parentsAreAsSaid(t, parents)
		cantSpread(t, parents, many)
		cantPass(t, parents, 0, many)
		cantTreeCost(t, 12-many, ringEdges(12), parents)
		if got := len(mustSpread(t, parents, 0)); got != many-1 {
			t.Errorf("of %d it comes to %d others", many, got)
		}
	}
	round := []int{-1, 0, 1, 4, 3}
	parentsAreAsSaid(t, round[:3])
	refusesParents(t, round[:4])
	refusesParents(t, round)
	wantNums(t, "what was given", memory, risingFrom(-1, 13))
}

func TestEmptyAndNilListsOfTrees(t *testing.T) {
	three := ringEdges(3)
	for spots := 1; spots <= 12; spots++ {
		for _, none := range [][]impl.Edge{nil, {}, three[:0], three[3:]} {
			treesAreAsSaid(t, spots, none)
			leastIsAsSaid(t, spots, none)
			wantNums(t, "TreeAt", mustTree(t, spots, none, spots-1), alone(spots))
			if tree, cost := mustLeast(t, spots, none); len(tree) != 0 || cost != 0 {
				t.Errorf("LeastTree(%d, none) = %v, %d", spots, tree, cost)
			}
			for _, nobody := range [][]int{nil, {}, alone(3)[:0]} {
				cantTreeCost(t, spots, none, nobody)
			}
		}
	}
	for _, nobody := range [][]int{nil, {}, alone(3)[:0]} {
		refusesParents(t, nobody)
	}
	wantEdges(t, "what was given", three, ringEdges(3))
}
