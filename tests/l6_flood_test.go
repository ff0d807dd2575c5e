package tests

import (
	"math"
	"math/rand"
	"slices"
	"testing"

	"loop.example/g00575/impl"
)

func flSay(node int) impl.FloodStep  { return impl.FloodStep{Kind: impl.FlSay, Node: node} }
func flSend(node int) impl.FloodStep { return impl.FloodStep{Kind: impl.FlSend, Node: node} }
func flLose(k int) impl.FloodStep    { return impl.FloodStep{Kind: impl.FlLose, K: k} }
func flTake(k int) impl.FloodStep    { return impl.FloodStep{Kind: impl.FlTake, K: k} }

func flSteps(l ...impl.FloodStep) []impl.FloodStep { return l }

func entry(to int, by int, from int, seq int) impl.Letter {
	return impl.Letter{To: to, By: by, What: impl.Entry{From: from, Seq: seq}}
}

func ackOf(to int, by int, from int, seq int) impl.Letter {
	return impl.Letter{To: to, By: by, What: impl.Entry{From: from, Seq: seq}, Ack: true}
}

func letters(many int, x impl.Letter) []impl.Letter {
	return slices.Repeat([]impl.Letter{x}, many)
}

func rows(l ...[]int) [][]int { return l }

func noughts(many int, long int) [][]int {
	var l [][]int
	for range many {
		l = append(l, make([]int, long))
	}
	return l
}

// sameFlood takes the empty list and the nil list for the same.
func sameFlood(a impl.Flood, b impl.Flood) bool {
	return sameSees(a.Links, b.Links) && sameSees(a.Known, b.Known) && sameSees(a.Owes, b.Owes) && slices.Equal(a.Line, b.Line)
}

func isZeroFlood(f impl.Flood) bool {
	return sameFlood(f, impl.Flood{})
}

func copyOfFlood(f impl.Flood) impl.Flood {
	return impl.Flood{Links: copyOfSees(f.Links), Known: copyOfSees(f.Known), Owes: copyOfSees(f.Owes), Line: slices.Clone(f.Line)}
}

func wantFlood(t *testing.T, told string, g impl.Flood, w impl.Flood) {
	t.Helper()
	if !sameFlood(g, w) {
		t.Fatalf("%s:\n%v, not\n%v", told, g, w)
	}
}

func mustNewFlood(t *testing.T, nodes int, links [][]int) impl.Flood {
	t.Helper()
	f, ok := impl.NewFlood(nodes, links)
	if !ok {
		t.Fatalf("NewFlood(%d, %v) is refused", nodes, links)
	}
	return f
}

func mustStepFlood(t *testing.T, f impl.Flood, s impl.FloodStep) impl.Flood {
	t.Helper()
	g, ok := impl.StepFlood(f, s)
	if !ok {
		t.Fatalf("%v at %v can't be done", f, s)
	}
	if !impl.GoodFlood(g) {
		t.Fatalf("%v at %v makes %v, which is not good", f, s, g)
	}
	return g
}

func cantStepFlood(t *testing.T, f impl.Flood, s impl.FloodStep) {
	t.Helper()
	if g, ok := impl.StepFlood(f, s); ok || !isZeroFlood(g) {
		t.Fatalf("%v at %v: %v, %v", f, s, g, ok)
	}
}

func mustOwed(t *testing.T, f impl.Flood) int {
	t.Helper()
	owed, ok := impl.OwedIn(f)
	if !ok {
		t.Fatalf("OwedIn(%v) is refused", f)
	}
	return owed
}

func mustAllSame(t *testing.T, f impl.Flood) bool {
	t.Helper()
	same, ok := impl.AllSame(f)
	if !ok {
		t.Fatalf("AllSame(%v) is refused", f)
	}
	return same
}

func mustSettle(t *testing.T, f impl.Flood) (impl.Flood, int) {
	t.Helper()
	g, times, ok := impl.SettleFlood(f)
	if !ok {
		t.Fatalf("SettleFlood(%v) is refused", f)
	}
	if !impl.GoodFlood(g) {
		t.Fatalf("SettleFlood(%v) makes %v, which is not good", f, g)
	}
	return g, times
}

// goodFloodByWords is the document's sentences on floods, word by word.
func goodFloodByWords(f impl.Flood) bool {
	nodes := len(f.Known)
	if nodes < 1 || nodes > 6 || len(f.Links) > 15 || len(f.Line) > 40 {
		return false
	}
	within := func(n int, low int, top int) bool { return low <= n && n <= top }
	joined := map[[2]int]bool{}
	last := -1
	for _, l := range f.Links {
		if len(l) != 2 || !within(l[0], 0, nodes-1) || !within(l[1], 0, nodes-1) || l[1] <= l[0] {
			return false
		}
		if place := l[0]*100 + l[1]; place > last {
			last = place
		} else {
			return false
		}
		joined[[2]int{l[0], l[1]}], joined[[2]int{l[1], l[0]}] = true, true
	}
	rowsAre := func(l [][]int, many int, top int) bool {
		return len(l) == many && !slices.ContainsFunc(l, func(row []int) bool {
			return len(row) != nodes || slices.ContainsFunc(row, func(n int) bool { return !within(n, 0, top) })
		})
	}
	if !rowsAre(f.Known, nodes, 60) || !rowsAre(f.Owes, len(joined), 1) {
		return false
	}
	return !slices.ContainsFunc(f.Line, func(x impl.Letter) bool {
		return !joined[[2]int{x.To, x.By}] || !within(x.What.From, 0, nodes-1) || !within(x.What.Seq, 1, 60)
	})
}

// A wordFlood holds a good flood by names instead of places: what each knows of
// each, and what each owes to each of each.
type wordFlood struct {
	links [][]int
	near  [][]int
	known map[[2]int]int
	owes  map[[3]int]int
	line  []impl.Letter
}

func wordsOf(f impl.Flood) wordFlood {
	w := wordFlood{copyOfSees(f.Links), make([][]int, len(f.Known)), map[[2]int]int{}, map[[3]int]int{}, slices.Clone(f.Line)}
	for _, l := range f.Links {
		w.near[l[0]] = append(w.near[l[0]], l[1])
		w.near[l[1]] = append(w.near[l[1]], l[0])
	}
	k := 0
	for a := range w.near {
		slices.Sort(w.near[a])
		for of, seq := range f.Known[a] {
			w.known[[2]int{a, of}] = seq
		}
		for _, b := range w.near[a] {
			for of, owed := range f.Owes[k] {
				w.owes[[3]int{a, b, of}] = owed
			}
			k++
		}
	}
	return w
}

func (w wordFlood) flood() impl.Flood {
	f := impl.Flood{Links: copyOfSees(w.links), Known: noughts(len(w.near), len(w.near)), Line: slices.Clone(w.line)}
	for a, near := range w.near {
		for of := range w.near {
			f.Known[a][of] = w.known[[2]int{a, of}]
		}
		for _, b := range near {
			row := make([]int, len(w.near))
			for of := range row {
				row[of] = w.owes[[3]int{a, b, of}]
			}
			f.Owes = append(f.Owes, row)
		}
	}
	return f
}

// take has letter k leave the line and be heard, as the document tells it.
func (w *wordFlood) take(k int) {
	x := w.line[k]
	w.line = slices.Delete(w.line, k, k+1)
	seq, known, owed := x.What.Seq, [2]int{x.To, x.What.From}, [3]int{x.To, x.By, x.What.From}
	if x.Ack {
		if w.known[known] == seq {
			w.owes[owed] = 0
		}
		return
	}
	switch {
	case w.known[known] < seq:
		w.known[known] = seq
		for _, b := range w.near[x.To] {
			if b != x.By {
				w.owes[[3]int{x.To, b, x.What.From}] = 1
			}
		}
		w.owes[owed] = 0
	case w.known[known] == seq:
		w.owes[owed] = 0
	default:
		w.owes[owed] = 1
	}
	if len(w.line) < 40 {
		w.line = append(w.line, ackOf(x.By, x.To, x.What.From, seq))
	}
}

func (w *wordFlood) send(node int) {
	for _, b := range w.near[node] {
		for of := range w.near {
			if w.owes[[3]int{node, b, of}] == 1 && w.known[[2]int{node, of}] != 0 && len(w.line) < 40 {
				w.line = append(w.line, entry(b, node, of, w.known[[2]int{node, of}]))
			}
		}
	}
}

// floodStepByWords does a step of a good flood as the document tells it; where
// nothing can be done it gives the flood as it was.
func floodStepByWords(f impl.Flood, s impl.FloodStep) (impl.Flood, bool) {
	w := wordsOf(f)
	isNode := 0 <= s.Node && s.Node < len(w.near)
	isOnLine := 0 <= s.K && s.K < len(w.line)
	switch {
	case s.Kind == 1 && s.K == 0 && isNode && w.known[[2]int{s.Node, s.Node}] != 60:
		w.known[[2]int{s.Node, s.Node}]++
		for _, b := range w.near[s.Node] {
			w.owes[[3]int{s.Node, b, s.Node}] = 1
		}
	case s.Kind == 2 && s.K == 0 && isNode:
		w.send(s.Node)
	case s.Kind == 3 && s.Node == 0 && isOnLine:
		w.line = slices.Delete(w.line, s.K, s.K+1)
	case s.Kind == 4 && s.Node == 0 && isOnLine:
		w.take(s.K)
	default:
		return f, false
	}
	return w.flood(), true
}

func (w *wordFlood) firstOwed() ([3]int, bool) {
	for a, near := range w.near {
		for _, b := range near {
			for of := range w.near {
				if w.owes[[3]int{a, b, of}] == 1 {
					return [3]int{a, b, of}, true
				}
			}
		}
	}
	return [3]int{}, false
}

func settleFloodByWords(f impl.Flood) (impl.Flood, int) {
	w := wordsOf(f)
	for times := 0; ; times++ {
		owed, is := w.firstOwed()
		if !is {
			return w.flood(), times
		}
		if seq := w.known[[2]int{owed[0], owed[2]}]; seq == 0 {
			w.owes[owed] = 0
		} else {
			w.line = []impl.Letter{entry(owed[1], owed[0], owed[2], seq)}
			w.take(0)
			w.take(0)
		}
	}
}

// allSameByWords asks for each two nodes that links lead to one another.
func allSameByWords(f impl.Flood) bool {
	nodes := len(f.Known)
	var leads [6][6]bool
	for _, l := range f.Links {
		leads[l[0]][l[1]], leads[l[1]][l[0]] = true, true
	}
	for over := range nodes {
		for a := range nodes {
			for b := range nodes {
				leads[a][b] = leads[a][b] || leads[a][over] && leads[over][b]
			}
		}
	}
	for a := range nodes {
		for b := range nodes {
			if leads[a][b] && !slices.Equal(f.Known[a], f.Known[b]) {
				return false
			}
		}
	}
	return true
}

func owedByWords(f impl.Flood) int {
	owed := 0
	for _, row := range f.Owes {
		for _, n := range row {
			if n == 1 {
				owed++
			}
		}
	}
	return owed
}

func allLinks(nodes int) [][]int {
	var l [][]int
	for a := range nodes {
		for b := a + 1; b < nodes; b++ {
			l = append(l, []int{a, b})
		}
	}
	return l
}

func chain(nodes int) [][]int {
	var l [][]int
	for b := 1; b < nodes; b++ {
		l = append(l, []int{b - 1, b})
	}
	return l
}

func randomLinks(r *rand.Rand, nodes int) [][]int {
	var l [][]int
	of := 1 + r.Intn(4)
	for _, link := range allLinks(nodes) {
		if r.Intn(4) < of {
			l = append(l, link)
		}
	}
	return l
}

func randomLetter(r *rand.Rand, nodes int, links [][]int, top int) impl.Letter {
	link := links[r.Intn(len(links))]
	x := impl.Letter{To: link[0], By: link[1], What: impl.Entry{From: r.Intn(nodes), Seq: 1 + r.Intn(top)}, Ack: r.Intn(2) == 0}
	if r.Intn(2) == 0 {
		x.To, x.By = x.By, x.To
	}
	return x
}

// randomFlood is any good flood: few of them could come from steps.
func randomFlood(r *rand.Rand) impl.Flood {
	nodes := 1 + r.Intn(6)
	f := impl.Flood{Links: randomLinks(r, nodes), Known: noughts(nodes, nodes)}
	f.Owes = noughts(2*len(f.Links), nodes)
	top := []int{2, 3, 60}[r.Intn(3)]
	for _, row := range f.Known {
		for of := range row {
			row[of] = []int{0, 60, r.Intn(top + 1), r.Intn(top + 1), r.Intn(top + 1)}[r.Intn(5)]
		}
	}
	one := []int{2, 2, 5, 20}[r.Intn(4)]
	for _, row := range f.Owes {
		for of := range row {
			row[of] = 1 / (1 + r.Intn(one))
		}
	}
	if len(f.Links) > 0 {
		for range []int{0, 3, 38, 39, 40, r.Intn(41)}[r.Intn(6)] {
			f.Line = append(f.Line, randomLetter(r, nodes, f.Links, top))
		}
	}
	return f
}

func sampleFloods(seed int64, many int) []impl.Flood {
	r := rand.New(rand.NewSource(seed))
	var l []impl.Flood
	for range many {
		l = append(l, randomFlood(r))
	}
	return l
}

func randomFloodStep(r *rand.Rand, nodes int) impl.FloodStep {
	switch r.Intn(16) {
	case 0, 1:
		return flSay(r.Intn(nodes))
	case 2, 3, 4, 5:
		return flSend(r.Intn(nodes))
	case 6:
		return flLose(r.Intn(6))
	case 7, 8, 9, 10, 11, 12:
		return flTake(r.Intn(4))
	case 13:
		return flTake(r.Intn(42))
	case 14:
		return flLose(r.Intn(42))
	}
	l := floodStepsAtEdges(nodes, 3)
	return l[r.Intn(len(l))]
}

func randomFloodSteps(r *rand.Rand, nodes int, many int) []impl.FloodStep {
	var l []impl.FloodStep
	for range many {
		l = append(l, randomFloodStep(r, nodes))
	}
	return l
}

// floodStepsAtEdges has each kind, and kinds that are none, with nodes and K at
// both ends of what may be, for so many nodes and letters, and beyond.
func floodStepsAtEdges(nodes int, onLine int) []impl.FloodStep {
	var l []impl.FloodStep
	at := []int{math.MinInt, -1, 0, 1, nodes - 1, nodes, onLine - 1, onLine, 40, math.MaxInt}
	for _, kind := range []int{math.MinInt, -1, 0, 1, 2, 3, 4, 5, math.MaxInt} {
		for _, node := range at {
			for _, k := range at {
				l = append(l, impl.FloodStep{Kind: kind, Node: node, K: k})
			}
		}
	}
	return l
}

// linksThatAreNone are no links of three nodes.
func linksThatAreNone() [][][]int {
	return [][][]int{
		{nil},
		{{}},
		{{0}},
		{{0, 1, 2}},
		{{0, 0}},
		{{1, 1}},
		{{1, 0}},
		{{2, 1}},
		{{0, 1}, {0, 1}},
		{{0, 1}, {1, 2}, {1, 2}},
		{{0, 1}, {1, 2}, {0, 1}},
		{{0, 2}, {0, 1}},
		{{1, 2}, {0, 1}},
		{{1, 2}, {0, 2}},
		{{0, 1}, {1, 2}, {0, 2}},
		{{0, 1}, {1, 0}},
		{{0, 3}},
		{{3, 4}},
		{{-1, 0}},
		{{-2, -1}},
		{{0, 1}, {1, 2}, {1, 3}},
		{{0, 1}, {1}},
		{{0, 1}, nil},
		{{0, 1}, {1, 2, 2}},
		{{0, 1}, {0, 2}, {1, 2}, {2, 2}},
		{{0, math.MaxInt}},
		{{math.MinInt, 0}},
		{{math.MinInt, math.MaxInt}},
		{{math.MaxInt, math.MinInt}},
		{{0, math.MinInt}},
		{{math.MaxInt, 0}},
	}
}

// newsOfThree is a good flood of three nodes in a chain, with both kinds of
// letters on its line.
func newsOfThree() impl.Flood {
	return impl.Flood{
		Links: rows([]int{0, 1}, []int{1, 2}),
		Known: rows([]int{5, 2, 0}, []int{4, 3, 0}, []int{0, 3, 60}),
		Owes:  rows([]int{1, 0, 0}, []int{0, 1, 0}, []int{1, 0, 1}, []int{0, 0, 1}),
		Line:  []impl.Letter{entry(1, 0, 0, 5), ackOf(1, 2, 1, 3), entry(1, 2, 2, 60)},
	}
}

// withFlood changes a copy of newsOfThree.
func withFlood(change func(f *impl.Flood)) impl.Flood {
	f := newsOfThree()
	change(&f)
	return f
}

func withLetter(x impl.Letter) impl.Flood {
	return withFlood(func(f *impl.Flood) { f.Line[1] = x })
}

func lettersThatAreNone() []impl.Letter {
	var l []impl.Letter
	for _, x := range []impl.Letter{
		entry(0, 2, 0, 1), entry(2, 0, 0, 1), entry(1, 1, 0, 1), entry(0, 0, 0, 1),
		entry(3, 1, 0, 1), entry(1, 3, 0, 1), entry(2, 3, 0, 1), entry(3, 3, 0, 1), entry(-1, 1, 0, 1), entry(0, -1, 0, 1),
		entry(math.MinInt, 1, 0, 1), entry(1, math.MinInt, 0, 1), entry(math.MaxInt, 1, 0, 1), entry(1, math.MaxInt, 0, 1),
		entry(math.MinInt, math.MaxInt, 0, 1), entry(math.MinInt, math.MinInt, 0, 1),
		entry(1, 0, -1, 1), entry(1, 0, 3, 1), entry(1, 0, math.MinInt, 1), entry(1, 0, math.MaxInt, 1),
		entry(1, 0, 0, 0), entry(1, 0, 0, -1), entry(1, 0, 0, 61), entry(1, 0, 0, math.MinInt), entry(1, 0, 0, math.MaxInt),
		{},
	} {
		l = append(l, x)
		x.Ack = true
		l = append(l, x)
	}
	return l
}

// floodsThatAreNone are each wrong in one place, all else being as said.
func floodsThatAreNone() []impl.Flood {
	l := []impl.Flood{
		{},
		{Known: [][]int{}},
		{Known: rows(nil)},
		{Known: rows([]int{})},
		{Links: rows([]int{0, 1})},
		{Owes: rows([]int{0})},
		{Known: rows([]int{0}), Owes: rows([]int{0})},
		{Known: rows([]int{0}), Owes: rows(nil)},
		{Known: rows([]int{0}), Line: letters(1, entry(0, 0, 0, 1))},
		{Known: noughts(7, 7)},
		{Known: noughts(7, 7), Links: chain(7), Owes: noughts(12, 7)},
		{Known: noughts(7, 7), Links: allLinks(7), Owes: noughts(42, 7)},
		{Known: noughts(6, 6), Links: allLinks(7), Owes: noughts(42, 6)},
		{Known: noughts(6, 6), Links: append(allLinks(6), []int{4, 5}), Owes: noughts(30, 6)},
		{Known: noughts(6, 6), Links: append(allLinks(6), []int{4, 5}), Owes: noughts(32, 6)},
		withFlood(func(f *impl.Flood) { f.Line = letters(41, entry(1, 0, 0, 5)) }),
		withFlood(func(f *impl.Flood) { f.Line = letters(1000, ackOf(1, 0, 0, 5)) }),
		withFlood(func(f *impl.Flood) { f.Links = rows([]int{0, 1}, []int{0, 2}, []int{1, 2}) }),
		withFlood(func(f *impl.Flood) { f.Links = rows([]int{0, 1}); f.Line = nil }),
		withFlood(func(f *impl.Flood) { f.Links = nil; f.Line = nil }),
	}
	for _, x := range lettersThatAreNone() {
		l = append(l, withLetter(x))
	}
	for _, links := range linksThatAreNone() {
		for many := range 2*len(links) + 3 {
			l = append(l, impl.Flood{Links: links, Known: noughts(3, 3), Owes: noughts(many, 3)})
		}
	}
	return append(l, floodsWithWrongRows()...)
}

func floodsWithWrongRows() []impl.Flood {
	var l []impl.Flood
	part := func(f *impl.Flood, ofOwes bool) *[][]int {
		if ofOwes {
			return &f.Owes
		}
		return &f.Known
	}
	for _, ofOwes := range []bool{false, true} {
		for _, n := range []int{math.MinInt, -1, 61, 62, math.MaxInt} {
			for _, k := range []int{0, 1, 2} {
				l = append(l, withFlood(func(f *impl.Flood) { (*part(f, ofOwes))[k][2-k] = n }))
			}
		}
		l = append(l, withFlood(func(f *impl.Flood) { *part(f, ofOwes) = nil }))
		l = append(l, withFlood(func(f *impl.Flood) { p := part(f, ofOwes); *p = (*p)[1:] }))
		l = append(l, withFlood(func(f *impl.Flood) { p := part(f, ofOwes); *p = append(*p, []int{0, 0, 0}) }))
		for _, k := range []int{0, 2} {
			l = append(l, withFlood(func(f *impl.Flood) { p := *part(f, ofOwes); p[k] = nil }))
			l = append(l, withFlood(func(f *impl.Flood) { p := *part(f, ofOwes); p[k] = p[k][:2] }))
			l = append(l, withFlood(func(f *impl.Flood) { p := *part(f, ofOwes); p[k] = append(p[k], 0) }))
		}
	}
	for _, n := range []int{2, 3, 60} {
		l = append(l, withFlood(func(f *impl.Flood) { f.Owes[3][2] = n }))
	}
	return l
}

func TestFloodConstants(t *testing.T) {
	if impl.MaxNodes != 6 || impl.MaxFloodSteps != 80 {
		t.Error(impl.MaxNodes, impl.MaxFloodSteps)
	}
	if impl.FlSay != 1 || impl.FlSend != 2 || impl.FlLose != 3 || impl.FlTake != 4 {
		t.Error(impl.FlSay, impl.FlSend, impl.FlLose, impl.FlTake)
	}
}

func TestNewFloodOfEachSize(t *testing.T) {
	r := rand.New(rand.NewSource(601))
	for nodes := 1; nodes <= impl.MaxNodes; nodes++ {
		for _, links := range [][][]int{nil, {}, chain(nodes), allLinks(nodes), randomLinks(r, nodes), randomLinks(r, nodes)} {
			f := mustNewFlood(t, nodes, links)
			wantFlood(t, "NewFlood", f, impl.Flood{Links: links, Known: noughts(nodes, nodes), Owes: noughts(2*len(links), nodes)})
			if !impl.GoodFlood(f) || mustOwed(t, f) != 0 || !mustAllSame(t, f) {
				t.Errorf("of %d nodes and %v: %v", nodes, links, f)
			}
		}
	}
	if len(allLinks(impl.MaxNodes)) != 15 {
		t.Error("links between all are 15")
	}
}

func TestNewFloodLimits(t *testing.T) {
	for _, nodes := range []int{math.MinInt, -1, 0, impl.MaxNodes + 1, 8, math.MaxInt} {
		for _, links := range [][][]int{nil, {}, {{0, 1}}, chain(7), allLinks(7), {{0}}} {
			if f, ok := impl.NewFlood(nodes, links); ok || !isZeroFlood(f) {
				t.Errorf("NewFlood(%d, %v) = %v, %v", nodes, links, f, ok)
			}
			if f, did, ok := impl.PlayFlood(nodes, links, nil); ok || len(did) != 0 || !isZeroFlood(f) {
				t.Errorf("PlayFlood(%d, %v) = %v, %v, %v", nodes, links, f, did, ok)
			}
		}
	}
}

func TestNewFloodOfLinksThatAreNone(t *testing.T) {
	for _, links := range linksThatAreNone() {
		kept := copyOfSees(links)
		if f, ok := impl.NewFlood(3, links); ok || !isZeroFlood(f) {
			t.Errorf("NewFlood(3, %v) = %v, %v", links, f, ok)
		}
		if f, did, ok := impl.PlayFlood(3, links, flSteps(flSay(0))); ok || len(did) != 0 || !isZeroFlood(f) {
			t.Errorf("PlayFlood(3, %v) = %v, %v, %v", links, f, did, ok)
		}
		if !sameSees(links, kept) {
			t.Errorf("%v was written into", kept)
		}
	}
	for _, links := range [][][]int{allLinks(7), append(allLinks(6), []int{4, 5}), append(allLinks(6), []int{5, 6})} {
		if f, ok := impl.NewFlood(6, links); ok || !isZeroFlood(f) {
			t.Errorf("NewFlood(6, %v) = %v, %v", links, f, ok)
		}
	}
}

func TestGoodFloodByHand(t *testing.T) {
	for _, f := range []impl.Flood{
		newsOfThree(),
		{Known: rows([]int{0})},
		{Known: rows([]int{60})},
		{Links: [][]int{}, Known: noughts(6, 6), Owes: [][]int{}, Line: []impl.Letter{}},
		{Links: allLinks(6), Known: noughts(6, 6), Owes: noughts(30, 6)},
		withFlood(func(f *impl.Flood) { f.Known[2][2] = 0 }),
		withFlood(func(f *impl.Flood) { f.Owes[0][1] = 1 }),
		withFlood(func(f *impl.Flood) { f.Owes[3][2] = 0 }),
		withFlood(func(f *impl.Flood) { f.Owes[0][2] = 1 }),
		withFlood(func(f *impl.Flood) { f.Line = letters(40, entry(1, 0, 0, 5)) }),
		withFlood(func(f *impl.Flood) { f.Line = nil }),
		withLetter(entry(0, 1, 2, 1)), withLetter(entry(0, 1, 2, 60)),
		withLetter(ackOf(2, 1, 0, 1)), withLetter(ackOf(1, 2, 0, 60)),
	} {
		if !impl.GoodFlood(f) {
			t.Errorf("not good: %v", f)
		}
	}
	for _, f := range floodsThatAreNone() {
		if impl.GoodFlood(f) {
			t.Errorf("good: %v", f)
		}
	}
}

// damage changes one thing of a flood, which may stay good.
func damage(r *rand.Rand, f *impl.Flood) {
	n := []int{-1, 0, 1, 2, 5, 6, 7, 60, 61, math.MinInt, math.MaxInt}[r.Intn(11)]
	part := []*[][]int{&f.Links, &f.Known, &f.Owes}[r.Intn(3)]
	k := r.Intn(len(*part) + 1)
	switch {
	case r.Intn(3) == 0 && len(f.Line) > 0:
		x := &f.Line[r.Intn(len(f.Line))]
		*[]*int{&x.To, &x.By, &x.What.From, &x.What.Seq}[r.Intn(4)] = n
	case r.Intn(6) == 0:
		*part = slices.Insert(*part, k, make([]int, 1+r.Intn(6)))
	case k == len(*part):
		f.Line = append(f.Line, f.Line...)
	case r.Intn(6) == 0:
		*part = slices.Delete(*part, k, k+1)
	case r.Intn(6) == 0:
		(*part)[k] = append((*part)[k], n)
	case r.Intn(6) == 0:
		(*part)[k] = (*part)[k][1:]
	case r.Intn(6) == 0:
		slices.Reverse(*part)
	default:
		(*part)[k][r.Intn(len((*part)[k]))] = n
	}
}

func TestGoodFloodByWords(t *testing.T) {
	r := rand.New(rand.NewSource(602))
	good := 0
	for _, f := range sampleFloods(603, 20000) {
		if !impl.GoodFlood(f) || !goodFloodByWords(f) {
			t.Fatalf("not good: %v", f)
		}
		damage(r, &f)
		if g, w := impl.GoodFlood(f), goodFloodByWords(f); g != w {
			t.Fatalf("GoodFlood(%v) = %v", f, g)
		} else if g {
			good++
		}
	}
	if good < 1000 || good > 19000 {
		t.Errorf("%d are good: too few of one sort", good)
	}
}

func TestSayByHand(t *testing.T) {
	f := mustStepFlood(t, newsOfThree(), flSay(1))
	want := newsOfThree()
	want.Known[1][1] = 4
	want.Owes[1][1], want.Owes[2][1] = 1, 1
	wantFlood(t, "node 1 says", f, want)
	f = mustStepFlood(t, newsOfThree(), flSay(0))
	want = newsOfThree()
	want.Known[0][0] = 6
	wantFlood(t, "node 0 says", f, want)
	f = mustStepFlood(t, mustNewFlood(t, 1, nil), flSay(0))
	wantFlood(t, "one alone says", f, impl.Flood{Known: rows([]int{1})})
}

func TestSayUpTo60(t *testing.T) {
	for _, node := range []int{0, 1, 2} {
		f := withFlood(func(f *impl.Flood) { f.Known[node][node] = 59 })
		cantStepFlood(t, f, impl.FloodStep{Kind: impl.FlSay, Node: node, K: 1})
		g := mustStepFlood(t, f, flSay(node))
		if g.Known[node][node] != 60 {
			t.Errorf("one more than 59 is %d", g.Known[node][node])
		}
		cantStepFlood(t, g, flSay(node))
		cantStepFlood(t, g, impl.FloodStep{Kind: impl.FlSay, Node: node, K: 1})
	}
	// What others have heard of it does not hinder a node.
	f := withFlood(func(f *impl.Flood) { f.Known[0][1], f.Known[1][0] = 60, 60 })
	mustStepFlood(t, f, flSay(1))
	for _, node := range []int{math.MinInt, -1, 3, math.MaxInt} {
		cantStepFlood(t, newsOfThree(), flSay(node))
		cantStepFlood(t, newsOfThree(), flSend(node))
	}
}

func TestSendByHand(t *testing.T) {
	want := newsOfThree()
	f := mustStepFlood(t, newsOfThree(), flSend(0))
	want.Line = append(want.Line, entry(1, 0, 0, 5))
	wantFlood(t, "node 0 sends", f, want)
	// Of node 2 it knows nothing, so that it does not go.
	f = mustStepFlood(t, f, flSend(1))
	want.Line = append(want.Line, entry(0, 1, 1, 3), entry(2, 1, 0, 4))
	wantFlood(t, "node 1 sends", f, want)
	f = mustStepFlood(t, f, flSend(2))
	want.Line = append(want.Line, entry(1, 2, 2, 60))
	wantFlood(t, "node 2 sends", f, want)
	cantStepFlood(t, f, impl.FloodStep{Kind: impl.FlSend, Node: 2, K: 1})
	cantStepFlood(t, f, impl.FloodStep{Kind: impl.FlSend, Node: 2, K: -1})
}

// sendsNothing asks for a FlSend that is done and changes nothing; with a K that
// is not 0, or by a node that is none, it is not done for all that.
func sendsNothing(t *testing.T, f impl.Flood, node int) {
	t.Helper()
	wantFlood(t, "nothing is sent", mustStepFlood(t, f, flSend(node)), f)
	for _, k := range []int{math.MinInt, -1, 1, math.MaxInt} {
		cantStepFlood(t, f, impl.FloodStep{Kind: impl.FlSend, Node: node, K: k})
	}
	for _, none := range []int{math.MinInt, -1, len(f.Known), math.MaxInt} {
		cantStepFlood(t, f, flSend(none))
	}
}

func TestSendOfNothing(t *testing.T) {
	for node := range 3 {
		f := newsOfThree()
		f.Owes = noughts(4, 3)
		sendsNothing(t, f, node)
		// Of all that is owed nothing is known.
		f = newsOfThree()
		f.Known, f.Owes = noughts(3, 3), rows([]int{1, 1, 1}, []int{1, 1, 1}, []int{1, 1, 1}, []int{1, 1, 1})
		sendsNothing(t, f, node)
		// Others owe and know, not this one.
		f.Known = rows([]int{1, 1, 1}, []int{1, 1, 1}, []int{1, 1, 1})
		f.Known[node] = []int{0, 0, 0}
		sendsNothing(t, f, node)
		// Nor is there room, were there something to send.
		f.Line = letters(40, ackOf(0, 1, 2, 3))
		sendsNothing(t, f, node)
	}
	sendsNothing(t, mustNewFlood(t, 1, nil), 0)
	sendsNothing(t, mustStepFlood(t, mustNewFlood(t, 1, nil), flSay(0)), 0)
}

// A letter for which there is no room is not written; the step is done.
func TestSendOnAFullLine(t *testing.T) {
	f := withFlood(func(f *impl.Flood) { f.Line = letters(40, ackOf(0, 1, 2, 3)) })
	for node := range 3 {
		sendsNothing(t, f, node)
	}
	f.Line = f.Line[:39]
	want := copyOfFlood(f)
	want.Line = append(want.Line, entry(0, 1, 1, 3))
	wantFlood(t, "one of two has room", mustStepFlood(t, f, flSend(1)), want)
}

func TestPlayFloodOfSendsOfNothing(t *testing.T) {
	steps := flSteps(flSend(0), flSay(0), flSend(1))
	steps = append(steps, slices.Repeat(flSteps(flSend(0)), 42)...)
	steps = append(steps, flSend(2), flSend(-1), impl.FloodStep{Kind: impl.FlSend, K: 1})
	f, did, ok := impl.PlayFlood(2, chain(2), steps)
	want := append(slices.Repeat([]bool{true}, 45), false, false, false)
	if !ok || !slices.Equal(did, want) {
		t.Fatal(did, ok)
	}
	wantFlood(t, "PlayFlood", f, impl.Flood{
		Links: chain(2), Known: rows([]int{1, 0}, []int{0, 0}), Owes: rows([]int{1, 0}, []int{0, 0}),
		Line: letters(40, entry(1, 0, 0, 1)),
	})
}

// full is a flood of all nodes in which all is known, and owed by all to all.
func full() impl.Flood {
	f := impl.Flood{Links: allLinks(6), Known: noughts(6, 6), Owes: noughts(30, 6)}
	for a, row := range f.Known {
		for of := range row {
			row[of] = 1 + 6*a + of
		}
	}
	for _, row := range f.Owes {
		for of := range row {
			row[of] = 1
		}
	}
	return f
}

func TestSendOfMoreThanThereIsRoomFor(t *testing.T) {
	var sent []impl.Letter
	for _, to := range []int{0, 1, 2, 4, 5} {
		for of := range 6 {
			sent = append(sent, entry(to, 3, of, 19+of))
		}
	}
	for onLine := range 41 {
		f := full()
		f.Line = letters(onLine, ackOf(0, 1, 2, 3))
		want := copyOfFlood(f)
		want.Line = append(want.Line, sent...)
		want.Line = want.Line[:min(40, len(want.Line))]
		wantFlood(t, "node 3 sends", mustStepFlood(t, f, flSend(3)), want)
	}
}

func TestLoseOfEachPlace(t *testing.T) {
	f := newsOfThree()
	for k := range f.Line {
		want := newsOfThree()
		want.Line = slices.Delete(want.Line, k, k+1)
		wantFlood(t, "a letter is lost", mustStepFlood(t, f, flLose(k)), want)
	}
	for _, kind := range []int{impl.FlLose, impl.FlTake} {
		for _, k := range []int{math.MinInt, -1, 3, 4, math.MaxInt} {
			cantStepFlood(t, f, impl.FloodStep{Kind: kind, K: k})
		}
		for _, node := range []int{math.MinInt, -1, 1, 2, 3, math.MaxInt} {
			for k := range 4 {
				cantStepFlood(t, f, impl.FloodStep{Kind: kind, Node: node, K: k})
			}
		}
		empty := withFlood(func(f *impl.Flood) { f.Line = nil })
		cantStepFlood(t, empty, impl.FloodStep{Kind: kind})
	}
	for _, kind := range []int{math.MinInt, -1, 0, 5, 6, math.MaxInt} {
		cantStepFlood(t, f, impl.FloodStep{Kind: kind})
	}
}

func TestTakeOfAnAck(t *testing.T) {
	for _, c := range []struct{ seq, owed int }{{1, 1}, {3, 1}, {4, 0}, {5, 1}, {60, 1}} {
		for _, wasOwed := range []int{0, 1} {
			f := withLetter(ackOf(1, 2, 0, c.seq))
			f.Owes[2][0] = wasOwed
			want := copyOfFlood(f)
			want.Owes[2][0] = min(wasOwed, c.owed)
			want.Line = slices.Delete(want.Line, 1, 2)
			wantFlood(t, "an Ack is taken", mustStepFlood(t, f, flTake(1)), want)
		}
	}
}

func TestTakeOfAnEntryOfMoreThanIsKnown(t *testing.T) {
	for _, wasOwed := range []int{0, 1} {
		for _, seq := range []int{5, 6, 60} {
			f := withLetter(entry(1, 0, 0, seq))
			f.Owes[1][0], f.Owes[2][0] = wasOwed, 0
			want := copyOfFlood(f)
			want.Known[1][0] = seq
			want.Owes[1][0], want.Owes[2][0] = 0, 1
			want.Line = append(slices.Delete(want.Line, 1, 2), ackOf(0, 1, 0, seq))
			wantFlood(t, "an entry of more is taken", mustStepFlood(t, f, flTake(1)), want)
		}
	}
}

func TestTakeOfAnEntryOfWhatIsKnown(t *testing.T) {
	for _, by := range []int{0, 1} {
		for _, toOther := range []int{0, 1} {
			f := withLetter(entry(1, 0, 0, 4))
			f.Owes[1][0], f.Owes[2][0] = by, toOther
			want := copyOfFlood(f)
			want.Owes[1][0] = 0
			want.Line = append(slices.Delete(want.Line, 1, 2), ackOf(0, 1, 0, 4))
			wantFlood(t, "an entry of what is known is taken", mustStepFlood(t, f, flTake(1)), want)
		}
	}
}

func TestTakeOfAnEntryOfLessThanIsKnown(t *testing.T) {
	for _, by := range []int{0, 1} {
		for _, toOther := range []int{0, 1} {
			for _, seq := range []int{1, 3} {
				f := withLetter(entry(1, 0, 0, seq))
				f.Owes[1][0], f.Owes[2][0] = by, toOther
				want := copyOfFlood(f)
				want.Owes[1][0] = 1
				want.Line = append(slices.Delete(want.Line, 1, 2), ackOf(0, 1, 0, seq))
				wantFlood(t, "an entry of less is taken", mustStepFlood(t, f, flTake(1)), want)
			}
		}
	}
}

// A letter that is taken leaves the line first: its Ack has room there.
func TestAckOnAFullLine(t *testing.T) {
	for k := range 40 {
		for _, x := range []impl.Letter{entry(2, 1, 0, 4), entry(0, 1, 0, 4), entry(2, 1, 1, 3)} {
			f := withFlood(func(f *impl.Flood) { f.Line = letters(40, ackOf(1, 0, 2, 7)) })
			f.Line[k] = x
			g := mustStepFlood(t, f, flTake(k))
			want := append(letters(39, ackOf(1, 0, 2, 7)), ackOf(x.By, x.To, x.What.From, x.What.Seq))
			if !slices.Equal(g.Line, want) {
				t.Errorf("letter %d of 40 is taken: %v", k, g.Line)
			}
		}
	}
	f := withFlood(func(f *impl.Flood) { f.Line = letters(40, ackOf(1, 0, 2, 7)) })
	if g := mustStepFlood(t, f, flTake(39)); len(g.Line) != 39 {
		t.Errorf("an Ack of 40 letters is taken: %v", g.Line)
	}
}

func TestStepFloodByWords(t *testing.T) {
	done := 0
	for n, f := range sampleFloods(604, 800) {
		kept := copyOfFlood(f)
		var steps []impl.FloodStep
		if n < 100 {
			steps = floodStepsAtEdges(len(f.Known), len(f.Line))
		}
		for k := range f.Line {
			steps = append(steps, flTake(k), flLose(k))
		}
		for node := range f.Known {
			steps = append(steps, flSay(node), flSend(node))
		}
		for _, s := range steps {
			want, can := floodStepByWords(f, s)
			if !can {
				cantStepFlood(t, f, s)
				continue
			}
			done++
			wantFlood(t, "StepFlood", mustStepFlood(t, f, s), want)
		}
		wantFlood(t, "what was given", f, kept)
	}
	if done < 10000 {
		t.Errorf("only %d steps were done", done)
	}
}

func TestPlayFloodByWords(t *testing.T) {
	r := rand.New(rand.NewSource(605))
	for range 1500 {
		nodes := 1 + r.Intn(6)
		links := randomLinks(r, nodes)
		steps := randomFloodSteps(r, nodes, r.Intn(81))
		want := mustNewFlood(t, nodes, links)
		var wantDid []bool
		for _, s := range steps {
			next, can := floodStepByWords(want, s)
			want, wantDid = next, append(wantDid, can)
		}
		f, did, ok := impl.PlayFlood(nodes, links, steps)
		if !ok || !slices.Equal(did, wantDid) {
			t.Fatalf("PlayFlood(%d, %v, %v) did %v, %v", nodes, links, steps, did, ok)
		}
		wantFlood(t, "PlayFlood", f, want)
	}
}

// What was done is told for each step, and steps that can't be done change
// nothing.
func TestPlayFloodPassesOverWhatCantBeDone(t *testing.T) {
	cant := flSteps(flLose(40), flSay(3), flSend(-1), impl.FloodStep{}, impl.FloodStep{Kind: 5}, impl.FloodStep{Kind: impl.FlSay, K: 1})
	can := flSteps(flSay(1), flSend(1), flTake(1), flTake(0), flTake(0), flSay(0), flSend(0), flLose(1))
	want, wantDid, ok := impl.PlayFlood(3, chain(3), can)
	if !ok || slices.Contains(wantDid, false) || len(wantDid) != len(can) {
		t.Fatal(wantDid, ok)
	}
	var mixed []impl.FloodStep
	var mixedDid []bool
	for k, s := range can {
		mixed = append(mixed, cant[k%len(cant)], s, cant[(k+1)%len(cant)])
		mixedDid = append(mixedDid, false, true, false)
	}
	f, did, ok := impl.PlayFlood(3, chain(3), mixed)
	if !ok || !slices.Equal(did, mixedDid) {
		t.Fatal(did, ok)
	}
	wantFlood(t, "with steps that can't be done", f, want)
}

func TestPlayFloodByHand(t *testing.T) {
	f, did, ok := impl.PlayFlood(3, chain(3), flSteps(flSay(1), flSend(1), flTake(1), flTake(0), flTake(1), flSend(2)))
	if !ok || len(did) != 6 || slices.Contains(did, false) {
		t.Fatal(did, ok)
	}
	wantFlood(t, "PlayFlood", f, impl.Flood{
		Links: chain(3),
		Known: rows([]int{0, 1, 0}, []int{0, 1, 0}, []int{0, 1, 0}),
		Owes:  rows([]int{0, 0, 0}, []int{0, 0, 0}, []int{0, 1, 0}, []int{0, 0, 0}),
		Line:  []impl.Letter{ackOf(1, 2, 1, 1)},
	})
}

func TestPlayFloodLimits(t *testing.T) {
	for _, s := range flSteps(flSay(0), flSend(0), flLose(0), impl.FloodStep{}) {
		for _, none := range [][]impl.FloodStep{nil, {}} {
			f, did, ok := impl.PlayFlood(2, chain(2), none)
			if !ok || len(did) != 0 {
				t.Errorf("of no step: %v, %v", did, ok)
			}
			wantFlood(t, "of no step", f, mustNewFlood(t, 2, chain(2)))
		}
		l := slices.Repeat(flSteps(s), impl.MaxFloodSteps)
		f, did, ok := impl.PlayFlood(2, chain(2), l)
		if !ok || len(did) != impl.MaxFloodSteps {
			t.Errorf("as many as may be: %v, %v", did, ok)
		}
		for k, d := range did {
			if d != (s.Kind == impl.FlSay && k < 60 || s.Kind == impl.FlSend) {
				t.Errorf("step %d, %v, done: %v", k, s, d)
			}
		}
		if s.Kind == impl.FlSay && f.Known[0][0] != 60 {
			t.Errorf("of 80 that are said 60 count: %v", f)
		}
		f, did, ok = impl.PlayFlood(2, chain(2), append(l, s))
		if ok || len(did) != 0 || !isZeroFlood(f) {
			t.Errorf("one more: %v, %v, %v", f, did, ok)
		}
	}
}

// saidBy counts for each node what the steps had it say.
func saidBy(steps []impl.FloodStep, did []bool) [6]int {
	var said [6]int
	for k, s := range steps {
		if did[k] && s.Kind == impl.FlSay {
			said[s.Node]++
		}
	}
	return said
}

func noneFalls(t *testing.T, told string, old impl.Flood, f impl.Flood) {
	t.Helper()
	for a, row := range f.Known {
		for of, seq := range row {
			if seq < old.Known[a][of] {
				t.Fatalf("%s: node %d knows less of %d:\n%v then\n%v", told, a, of, old, f)
			}
		}
	}
}

func noneKnowsMoreThanIsSaid(t *testing.T, f impl.Flood, said [6]int) {
	t.Helper()
	for a, row := range f.Known {
		for of, seq := range row {
			if seq > said[of] || a == of && seq != said[of] {
				t.Fatalf("node %d knows %d of %d, which said %d: %v", a, seq, of, said[of], f)
			}
		}
	}
}

// Promise 6: what was played is settled, and all that links join know the same.
func settlesToTheSame(t *testing.T, f impl.Flood, said [6]int) {
	t.Helper()
	if !impl.GoodFlood(f) {
		t.Fatalf("not good: %v", f)
	}
	settled, times := mustSettle(t, f)
	if mustOwed(t, settled) != 0 || !mustAllSame(t, settled) || !allSameByWords(settled) {
		t.Fatalf("%v settled %d times:\n%v", f, times, settled)
	}
	noneFalls(t, "settled", f, settled)
	noneKnowsMoreThanIsSaid(t, f, said)
	noneKnowsMoreThanIsSaid(t, settled, said)
	if (times == 0) != (mustOwed(t, f) == 0) {
		t.Fatalf("%v settled %d times", f, times)
	}
	again, more := mustSettle(t, settled)
	if more != 0 {
		t.Fatalf("%v settled again %d times", settled, more)
	}
	wantFlood(t, "settled again", again, settled)
}

func TestFloodThatWasPlayedSettles(t *testing.T) {
	r := rand.New(rand.NewSource(606))
	unlike := 0
	for range 3000 {
		nodes := 1 + r.Intn(6)
		links := randomLinks(r, nodes)
		steps := randomFloodSteps(r, nodes, r.Intn(81))
		f, did, ok := impl.PlayFlood(nodes, links, steps)
		if !ok {
			t.Fatalf("PlayFlood(%d, %v, %v) is refused", nodes, links, steps)
		}
		settlesToTheSame(t, f, saidBy(steps, did))
		if !mustAllSame(t, f) {
			unlike++
		}
		old := mustNewFlood(t, nodes, links)
		for k, s := range steps {
			if !did[k] {
				cantStepFlood(t, old, s)
				continue
			}
			next := mustStepFlood(t, old, s)
			noneFalls(t, "a step", old, next)
			old = next
		}
		wantFlood(t, "step by step", old, f)
	}
	if unlike < 1000 {
		t.Errorf("only %d had something to settle", unlike)
	}
}

// playAll goes through all steps that can be done, so many deep.
func playAll(t *testing.T, f impl.Flood, said [6]int, deep int) int {
	settlesToTheSame(t, f, said)
	seen := 1
	if deep == 0 {
		return seen
	}
	var steps []impl.FloodStep
	for node := range f.Known {
		steps = append(steps, flSay(node), flSend(node))
	}
	for k := range f.Line {
		steps = append(steps, flTake(k), flLose(k))
	}
	for _, s := range steps {
		if next, ok := impl.StepFlood(f, s); ok {
			now := said
			if s.Kind == impl.FlSay {
				now[s.Node]++
			}
			noneFalls(t, "a step", f, next)
			seen += playAll(t, next, now, deep-1)
		}
	}
	return seen
}

func TestFloodOfAllStepsSettles(t *testing.T) {
	for _, c := range []struct {
		nodes int
		links [][]int
		deep  int
	}{{1, nil, 4}, {2, nil, 5}, {2, chain(2), 7}, {3, chain(3), 5}, {3, allLinks(3), 5}} {
		if seen := playAll(t, mustNewFlood(t, c.nodes, c.links), [6]int{}, c.deep); seen < c.deep {
			t.Errorf("%v: %d", c, seen)
		}
	}
}

// An Ack that comes late does not count for what was said since: it would go
// to nobody any more.
func TestLateAckSettlesNothing(t *testing.T) {
	steps := flSteps(flSay(0), flSend(0), flTake(0), flSay(0), flTake(0))
	f, did, ok := impl.PlayFlood(2, chain(2), steps)
	if !ok || slices.Contains(did, false) {
		t.Fatal(did, ok)
	}
	wantFlood(t, "a late Ack", f, impl.Flood{Links: chain(2), Known: rows([]int{2, 0}, []int{1, 0}), Owes: rows([]int{1, 0}, []int{0, 0})})
	settled, times := mustSettle(t, f)
	if times != 1 || settled.Known[1][0] != 2 {
		t.Errorf("%v, %d", settled, times)
	}
}

// However much was sent and lost, settling needs but one entry over each link
// of a chain.
func TestSettleOverAChain(t *testing.T) {
	for nodes := 2; nodes <= impl.MaxNodes; nodes++ {
		steps := flSteps(flSay(0), flSend(0), flLose(0), flSay(0), flSend(0), flLose(0))
		f, _, _ := impl.PlayFlood(nodes, chain(nodes), steps)
		settled, times := mustSettle(t, f)
		if times != nodes-1 || !mustAllSame(t, settled) || settled.Known[nodes-1][0] != 2 {
			t.Errorf("a chain of %d: %v, %d", nodes, settled, times)
		}
	}
}

func TestSettleWithNothingOwed(t *testing.T) {
	f := newsOfThree()
	f.Owes = noughts(4, 3)
	settled, times := mustSettle(t, f)
	if times != 0 {
		t.Errorf("nothing owed, %d times", times)
	}
	wantFlood(t, "nothing owed", settled, f)
	alone := impl.Flood{Known: rows([]int{9})}
	settled, times = mustSettle(t, alone)
	if times != 0 {
		t.Errorf("one alone, %d times", times)
	}
	wantFlood(t, "one alone", settled, alone)
}

// What is owed and not known goes without a letter, so that the line stays.
func TestSettleOfWhatIsNotKnown(t *testing.T) {
	f := newsOfThree()
	f.Owes = rows([]int{0, 0, 1}, []int{0, 0, 1}, []int{0, 0, 0}, []int{1, 0, 0})
	settled, times := mustSettle(t, f)
	want := newsOfThree()
	want.Owes = noughts(4, 3)
	if times != 3 {
		t.Errorf("three are owed that are not known, %d times", times)
	}
	wantFlood(t, "not known", settled, want)
	f.Owes[1][1] = 1
	settled, times = mustSettle(t, f)
	want.Line = nil
	want.Known[0][1] = 3
	if times != 4 {
		t.Errorf("three that are not known and one that is, %d times", times)
	}
	wantFlood(t, "not known, and one that is", settled, want)
}

// Letters that are still on the line are not heard: the line is emptied.
func TestSettleEmptiesTheLine(t *testing.T) {
	f := impl.Flood{
		Links: chain(3),
		Known: rows([]int{1, 0, 0}, []int{0, 0, 0}, []int{0, 0, 7}),
		Owes:  rows([]int{1, 0, 0}, []int{0, 0, 0}, []int{0, 0, 0}, []int{0, 0, 0}),
		Line:  []impl.Letter{entry(1, 2, 2, 7), entry(0, 1, 1, 9), ackOf(0, 1, 0, 1)},
	}
	settled, times := mustSettle(t, f)
	if times != 2 {
		t.Errorf("%d times", times)
	}
	wantFlood(t, "settled", settled, impl.Flood{Links: chain(3), Known: rows([]int{1, 0, 0}, []int{1, 0, 0}, []int{1, 0, 7}), Owes: noughts(4, 3)})
}

// Who hears less than it knows owes it in return: then that one hears it.
func TestSettleOfLessThanIsKnown(t *testing.T) {
	f := impl.Flood{Links: chain(2), Known: rows([]int{3, 0}, []int{8, 0}), Owes: rows([]int{1, 0}, []int{0, 0})}
	settled, times := mustSettle(t, f)
	if times != 2 {
		t.Errorf("%d times", times)
	}
	wantFlood(t, "settled", settled, impl.Flood{Links: chain(2), Known: rows([]int{8, 0}, []int{8, 0}), Owes: noughts(2, 2)})
}

// Any good flood settles, whether or not steps could have made it.
func TestSettleFloodByWords(t *testing.T) {
	for _, f := range append(sampleFloods(607, 4000), full(), newsOfThree()) {
		kept := copyOfFlood(f)
		settled, times := mustSettle(t, f)
		want, wantTimes := settleFloodByWords(f)
		if times != wantTimes || mustOwed(t, settled) != 0 {
			t.Fatalf("%v settled %d times, not %d", f, times, wantTimes)
		}
		wantFlood(t, "SettleFlood", settled, want)
		wantFlood(t, "what was given", f, kept)
		noneFalls(t, "settled", f, settled)
	}
}

func TestOwedInByWords(t *testing.T) {
	if owed := mustOwed(t, newsOfThree()); owed != 5 {
		t.Errorf("OwedIn tells %d, not 5", owed)
	}
	if owed := mustOwed(t, full()); owed != 180 {
		t.Errorf("OwedIn tells %d, not 180", owed)
	}
	for _, f := range sampleFloods(608, 2000) {
		if g, w := mustOwed(t, f), owedByWords(f); g != w {
			t.Fatalf("OwedIn(%v) = %d, not %d", f, g, w)
		}
	}
}

func TestAllSameByHand(t *testing.T) {
	one, other := []int{1, 2, 3, 4}, []int{1, 2, 3, 5}
	for _, c := range []struct {
		links [][]int
		known [][]int
		want  bool
	}{
		{nil, rows(one, other, one, other), true},
		{nil, rows([]int{0, 0, 0, 0}, one, []int{60, 0, 0, 0}, other), true},
		{rows([]int{0, 2}), rows(one, other, one, other), true},
		{rows([]int{0, 2}, []int{1, 3}), rows(one, other, one, other), true},
		{rows([]int{0, 2}, []int{1, 3}), rows(one, other, other, other), false},
		{rows([]int{0, 2}, []int{1, 3}), rows(one, other, one, one), false},
		{rows([]int{0, 1}, []int{0, 2}, []int{0, 3}), rows(one, one, one, one), true},
		{rows([]int{0, 1}, []int{0, 2}, []int{0, 3}), rows(one, one, one, other), false},
		{chain(4), rows(one, one, one, one), true},
		{chain(4), rows(one, one, other, other), false},
		{chain(4), rows([]int{0, 2, 3, 4}, one, one, one), false},
	} {
		f := impl.Flood{Links: c.links, Known: c.known, Owes: noughts(2*len(c.links), 4)}
		if g := mustAllSame(t, f); g != c.want {
			t.Errorf("AllSame of %v and %v = %v", c.links, c.known, g)
		}
	}
}

func TestAllSameByWords(t *testing.T) {
	r := rand.New(rand.NewSource(609))
	same := 0
	for range 4000 {
		nodes := 1 + r.Intn(6)
		f := impl.Flood{Links: randomLinks(r, nodes), Known: noughts(nodes, nodes)}
		if r.Intn(2) == 0 && len(f.Links) > 0 {
			f.Links = f.Links[:1]
		}
		f.Owes = noughts(2*len(f.Links), nodes)
		f.Known[r.Intn(nodes)][r.Intn(nodes)] = r.Intn(2)
		g, w := mustAllSame(t, f), allSameByWords(f)
		if g != w {
			t.Fatalf("AllSame(%v) = %v", f, g)
		}
		if g {
			same++
		}
	}
	if same < 500 || same > 3500 {
		t.Errorf("%d are the same: too few of one sort", same)
	}
}

func TestFloodsThatAreNone(t *testing.T) {
	for _, f := range floodsThatAreNone() {
		kept := copyOfFlood(f)
		for _, s := range append(floodStepsAtEdges(3, 3), flTake(1), flTake(2), flLose(2)) {
			cantStepFlood(t, f, s)
		}
		if g, times, ok := impl.SettleFlood(f); ok || times != 0 || !isZeroFlood(g) {
			t.Errorf("%v settled: %v, %d, %v", f, g, times, ok)
		}
		if same, ok := impl.AllSame(f); ok || same {
			t.Errorf("AllSame(%v) = %v, %v", f, same, ok)
		}
		if owed, ok := impl.OwedIn(f); ok || owed != 0 {
			t.Errorf("OwedIn(%v) = %d, %v", f, owed, ok)
		}
		wantFlood(t, "what was given", f, kept)
	}
}

// floodBehind lays each list of a flood ahead of more, which is no part of it.
func floodBehind(f impl.Flood) impl.Flood {
	line := letters(len(f.Line)+3, entry(-77, -77, -77, -77))
	return impl.Flood{Links: seesBehind(f.Links), Known: seesBehind(f.Known), Owes: seesBehind(f.Owes), Line: line[:copy(line, f.Line)]}
}

func isFloodUntouched(f impl.Flood) bool {
	for _, x := range f.Line[len(f.Line) : len(f.Line)+3] {
		if x != entry(-77, -77, -77, -77) {
			return false
		}
	}
	return areSeesUntouched(f.Links) && areSeesUntouched(f.Known) && areSeesUntouched(f.Owes)
}

// scribbleFlood writes over all that an answer's lists have, up to their
// capacity.
func scribbleFlood(f impl.Flood) {
	for _, l := range [][][]int{f.Links, f.Known, f.Owes} {
		for _, row := range l {
			scribbleNums(row)
		}
		clear(l[:cap(l)])
	}
	line := f.Line[:cap(f.Line)]
	for k := range line {
		line[k] = entry(-5, -5, -5, -5)
	}
}

// ownFloodLists writes over each list of an answer in turn; the other ones are
// to stay as they are.
func ownFloodLists(t *testing.T, f impl.Flood) {
	t.Helper()
	kept := copyOfFlood(f)
	lists := slices.Concat(f.Links, f.Known, f.Owes)
	old := slices.Concat(kept.Links, kept.Known, kept.Owes)
	for k, l := range lists {
		scribbleNums(l)
		for other := range lists {
			if other != k && !slices.Equal(lists[other], old[other]) {
				t.Fatalf("two lists of %v share memory", kept)
			}
		}
		copy(l, old[k])
	}
	parts, keptParts := []*[][]int{&f.Links, &f.Known, &f.Owes}, []*[][]int{&kept.Links, &kept.Known, &kept.Owes}
	for k, part := range parts {
		clear((*part)[:cap(*part)])
		*part, *keptParts[k] = nil, nil
		wantFlood(t, "one part of an answer is written over", f, kept)
	}
	scribbleFlood(f)
}

func TestFloodsOfAnAnswerAreNewMemory(t *testing.T) {
	for _, made := range append(sampleFloods(610, 400), full(), newsOfThree()) {
		f := floodBehind(made)
		steps := flSteps(flTake(0), flTake(len(f.Line)-1), flLose(0), flLose(len(f.Line)-1), impl.FloodStep{})
		for node := range f.Known {
			steps = append(steps, flSay(node), flSend(node))
		}
		for _, s := range steps {
			g, ok := impl.StepFlood(f, s)
			if want, can := floodStepByWords(made, s); ok != can || ok && !sameFlood(g, want) {
				t.Fatalf("%v at %v: %v, %v", made, s, g, ok)
			}
			ownFloodLists(t, g)
		}
		g, _ := mustSettle(t, f)
		ownFloodLists(t, g)
		impl.GoodFlood(f)
		mustAllSame(t, f)
		mustOwed(t, f)
		wantFlood(t, "what was given", f, made)
		if !isFloodUntouched(f) {
			t.Fatalf("behind a list of %v something changed", made)
		}
	}
}

func TestNewFloodIsNewMemory(t *testing.T) {
	for nodes := 1; nodes <= impl.MaxNodes; nodes++ {
		links := seesBehind(allLinks(nodes))
		f := mustNewFlood(t, nodes, links)
		want := copyOfFlood(f)
		ownFloodLists(t, f)
		wantFlood(t, "NewFlood", mustNewFlood(t, nodes, links), want)
		if !sameSees(links, allLinks(nodes)) || !areSeesUntouched(links) {
			t.Fatalf("the links were written into: %v", links)
		}
	}
}

func TestPlayFloodWritesIntoNoArgument(t *testing.T) {
	r := rand.New(rand.NewSource(611))
	more := flSteps(flSay(0), flSay(0), flSend(0))
	for range 300 {
		nodes := 1 + r.Intn(6)
		made := randomLinks(r, nodes)
		links := seesBehind(made)
		steps := randomFloodSteps(r, nodes, r.Intn(81))
		l := slices.Concat(steps, more)
		f, did, ok := impl.PlayFlood(nodes, links, l[:len(steps)])
		if !ok || len(did) != len(steps) {
			t.Fatalf("of %d steps %d are told, %v", len(steps), len(did), ok)
		}
		wantDid := slices.Clone(did)
		ownFloodLists(t, f)
		if !slices.Equal(did, wantDid) {
			t.Fatal("a list of the flood is that of what was done")
		}
		clear(did[:cap(did)])
		if !slices.Equal(l, slices.Concat(steps, more)) {
			t.Fatalf("the steps were written into: %v", l)
		}
		if !sameSees(links, made) || !areSeesUntouched(links) {
			t.Fatalf("the links were written into: %v", links)
		}
	}
}

// emptied has the empty list wherever a flood has the nil list.
func emptied(f impl.Flood) impl.Flood {
	return impl.Flood{
		Links: append([][]int{}, f.Links...),
		Known: append([][]int{}, f.Known...),
		Owes:  append([][]int{}, f.Owes...),
		Line:  append([]impl.Letter{}, f.Line...),
	}
}

func TestEmptyAndNilListsOfAFlood(t *testing.T) {
	for _, f := range []impl.Flood{
		{Known: rows([]int{0})},
		{Known: rows([]int{60})},
		{Known: rows([]int{1, 2}, []int{3, 4})},
		{Links: chain(2), Known: rows([]int{1, 0}, []int{0, 2}), Owes: rows([]int{1, 0}, []int{0, 1})},
		{},
	} {
		with := emptied(f)
		if impl.GoodFlood(f) != impl.GoodFlood(with) {
			t.Errorf("just one of them is good: %v", f)
		}
		for _, s := range floodStepsAtEdges(len(f.Known), 0) {
			g, ok := impl.StepFlood(f, s)
			w, is := impl.StepFlood(with, s)
			if ok != is || !sameFlood(g, w) {
				t.Fatalf("%v at %v: %v, %v and %v, %v", f, s, g, ok, w, is)
			}
		}
		g, times, ok := impl.SettleFlood(f)
		w, wantTimes, is := impl.SettleFlood(with)
		if ok != is || times != wantTimes || !sameFlood(g, w) {
			t.Errorf("%v settled: %v and %v", f, g, w)
		}
		same, ok := impl.AllSame(f)
		wantSame, is := impl.AllSame(with)
		if same != wantSame || ok != is {
			t.Errorf("AllSame of %v: %v and %v", f, same, wantSame)
		}
		owed, ok := impl.OwedIn(f)
		wantOwed, is := impl.OwedIn(with)
		if owed != wantOwed || ok != is {
			t.Errorf("OwedIn of %v: %d and %d", f, owed, wantOwed)
		}
	}
}
