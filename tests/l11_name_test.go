package tests

import (
	"math"
	"math/rand"
	"slices"
	"testing"

	"loop.example/g00575/impl"
)

func owner(id int, name int, right int) impl.Owner {
	return impl.Owner{Id: id, Name: name, Right: right}
}

func owners(l ...impl.Owner) []impl.Owner { return l }

// called gives owners of the Ids 1, 2 and so on, whose Rights are alike.
func called(names ...int) []impl.Owner {
	var l []impl.Owner
	for k, name := range names {
		l = append(l, owner(1+k, name, 7))
	}
	return l
}

func namesIn(l []impl.Owner) []int {
	var names []int
	for _, o := range l {
		names = append(names, o.Name)
	}
	return names
}

// unlikeNames tells how many names there are in l, each counted once.
func unlikeNames(l []impl.Owner) int {
	names := namesIn(l)
	slices.Sort(names)
	return len(slices.Compact(names))
}

// goodOwnersByWords is the document's sentence on owners, word by word.
func goodOwnersByWords(l []impl.Owner) bool {
	if len(l) == 0 || 10 < len(l) {
		return false
	}
	last := 0
	for _, o := range l {
		if o.Id <= last || 1000 < o.Id || o.Name <= 0 || 50 < o.Name || o.Right <= -1 || 255 < o.Right {
			return false
		}
		last = o.Id
	}
	return true
}

func betterByRight(a impl.Owner, b impl.Owner) bool {
	return a.Right > b.Right || a.Right == b.Right && a.Id > b.Id
}

// clashByWords tries all twos, each first one with all others behind it.
func clashByWords(l []impl.Owner) (int, int, bool) {
	for a := range l {
		for b := range l {
			if a < b && l[a].Name == l[b].Name {
				return a, b, true
			}
		}
	}
	return 0, 0, false
}

func hasName(l []impl.Owner, name int) bool {
	return slices.Contains(namesIn(l), name)
}

// freeByWords takes the first of the names behind a name, and then of the others
// from 1 on.
func freeByWords(l []impl.Owner, name int) int {
	for next := name + 1; next <= 50; next++ {
		if !hasName(l, next) {
			return next
		}
	}
	for next := 1; ; next++ {
		if !hasName(l, next) {
			return next
		}
	}
}

func giveByWords(l []impl.Owner) ([]impl.Owner, int, bool) {
	at, other, ok := clashByWords(l)
	if !ok {
		return nil, 0, false
	}
	if betterByRight(l[at], l[other]) {
		at = other
	}
	given := slices.Clone(l)
	given[at].Name = freeByWords(l, l[at].Name)
	return given, l[at].Id, true
}

// bestByWords looks for the one who has a name and than whom nobody who has it
// too has a better right to it: -1 where nobody has it.
func bestByWords(l []impl.Owner, name int) int {
	for at, o := range l {
		outdone := slices.ContainsFunc(l, func(b impl.Owner) bool { return b.Name == name && betterByRight(b, o) })
		if o.Name == name && !outdone {
			return at
		}
	}
	return -1
}

// randomOwners have names of which many are alike, also such as lie behind one
// another up to MaxNames and from 1 on.
func randomOwners(r *rand.Rand) []impl.Owner {
	var l []impl.Owner
	ids := r.Perm(1000)[:1+r.Intn(10)]
	slices.Sort(ids)
	first, names := r.Intn(50), []int{1, 2, 4, 12, 50}[r.Intn(5)]
	for _, id := range ids {
		right := r.Intn(256)
		if r.Intn(2) == 0 {
			right = []int{0, 1, 254, 255}[r.Intn(4)]
		}
		l = append(l, owner(1+id, 1+(first+r.Intn(names))%50, right))
	}
	return l
}

// smallOwners are all of up to four with one of three names and one of two
// Rights each, and all of five with two of each.
func smallOwners() [][]impl.Owner {
	all := ownersOfKinds(5, []int{50, 1}, []int{0, 1})
	for many := 1; many <= 4; many++ {
		all = append(all, ownersOfKinds(many, []int{1, 49, 50}, []int{0, 255})...)
	}
	return all
}

func ownersOfKinds(many int, names []int, rights []int) [][]impl.Owner {
	all := [][]impl.Owner{nil}
	for id := 1; id <= many; id++ {
		var longer [][]impl.Owner
		for _, l := range all {
			for _, name := range names {
				for _, right := range rights {
					longer = append(longer, append(slices.Clone(l), owner(id, name, right)))
				}
			}
		}
		all = longer
	}
	return all
}

func sampleOwners(seed int64, many int) [][]impl.Owner {
	r := rand.New(rand.NewSource(seed))
	var all [][]impl.Owner
	for range many {
		all = append(all, randomOwners(r))
	}
	return all
}

// damageOwners changes one thing, which may stay good.
func damageOwners(r *rand.Rand, made []impl.Owner) []impl.Owner {
	l := slices.Clone(made)
	at, other := r.Intn(len(l)), r.Intn(len(l))
	switch r.Intn(6) {
	case 0:
		l[at].Id = []int{-1, 0, 1, 1000, 1001, l[other].Id, l[other].Id - 1, l[other].Id + 1}[r.Intn(8)]
	case 1:
		l[at].Name = []int{-1, 0, 1, 50, 51}[r.Intn(5)]
	case 2:
		l[at].Right = []int{-1, 0, 255, 256}[r.Intn(4)]
	case 3:
		l[at], l[other] = l[other], l[at]
	case 4:
		return l[:at]
	case 5:
		l = append(l, owner(min(1000, l[len(l)-1].Id+1), 5, 5))
	}
	return l
}

func ownersAtEdges() []impl.Owner {
	var l []impl.Owner
	for _, id := range []int{1, 2, 999, 1000} {
		for _, name := range []int{1, 49, 50} {
			for _, right := range []int{0, 1, 128, 254, 255} {
				l = append(l, owner(id, name, right))
			}
		}
	}
	return l
}

func wrongNames() []int {
	return []int{0, -1, 51, 52, -50, 100, 256 + 5, 1 << 32, 1<<32 + 5, math.MinInt, math.MinInt + 1, math.MaxInt - 1, math.MaxInt}
}

func wrongOwners() []impl.Owner {
	l := owners(impl.Owner{}, owner(0, 0, -1), owner(1001, 51, 256), owner(math.MinInt, math.MinInt, math.MinInt), owner(math.MaxInt, math.MaxInt, math.MaxInt))
	for _, id := range []int{0, -1, 1001, 1002, -1000, 1 << 32, 1<<32 + 5, math.MinInt, math.MinInt + 1, math.MaxInt - 1, math.MaxInt} {
		l = append(l, owner(id, 5, 5))
	}
	for _, name := range wrongNames() {
		l = append(l, owner(500, name, 5))
	}
	for _, right := range []int{-1, -2, 256, 257, -255, 1 << 32, 1<<32 + 5, math.MinInt, math.MinInt + 1, math.MaxInt - 1, math.MaxInt} {
		l = append(l, owner(500, 5, right))
	}
	return l
}

func ownersThatAreNone() [][]impl.Owner {
	all := [][]impl.Owner{
		nil, {},
		called(risingFrom(1, 11)...), called(risingFrom(1, 12)...), called(slices.Repeat([]int{5}, 11)...), called(slices.Repeat([]int{5}, 1000)...),
		// Ids that are alike, and that fall.
		{owner(3, 5, 5), owner(3, 5, 5)}, {owner(3, 5, 5), owner(3, 6, 5)}, {owner(3, 5, 5), owner(3, 5, 6)},
		{owner(1, 5, 5), owner(2, 5, 5), owner(2, 5, 6)}, {owner(1, 5, 5), owner(1, 5, 6), owner(2, 5, 5)},
		{owner(4, 5, 5), owner(3, 5, 5)}, {owner(1, 5, 5), owner(3, 5, 5), owner(2, 5, 5)}, {owner(1000, 50, 255), owner(1, 1, 0)},
		{owner(2, 5, 5), owner(1, 5, 5), owner(3, 5, 5)}, {owner(3, 1, 5), owner(2, 2, 6), owner(1, 3, 7)},
	}
	for _, wrong := range wrongOwners() {
		all = append(all, owners(wrong), append(called(risingFrom(1, 9)...), wrong), owners(wrong, wrong))
		for at := range 3 {
			three := owners(owner(2, 5, 5), owner(500, 5, 5), owner(999, 5, 5))
			three[at] = wrong
			all = append(all, three)
		}
	}
	return all
}

func wantOwners(t *testing.T, told string, g []impl.Owner, w []impl.Owner) {
	t.Helper()
	if !slices.Equal(g, w) {
		t.Fatalf("%s: %v, want %v", told, g, w)
	}
}

func mustClash(t *testing.T, l []impl.Owner) (int, int) {
	t.Helper()
	a, b, ok := impl.ClashIn(l)
	if !ok {
		t.Fatalf("ClashIn(%v) = %d, %d, false", l, a, b)
	}
	return a, b
}

func mustGive(t *testing.T, l []impl.Owner) ([]impl.Owner, int) {
	t.Helper()
	g, id, ok := impl.GiveWay(l)
	if !ok || len(g) != len(l) {
		t.Fatalf("GiveWay(%v) = %v, %d, %t", l, g, id, ok)
	}
	return g, id
}

func mustSettleNames(t *testing.T, l []impl.Owner) ([]impl.Owner, int) {
	t.Helper()
	g, times, ok := impl.SettleNames(l)
	if !ok || len(g) != len(l) {
		t.Fatalf("SettleNames(%v) = %v, %d, %t", l, g, times, ok)
	}
	return g, times
}

func mustFree(t *testing.T, l []impl.Owner, name int) int {
	t.Helper()
	g, ok := impl.NextFree(l, name)
	if !ok {
		t.Fatalf("NextFree(%v, %d) = %d, false", l, name, g)
	}
	return g
}

func mustHave(t *testing.T, l []impl.Owner, name int) int {
	t.Helper()
	id, ok := impl.WhoHas(l, name)
	if !ok {
		t.Fatalf("WhoHas(%v, %d) = %d, false", l, name, id)
	}
	return id
}

func mustBeCalled(t *testing.T, l []impl.Owner, id int) int {
	t.Helper()
	name, ok := impl.NameOf(l, id)
	if !ok {
		t.Fatalf("NameOf(%v, %d) = %d, false", l, id, name)
	}
	return name
}

func mustHold(t *testing.T, a impl.Owner, b impl.Owner) bool {
	t.Helper()
	has, ok := impl.HasBetter(a, b)
	if !ok {
		t.Fatalf("HasBetter(%v, %v) = %t, false", a, b, has)
	}
	return has
}

func cantClash(t *testing.T, l []impl.Owner) {
	t.Helper()
	if a, b, ok := impl.ClashIn(l); a != 0 || b != 0 || ok {
		t.Fatalf("ClashIn(%v) = %d, %d, %t", l, a, b, ok)
	}
}

func cantGive(t *testing.T, l []impl.Owner) {
	t.Helper()
	if g, id, ok := impl.GiveWay(l); len(g) != 0 || id != 0 || ok {
		t.Fatalf("GiveWay(%v) = %v, %d, %t", l, g, id, ok)
	}
}

func cantSettleNames(t *testing.T, l []impl.Owner) {
	t.Helper()
	if g, times, ok := impl.SettleNames(l); len(g) != 0 || times != 0 || ok {
		t.Fatalf("SettleNames(%v) = %v, %d, %t", l, g, times, ok)
	}
}

func cantBeFree(t *testing.T, l []impl.Owner, name int) {
	t.Helper()
	if g, ok := impl.NextFree(l, name); g != 0 || ok {
		t.Fatalf("NextFree(%v, %d) = %d, %t", l, name, g, ok)
	}
}

func cantBeCalled(t *testing.T, l []impl.Owner, id int) {
	t.Helper()
	if g, ok := impl.NameOf(l, id); g != 0 || ok {
		t.Fatalf("NameOf(%v, %d) = %d, %t", l, id, g, ok)
	}
}

func cantHave(t *testing.T, l []impl.Owner, name int) {
	t.Helper()
	if g, ok := impl.WhoHas(l, name); g != 0 || ok {
		t.Fatalf("WhoHas(%v, %d) = %d, %t", l, name, g, ok)
	}
}

func cantHold(t *testing.T, a impl.Owner, b impl.Owner) {
	t.Helper()
	if g, ok := impl.HasBetter(a, b); g || ok {
		t.Fatalf("HasBetter(%v, %v) = %t, %t", a, b, g, ok)
	}
}

func TestMaxNames(t *testing.T) {
	if impl.MaxNames != 50 {
		t.Error(impl.MaxNames)
	}
}

func TestGoodOwners(t *testing.T) {
	for _, l := range [][]impl.Owner{
		called(1), called(50), called(5, 5), called(50, 1), called(risingFrom(1, 10)...), called(risingFrom(41, 10)...),
		{owner(1, 1, 0)}, {owner(1000, 50, 255)}, {owner(1, 50, 255), owner(1000, 1, 0)}, {owner(999, 7, 0), owner(1000, 7, 255)},
	} {
		if !impl.GoodOwners(l) {
			t.Errorf("not good: %v", l)
		}
	}
	for _, o := range ownersAtEdges() {
		if !impl.GoodOwners(owners(o)) {
			t.Errorf("not good: %v", o)
		}
	}
	for _, l := range ownersThatAreNone() {
		if impl.GoodOwners(l) {
			t.Errorf("good: %v", l)
		}
	}
}

func TestGoodOwnersByWords(t *testing.T) {
	r := rand.New(rand.NewSource(1101))
	good := 0
	for range 30000 {
		l := damageOwners(r, randomOwners(r))
		if g, w := impl.GoodOwners(l), goodOwnersByWords(l); g != w {
			t.Fatalf("%v: %t, not %t", l, g, w)
		} else if g {
			good++
		}
	}
	if good < 5000 || good > 25000 {
		t.Errorf("%d are good: too few of one sort", good)
	}
}

func TestHasBetterByHand(t *testing.T) {
	for _, c := range []struct {
		a, b impl.Owner
		want bool
	}{
		{owner(1, 5, 3), owner(2, 5, 2), true},
		{owner(2, 5, 2), owner(1, 5, 3), false},
		{owner(1, 5, 3), owner(2, 5, 3), false},
		{owner(2, 5, 3), owner(1, 5, 3), true},
		{owner(1, 5, 3), owner(2, 5, 4), false},
		{owner(2, 5, 4), owner(1, 5, 3), true},
		{owner(1, 1, 1), owner(1000, 50, 0), true},
		{owner(1000, 50, 0), owner(1, 1, 1), false},
		{owner(999, 1, 255), owner(1000, 1, 255), false},
		{owner(1000, 1, 0), owner(1, 1, 255), false},
		{owner(1, 50, 0), owner(2, 1, 0), false},
		{owner(2, 1, 0), owner(1, 50, 0), true},
	} {
		if g := mustHold(t, c.a, c.b); g != c.want {
			t.Errorf("HasBetter(%v, %v) = %t", c.a, c.b, g)
		}
	}
}

// Just one of two has the better right, whatever their names are.
func TestHasBetterOfEachTwo(t *testing.T) {
	for _, a := range ownersAtEdges() {
		for _, b := range ownersAtEdges() {
			if a.Id == b.Id {
				cantHold(t, a, b)
				continue
			}
			if has := mustHold(t, a, b); has != betterByRight(a, b) || has == mustHold(t, b, a) {
				t.Fatalf("HasBetter(%v, %v) = %t", a, b, has)
			}
		}
	}
}

func TestHasBetterOfOneThatIsNotAsSaid(t *testing.T) {
	for _, wrong := range wrongOwners() {
		for _, right := range ownersAtEdges() {
			cantHold(t, wrong, right)
			cantHold(t, right, wrong)
		}
		for _, other := range wrongOwners() {
			cantHold(t, wrong, other)
		}
	}
}

func TestClashInByHand(t *testing.T) {
	for _, c := range []struct {
		l    []impl.Owner
		a, b int
	}{
		{called(5, 5), 1, 2},
		{called(5, 6, 5), 1, 3},
		{called(6, 5, 5), 2, 3},
		// Three and more of one name.
		{called(5, 5, 5), 1, 2},
		{called(6, 5, 7, 5, 5), 2, 4},
		{called(5, 5, 5, 5, 5, 5, 5, 5, 5, 5), 1, 2},
		// Two names, each had twice: the first one counts, then the other one.
		{called(5, 6, 6, 5), 1, 4},
		{called(5, 6, 5, 6), 1, 3},
		{called(5, 5, 6, 6), 1, 2},
		{called(6, 6, 5, 5), 1, 2},
		{called(7, 5, 6, 6, 5), 2, 5},
		{called(7, 6, 5, 5, 6, 7), 1, 6},
		{called(1, 2, 3, 4, 5, 5, 4, 3, 2, 1), 1, 10},
		{called(1, 2, 3, 4, 5, 6, 7, 8, 50, 50), 9, 10},
		// The Ids are told, whatever the Rights are.
		{owners(owner(3, 5, 0), owner(40, 6, 255), owner(500, 5, 255), owner(1000, 5, 9)), 3, 500},
		{owners(owner(3, 5, 255), owner(40, 6, 0), owner(500, 6, 255)), 40, 500},
	} {
		if a, b := mustClash(t, c.l); a != c.a || b != c.b {
			t.Errorf("ClashIn(%v) = %d, %d, want %d, %d", c.l, a, b, c.a, c.b)
		}
	}
}

func TestNextFreeByHand(t *testing.T) {
	for _, c := range []struct {
		l    []impl.Owner
		name int
		want int
	}{
		{called(1), 1, 2},
		{called(1), 2, 3},
		{called(1), 50, 2},
		{called(1), 49, 50},
		{called(50), 49, 1},
		{called(50), 50, 1},
		{called(50), 48, 49},
		{called(49, 50), 48, 1},
		{called(50, 1), 49, 2},
		{called(50, 1), 50, 2},
		// The name itself is free, and is not asked.
		{called(7), 5, 6},
		{called(6), 5, 7},
		{called(6, 7, 9), 5, 8},
		{called(6, 7, 9), 8, 10},
		{called(9, 7, 6), 6, 8},
		// As many as there may be, one behind the other.
		{called(risingFrom(1, 10)...), 1, 11},
		{called(risingFrom(1, 10)...), 50, 11},
		{called(risingFrom(1, 10)...), 10, 11},
		{called(risingFrom(41, 10)...), 40, 1},
		{called(risingFrom(41, 10)...), 41, 1},
		{called(risingFrom(41, 10)...), 39, 40},
		{called(46, 47, 48, 49, 50, 1, 2, 3, 4, 5), 45, 6},
		{called(5, 4, 3, 2, 1, 50, 49, 48, 47, 46), 50, 6},
		{called(46, 47, 48, 49, 50, 1, 2, 3, 4, 4), 45, 5},
	} {
		if g := mustFree(t, c.l, c.name); g != c.want {
			t.Errorf("NextFree(%v, %d) = %d, want %d", c.l, c.name, g, c.want)
		}
	}
}

// All of the ten names behind a name are had, or all of them but one.
func TestNextFreeWhereAllButOneAreHad(t *testing.T) {
	for name := 1; name <= 50; name++ {
		var ten []int
		for k := range 10 {
			ten = append(ten, (name+k)%50+1)
		}
		if g, w := mustFree(t, called(ten...), name), (name+10)%50+1; g != w {
			t.Errorf("NextFree(%v, %d) = %d, want %d", ten, name, g, w)
		}
		for k, free := range ten {
			nine := slices.Delete(slices.Clone(ten), k, k+1)
			for _, tenth := range []int{nine[0], nine[8], name} {
				if g := mustFree(t, called(append(nine, tenth)...), name); g != free {
					t.Errorf("NextFree(%v and %d, %d) = %d, want %d", nine, tenth, name, g, free)
				}
			}
		}
	}
}

func TestGiveWayByHand(t *testing.T) {
	for _, c := range []struct {
		l     []impl.Owner
		names []int
		id    int
	}{
		{called(5, 5), []int{6, 5}, 1},
		{called(50, 50), []int{1, 50}, 1},
		{called(49, 49), []int{50, 49}, 1},
		{called(50, 50, 1), []int{2, 50, 1}, 1},
		{called(5, 5, 6, 8), []int{7, 5, 6, 8}, 1},
		{called(5, 5, 5), []int{6, 5, 5}, 1},
		{called(5, 6, 6, 5), []int{7, 6, 6, 5}, 1},
		{called(7, 6, 5, 5, 6), []int{7, 8, 5, 5, 6}, 2},
		{owners(owner(1, 5, 8), owner(2, 5, 7)), []int{5, 6}, 2},
		{owners(owner(1, 5, 7), owner(2, 5, 8)), []int{6, 5}, 1},
		{owners(owner(1, 5, 8), owner(2, 5, 8)), []int{6, 5}, 1},
		// Just the first two are asked, and not a third one with a better right.
		{owners(owner(1, 5, 8), owner(2, 5, 7), owner(3, 5, 255)), []int{5, 6, 5}, 2},
		{owners(owner(10, 50, 255), owner(20, 1, 0), owner(1000, 50, 254)), []int{50, 1, 2}, 1000},
	} {
		g, id := mustGive(t, c.l)
		if wantNums(t, "GiveWay", namesIn(g), c.names); id != c.id {
			t.Errorf("GiveWay(%v): %d, want %d", c.l, id, c.id)
		}
	}
}

func TestSettleNamesByHand(t *testing.T) {
	for _, c := range []struct {
		l     []impl.Owner
		names []int
		times int
	}{
		{called(5), []int{5}, 0},
		{called(5, 6), []int{5, 6}, 0},
		{called(6, 5, 50, 1), []int{6, 5, 50, 1}, 0},
		{called(5, 5), []int{6, 5}, 1},
		{called(5, 5, 5), []int{6, 7, 5}, 2},
		{called(5, 5, 6), []int{7, 5, 6}, 1},
		{called(5, 6, 6, 5), []int{7, 8, 6, 5}, 2},
		{called(5, 5, 6, 6), []int{7, 5, 8, 6}, 2},
		{called(6, 6, 5, 5), []int{7, 6, 8, 5}, 2},
		{owners(owner(1, 5, 9), owner(2, 5, 8), owner(3, 5, 8)), []int{5, 6, 7}, 2},
		{owners(owner(1, 5, 8), owner(2, 5, 9), owner(3, 5, 8)), []int{6, 5, 7}, 2},
		// All of one name, and all of the greatest one.
		{called(slices.Repeat([]int{1}, 10)...), []int{2, 3, 4, 5, 6, 7, 8, 9, 10, 1}, 9},
		{called(slices.Repeat([]int{50}, 10)...), []int{1, 2, 3, 4, 5, 6, 7, 8, 9, 50}, 9},
		{called(slices.Repeat([]int{45}, 10)...), []int{46, 47, 48, 49, 50, 1, 2, 3, 4, 45}, 9},
		{called(50, 50, 1, 1), []int{2, 50, 3, 1}, 2},
	} {
		g, times := mustSettleNames(t, c.l)
		if wantNums(t, "SettleNames", namesIn(g), c.names); times != c.times {
			t.Errorf("SettleNames(%v): %d times, want %d", c.l, times, c.times)
		}
	}
}

func TestWhoHasByHand(t *testing.T) {
	for _, c := range []struct {
		l    []impl.Owner
		name int
		want int
	}{
		{called(5), 5, 1},
		{called(5, 6), 6, 2},
		{called(5, 5), 5, 2},
		{called(5, 5, 5, 6), 5, 3},
		{owners(owner(1, 5, 9), owner(2, 5, 8), owner(3, 6, 10)), 5, 1},
		{owners(owner(1, 5, 8), owner(2, 5, 9), owner(3, 5, 9), owner(4, 5, 8)), 5, 3},
		{owners(owner(1, 5, 8), owner(2, 5, 255), owner(3, 5, 9)), 5, 2},
		{owners(owner(1, 5, 0)), 5, 1},
		{owners(owner(1, 1, 0), owner(2, 1, 0)), 1, 2},
		{owners(owner(7, 50, 0), owner(1000, 1, 255)), 50, 7},
	} {
		if g := mustHave(t, c.l, c.name); g != c.want {
			t.Errorf("WhoHas(%v, %d) = %d, want %d", c.l, c.name, g, c.want)
		}
	}
}

// asksAreAsSaid asks l for each name and each Id, and for such as are none.
func asksAreAsSaid(t *testing.T, l []impl.Owner) {
	t.Helper()
	for name := 1; name <= 50; name++ {
		if g, w := mustFree(t, l, name), freeByWords(l, name); g != w || hasName(l, g) {
			t.Fatalf("NextFree(%v, %d) = %d, want %d", l, name, g, w)
		}
		best := bestByWords(l, name)
		if best < 0 {
			cantHave(t, l, name)
		} else if g := mustHave(t, l, name); g != l[best].Id || mustBeCalled(t, l, g) != name {
			t.Fatalf("WhoHas(%v, %d) = %d, want %d", l, name, g, l[best].Id)
		}
	}
	for _, name := range wrongNames() {
		cantBeFree(t, l, name)
		cantHave(t, l, name)
	}
	for _, o := range l {
		if g := mustBeCalled(t, l, o.Id); g != o.Name {
			t.Fatalf("NameOf(%v, %d) = %d", l, o.Id, g)
		}
	}
	for _, id := range idsOfNoOwner(l) {
		cantBeCalled(t, l, id)
	}
}

func idsOfNoOwner(l []impl.Owner) []int {
	ids := []int{math.MinInt, -1, 0, 1001, math.MaxInt}
	for _, id := range append([]int{1, 2, 500, 999, 1000}, l[0].Id-1, l[len(l)-1].Id+1, l[0].Id+1) {
		if !slices.ContainsFunc(l, func(o impl.Owner) bool { return o.Id == id }) {
			ids = append(ids, id)
		}
	}
	return ids
}

// clashIsAsSaid holds what is told of the first two against the document's words.
func clashIsAsSaid(t *testing.T, l []impl.Owner) {
	t.Helper()
	a, b, clash := clashByWords(l)
	if !clash {
		cantClash(t, l)
		cantGive(t, l)
		return
	}
	if one, other := mustClash(t, l); one != l[a].Id || other != l[b].Id {
		t.Fatalf("ClashIn(%v) = %d, %d, want %d, %d", l, one, other, l[a].Id, l[b].Id)
	}
	g, id := mustGive(t, l)
	w, who, _ := giveByWords(l)
	if wantOwners(t, "GiveWay", g, w); id != who {
		t.Fatalf("GiveWay(%v): %d, want %d", l, id, who)
	}
	givesOneName(t, l, g, id)
}

// givesOneName: one name is another one now, that of who has not the better
// right of the two, and it is one that nobody had.
func givesOneName(t *testing.T, l []impl.Owner, g []impl.Owner, id int) {
	t.Helper()
	one, other := mustClash(t, l)
	for k, o := range l {
		if o.Id != id {
			if g[k] != o {
				t.Fatalf("GiveWay(%v) = %v, %d: %v did not give way", l, g, id, o)
			}
			continue
		}
		twin := l[slices.IndexFunc(l, func(x impl.Owner) bool { return x.Id == one+other-id })]
		if id != one && id != other || mustHold(t, o, twin) {
			t.Fatalf("GiveWay(%v) = %v, %d, of %d and %d", l, g, id, one, other)
		}
		renamed := owner(id, mustFree(t, l, o.Name), o.Right)
		if g[k] != renamed || hasName(l, g[k].Name) {
			t.Fatalf("GiveWay(%v) = %v, %d", l, g, id)
		}
	}
}

// settleIsAsSaid: each has a name of its own in the end, and who had the best
// right to a name has it still.
func settleIsAsSaid(t *testing.T, l []impl.Owner) {
	t.Helper()
	settled, times := mustSettleNames(t, l)
	if unlikeNames(settled) != len(l) || !impl.GoodOwners(settled) {
		t.Fatalf("SettleNames(%v) = %v", l, settled)
	}
	cantClash(t, settled)
	for k, o := range l {
		if settled[k].Id != o.Id || settled[k].Right != o.Right {
			t.Fatalf("SettleNames(%v) = %v: %v is another one", l, settled, o)
		}
		best := l[bestByWords(l, o.Name)]
		if mustBeCalled(t, settled, best.Id) != o.Name || mustHave(t, settled, o.Name) != best.Id {
			t.Fatalf("SettleNames(%v) = %v: %v had the best right", l, settled, best)
		}
	}
	// Each time one more name is had.
	if times != len(l)-unlikeNames(l) {
		t.Fatalf("SettleNames(%v): %d times", l, times)
	}
	wantOwners(t, "GiveWay, one after another", giveOneByOne(t, l, times), settled)
	again, none := mustSettleNames(t, settled)
	if wantOwners(t, "settled names", again, settled); none != 0 {
		t.Fatalf("SettleNames(%v): %d times", settled, none)
	}
}

// giveOneByOne has them give way, each at most once, as often as GiveWay tells
// true, and that is so many times.
func giveOneByOne(t *testing.T, l []impl.Owner, times int) []impl.Owner {
	t.Helper()
	var gave []int
	for range times {
		clashIsAsSaid(t, l)
		next, id := mustGive(t, l)
		if slices.Contains(gave, id) {
			t.Fatalf("%d gives way again in %v", id, l)
		}
		l, gave = next, append(gave, id)
	}
	cantGive(t, l)
	return l
}

func ownersAreAsSaid(t *testing.T, l []impl.Owner) {
	t.Helper()
	asksAreAsSaid(t, l)
	clashIsAsSaid(t, l)
	settleIsAsSaid(t, l)
}

func TestNamesOfAllSmallOwners(t *testing.T) {
	all := smallOwners()
	if len(all) != 6+36+216+1296+1024 {
		t.Fatal(len(all))
	}
	for _, l := range all {
		ownersAreAsSaid(t, l)
	}
}

func TestNamesByWords(t *testing.T) {
	calm, many := 0, 0
	for _, l := range sampleOwners(1102, 3000) {
		ownersAreAsSaid(t, l)
		if _, times := mustSettleNames(t, l); times == 0 {
			calm++
		} else if times > 3 {
			many++
		}
	}
	if calm < 300 || many < 300 {
		t.Errorf("%d without a clash, %d with many: too few of one sort", calm, many)
	}
}

// The most that there may be have all of one name, for each name.
func TestNamesOfTenOfOneName(t *testing.T) {
	r := rand.New(rand.NewSource(1103))
	for name := 1; name <= 50; name++ {
		l := called(slices.Repeat([]int{name}, 10)...)
		ownersAreAsSaid(t, l)
		for k := range l {
			l[k].Right = r.Intn(256)
		}
		ownersAreAsSaid(t, l)
		if _, times := mustSettleNames(t, l); times != 9 {
			t.Errorf("%d times for ten of the name %d", times, name)
		}
	}
}

// One alone has no other one to give way to.
func TestNamesOfOneAlone(t *testing.T) {
	for _, o := range ownersAtEdges() {
		l := owners(o)
		ownersAreAsSaid(t, l)
		settled, _ := mustSettleNames(t, l)
		wantOwners(t, "SettleNames", settled, l)
	}
}

// refusesOwners asks each function for owners that are not good.
func refusesOwners(t *testing.T, l []impl.Owner) {
	t.Helper()
	if impl.GoodOwners(l) {
		t.Fatalf("good: %v", l)
	}
	cantClash(t, l)
	cantGive(t, l)
	cantSettleNames(t, l)
	nums := []int{math.MinInt, -1, 0, 1, 2, 5, 49, 50, 51, 500, 999, 1000, 1001, math.MaxInt}
	for _, o := range l[:min(len(l), 12)] {
		nums = append(nums, o.Id, o.Name)
	}
	for _, n := range nums {
		cantBeFree(t, l, n)
		cantBeCalled(t, l, n)
		cantHave(t, l, n)
	}
}

func TestNamesOfOwnersThatAreNone(t *testing.T) {
	for _, made := range ownersThatAreNone() {
		l := ownersBehind(made)
		refusesOwners(t, l)
		wantOwnersKept(t, l, made)
	}
}

func TestNamesOfDamagedOwners(t *testing.T) {
	r := rand.New(rand.NewSource(1104))
	good := 0
	for range 4000 {
		made := damageOwners(r, randomOwners(r))
		l := ownersBehind(made)
		if goodOwnersByWords(made) {
			clashIsAsSaid(t, l)
			settleIsAsSaid(t, l)
			good++
		} else {
			refusesOwners(t, l)
		}
		wantOwnersKept(t, l, made)
	}
	if good < 500 || good > 3500 {
		t.Errorf("%d are good: too few of one sort", good)
	}
}

// ownersBehind lays owners ahead of more, which are no part of them: they have
// the best right to a name that others have too.
func ownersBehind(l []impl.Owner) []impl.Owner {
	memory := slices.Repeat(owners(owner(1000, 5, 255)), len(l)+3)
	return memory[:copy(memory, l)]
}

func wantOwnersKept(t *testing.T, l []impl.Owner, made []impl.Owner) {
	t.Helper()
	wantOwners(t, "what was given", l, made)
	wantOwners(t, "what lies behind", l[len(l):len(l)+3], slices.Repeat(owners(owner(1000, 5, 255)), 3))
}

func scribbleOwners(l []impl.Owner) {
	l = l[:cap(l)]
	for k := range l {
		l[k] = owner(-5, -5, -5)
	}
}

// Each answer is written over, up to its capacity: what was given stays as it
// was, and the same is answered again.
func TestNameAnswersAreNewMemory(t *testing.T) {
	for _, made := range sampleOwners(1105, 300) {
		l := ownersBehind(made)
		for range 2 {
			ownersAreAsSaid(t, l)
			settled, _ := mustSettleNames(t, l)
			scribbleOwners(settled)
			given, _, _ := impl.GiveWay(l)
			scribbleOwners(given)
			wantOwnersKept(t, l, made)
		}
	}
}

// Owners without a clash come back from SettleNames in memory of their own.
func TestSettledNamesAreNewMemory(t *testing.T) {
	for many := 1; many <= 10; many++ {
		made := called(risingFrom(1, many)...)
		l := ownersBehind(made)
		for range 2 {
			settled, times := mustSettleNames(t, l)
			if wantOwners(t, "SettleNames", settled, made); times != 0 {
				t.Errorf("%d times for %v", times, made)
			}
			scribbleOwners(settled)
			wantOwnersKept(t, l, made)
		}
	}
}

// Owners that lie behind a list are no part of it: they have no name.
func TestNamesReadNothingBehindAList(t *testing.T) {
	memory := called(slices.Repeat([]int{5}, 12)...)
	for many := 1; many <= 10; many++ {
		l := memory[:many]
		ownersAreAsSaid(t, l)
		cantBeCalled(t, l, many+1)
		if g := mustHave(t, l, 5); g != many {
			t.Errorf("WhoHas(%v, 5) = %d", l, g)
		}
	}
	refusesOwners(t, memory[:11])
	refusesOwners(t, memory)
	six := called(5, 6, 7, 8)
	if g := mustFree(t, six[:1], 5); g != 6 {
		t.Errorf("NextFree of one: %d", g)
	}
	wantOwners(t, "what was given", memory, called(slices.Repeat([]int{5}, 12)...))
}

func TestEmptyAndNilOwners(t *testing.T) {
	for _, none := range [][]impl.Owner{nil, {}, called(5, 5)[:0], called(5, 5)[2:]} {
		refusesOwners(t, none)
	}
}
