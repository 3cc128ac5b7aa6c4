package tests

import (
	"slices"
	"testing"

	"loop.example/headtrees/impl"
)

// pairTrees returns all trees with at most six words, the big ones, and all flat trees of seven and of MaxWords words, put in an order in which hardly one is flat.
func pairTrees(t *testing.T) [][]int {
	t.Helper()
	trees := exchangeTrees(t)
	for _, heads := range toldTrees(t, 7) {
		trees = append(trees, mustPut(t, heads, []int{3, 1, 6, 4, 2, 7, 5}))
	}
	return trees
}

// arcsIn returns both ends of each arc of a tree, in the order of the words that have a head.
func arcsIn(heads []int) [][2]int {
	var arcs [][2]int
	for at, head := range heads {
		if head != 0 {
			arcs = append(arcs, [2]int{at + 1, head})
		}
	}
	return arcs
}

// endsOneByOne returns for each word how many words depend on it, and one more if it has a head.
func endsOneByOne(heads []int) []int {
	ends := make([]int, len(heads))
	for at, head := range heads {
		ends[at] = count(heads, at+1)
		if head != 0 {
			ends[at]++
		}
	}
	return ends
}

// pairsOfPlaces returns the places of all pairs of arcs of a tree of which something holds.
func pairsOfPlaces(heads []int, holds func(a, b [2]int) bool) [][2]int {
	var pairs [][2]int
	arcs := arcsIn(heads)
	for second := range arcs {
		for first := range second {
			if holds(arcs[first], arcs[second]) {
				pairs = append(pairs, [2]int{first, second})
			}
		}
	}
	return pairs
}

// areApart reports whether no end of one arc is an end of the other one.
func areApart(a, b [2]int) bool {
	return a[0] != b[0] && a[0] != b[1] && a[1] != b[0] && a[1] != b[1]
}

// doCross reports whether two arcs cross.
func doCross(a, b [2]int) bool {
	return goByTurns(a[0], a[1], b[0], b[1])
}

// firstSides returns, of all ways to draw the arcs of a tree so that none crosses one on its side, the one that comes first if 0 comes before 1, and whether there is one. If two ways first differ at some arc, this one is linked to no arc before it, or the ways would differ there, too: so it is the first of those linked to it, and it is above in the way that comes first.
func firstSides(heads []int) ([]int, bool) {
	pairs := pairsOfPlaces(heads, doCross)
	for sides := range rows(len(heads)-1, 0, 1) {
		if !slices.ContainsFunc(pairs, func(pair [2]int) bool { return sides[pair[0]] == sides[pair[1]] }) {
			return sides, true
		}
	}
	return nil, false
}

// isStar reports whether there is a word so that each word but the root is this word, or has it for its head.
func isStar(heads []int) bool {
	for middle := 1; middle <= len(heads); middle++ {
		if !slices.ContainsFunc(arcsIn(heads), func(arc [2]int) bool { return arc[0] != middle && arc[1] != middle }) {
			return true
		}
	}
	return false
}

// shapedStar returns the star of so many words with some word in its middle, and some root, which may be another word.
func shapedStar(words, middle, root int) []int {
	heads := starOf(words, middle)
	heads[root-1] = 0
	if root != middle {
		heads[middle-1] = root
	}
	return heads
}

// pairExample is a tree with the numbers of its ends, of its pairs of arcs that are apart, and of crossings over all orders, and with the sides of its arcs, nil if there are none.
type pairExample struct {
	name  string
	heads []int
	ends  []int
	apart int
	sum   int
	sides []int
	star  bool
}

// pairExamples returns trees that are worked out by hand.
func pairExamples() []pairExample {
	return []pairExample{
		{"one word", []int{0}, []int{0}, 0, 0, []int{}, true},
		{"two words", []int{2, 0}, []int{1, 1}, 0, 0, []int{0}, true},
		{"two words, the first one the root", []int{0, 1}, []int{1, 1}, 0, 0, []int{0}, true},
		{"three words", []int{3, 0, 2}, []int{1, 1, 2}, 0, 0, []int{0, 0}, true},
		{"a star, the root first", []int{0, 1, 1, 1}, []int{3, 1, 1, 1}, 0, 0, []int{0, 0, 0}, true},
		{"a star, the root in the middle", []int{2, 0, 2, 2}, []int{1, 3, 1, 1}, 0, 0, []int{0, 0, 0}, true},
		{"a star, the root last", []int{4, 4, 4, 0}, []int{1, 1, 1, 3}, 0, 0, []int{0, 0, 0}, true},
		{"a star with another word in its middle", []int{2, 3, 0, 2}, []int{1, 3, 1, 1}, 0, 0, []int{0, 0, 0}, true},
		{"a star of MaxWords words", []int{5, 5, 5, 5, 0, 5, 5, 5}, []int{1, 1, 1, 1, 7, 1, 1, 1}, 0, 0, []int{0, 0, 0, 0, 0, 0, 0}, true},
		{"a chain", []int{0, 1, 2, 3}, []int{1, 2, 2, 1}, 1, 8, []int{0, 0, 0}, false},
		{"a chain that crosses", []int{3, 4, 0, 3}, []int{1, 1, 2, 2}, 1, 8, []int{0, 1, 0}, false},
		{"a chain of MaxWords words", []int{0, 1, 2, 3, 4, 5, 6, 7}, []int{1, 2, 2, 2, 2, 2, 2, 1}, 15, 201600, []int{0, 0, 0, 0, 0, 0, 0}, false},
		{"no star for one arc", []int{8, 4, 4, 0, 4, 4, 4, 4}, []int{1, 1, 1, 6, 1, 1, 1, 2}, 5, 67200, []int{0, 0, 0, 0, 0, 0, 0}, false},
		{"the first arc above, the last one below", []int{3, 0, 2, 3, 2}, []int{1, 2, 3, 1, 1}, 2, 80, []int{0, 0, 0, 1}, false},
		{"a ring of four", []int{0, 1, 1, 1, 2, 2}, []int{3, 3, 1, 1, 1, 1}, 4, 960, []int{0, 0, 0, 1, 1}, false},
		{"arcs linked by later ones", []int{0, 4, 1, 1, 2, 2}, []int{2, 3, 1, 2, 1, 1}, 5, 1200, []int{0, 1, 1, 0, 0}, false},
		{"arcs not linked to the first ones", []int{3, 4, 0, 3, 7, 8, 4, 7}, []int{1, 1, 2, 3, 1, 1, 3, 2}, 13, 174720, []int{0, 1, 0, 0, 1, 0, 0}, false},
		{"a ring of three", []int{0, 1, 2, 1, 2, 3}, []int{2, 3, 2, 1, 1, 1}, 5, 1200, nil, false},
		{"a ring of five", []int{0, 5, 1, 2, 3, 4}, []int{1, 2, 2, 2, 2, 1}, 6, 1440, nil, false},
		{"a ring of seven", []int{0, 4, 5, 6, 7, 8, 1, 3}, []int{1, 1, 2, 2, 2, 2, 2, 2}, 15, 201600, nil, false},
		{"a ring of three not linked to the first arcs", []int{0, 1, 1, 3, 4, 3, 4, 5}, []int{2, 1, 3, 3, 2, 1, 1, 1}, 13, 174720, nil, false},
		{"all that are apart cross", []int{0, 5, 6, 7, 1, 2, 3, 4}, []int{1, 2, 2, 2, 2, 2, 2, 1}, 15, 201600, nil, false},
	}
}

// eachExampleInOtherOrders checks something of the trees that are worked out by hand, put in other orders.
func eachExampleInOtherOrders(t *testing.T, check func(e pairExample, heads []int)) {
	t.Helper()
	for _, e := range pairExamples() {
		for _, order := range otherOrders(len(e.heads)) {
			check(e, mustPut(t, e.heads, order))
		}
	}
}

func TestP45EachArcHasTwoEnds(t *testing.T) {
	for _, heads := range pairTrees(t) {
		ends, sum := impl.EndsOf(heads), 0
		for _, many := range ends {
			sum += many
			if many < 1 && len(heads) > 1 {
				t.Fatalf("EndsOf(%v) = %v", heads, ends)
			}
		}
		if len(ends) != len(heads) || sum != 2*(len(heads)-1) {
			t.Fatalf("EndsOf(%v) = %v, and together %d", heads, ends, sum)
		}
		if back := impl.EndsOf(impl.BackOf(heads)); !slices.Equal(back, reversed(ends)) {
			t.Fatalf("EndsOf(%v) = %v, but from the last word on %v", heads, ends, back)
		}
	}
}

func TestP45EndsOfIsCountedOneByOne(t *testing.T) {
	for _, heads := range pairTrees(t) {
		if ends, want := impl.EndsOf(heads), endsOneByOne(heads); !slices.Equal(ends, want) {
			t.Fatalf("EndsOf(%v) = %v, but one by one they are %v", heads, ends, want)
		}
	}
}

// checkEndsInOtherOrders checks that the ends of a tree go with their words.
func checkEndsInOtherOrders(t *testing.T, heads, ends []int) {
	t.Helper()
	for _, order := range otherOrders(len(heads)) {
		put := mustPut(t, heads, order)
		got := impl.EndsOf(put)
		for at, word := range order {
			if len(got) != len(order) || got[at] != ends[word-1] {
				t.Fatalf("EndsOf(%v) = %v, but of %v, from which it comes by %v, it is %v", put, got, heads, order, ends)
			}
		}
	}
}

func TestP45EndsGoWithTheirWords(t *testing.T) {
	for _, heads := range sampleTrees() {
		checkEndsInOtherOrders(t, heads, impl.EndsOf(heads))
	}
}

func TestP45EndsOfExamples(t *testing.T) {
	for _, e := range pairExamples() {
		if ends := impl.EndsOf(e.heads); !slices.Equal(ends, e.ends) {
			t.Errorf("%s: EndsOf(%v) = %v", e.name, e.heads, ends)
		}
		checkEndsInOtherOrders(t, e.heads, e.ends)
	}
}

func TestP45EndsOfOthers(t *testing.T) {
	for name, heads := range notTrees() {
		if ends := impl.EndsOf(heads); len(ends) != 0 {
			t.Errorf("%s: EndsOf(%v) = %v", name, heads, ends)
		}
	}
}

func TestP45EndsOfIsNew(t *testing.T) {
	for _, heads := range append(bigTrees(), []int{0}, []int{2, 0, 2}, []int{2, 1}) {
		checkNewRow(t, heads, impl.EndsOf)
	}
}

func TestP46NoMoreCrossThanAreApart(t *testing.T) {
	for _, heads := range pairTrees(t) {
		apart := impl.PairsApart(heads)
		if crossings := impl.CrossingsOf(heads); apart < crossings {
			t.Fatalf("PairsApart(%v) = %d, but %d cross", heads, apart, crossings)
		}
		if star := impl.StarOk(heads); star != (apart == 0) {
			t.Fatalf("PairsApart(%v) = %d, but StarOk is %v", heads, apart, star)
		}
		if back := impl.PairsApart(impl.BackOf(heads)); back != apart {
			t.Fatalf("PairsApart(%v) = %d, but from the last word on %d", heads, apart, back)
		}
	}
}

func TestP46PairsApartIsCountedOneByOne(t *testing.T) {
	for _, heads := range pairTrees(t) {
		if got, want := impl.PairsApart(heads), len(pairsOfPlaces(heads, areApart)); got != want {
			t.Fatalf("PairsApart(%v) = %d, but one by one there are %d", heads, got, want)
		}
	}
}

func TestP46PairsApartExamples(t *testing.T) {
	eachExampleInOtherOrders(t, func(e pairExample, heads []int) {
		if apart := impl.PairsApart(heads); apart != e.apart {
			t.Errorf("%s: PairsApart(%v) = %d", e.name, heads, apart)
		}
	})
}

func TestP46PairsApartOfOthers(t *testing.T) {
	for name, heads := range notTrees() {
		if apart := impl.PairsApart(heads); apart != -1 {
			t.Errorf("%s: PairsApart(%v) = %d", name, heads, apart)
		}
	}
}

// checkCrossingsSum checks the sum of the crossings that a tree has in all orders of its words, which are given, and with each of them that of the tree in this order.
func checkCrossingsSum(t *testing.T, heads []int, orders [][]int) {
	t.Helper()
	want, sum := impl.CrossingsSum(heads), 0
	for _, order := range orders {
		put := mustPut(t, heads, order)
		sum += impl.CrossingsOf(put)
		if got := impl.CrossingsSum(put); got != want {
			t.Fatalf("CrossingsSum(%v) = %d, but it is %v in another order, where it is %d", put, got, heads, want)
		}
	}
	if sum != want {
		t.Fatalf("CrossingsSum(%v) = %d, but of all orders it is %d", heads, want, sum)
	}
}

func TestP47OverAllOrdersAThirdCrosses(t *testing.T) {
	for words := 1; words <= 5; words++ {
		orders := allOrders(words)
		for _, heads := range allTrees(words) {
			checkCrossingsSum(t, heads, orders)
		}
	}
}

func TestP47OverAllOrdersAThirdCrossesWhateverTheShape(t *testing.T) {
	for _, words := range []int{6, 7} {
		orders, seen := allOrders(words), map[string]bool{}
		for _, heads := range toldTrees(t, words) {
			if shape := shapeBelow(heads, 0); !seen[shape] {
				seen[shape] = true
				checkCrossingsSum(t, heads, orders)
			}
		}
	}
}

func TestP47OverAllOrdersAThirdOfMaxWordsCrosses(t *testing.T) {
	orders := allOrders(impl.MaxWords)
	for _, heads := range bigTrees() {
		checkCrossingsSum(t, heads, orders)
	}
}

func TestP47CrossingsSumExamples(t *testing.T) {
	eachExampleInOtherOrders(t, func(e pairExample, heads []int) {
		if sum := impl.CrossingsSum(heads); sum != e.sum {
			t.Errorf("%s: CrossingsSum(%v) = %d", e.name, heads, sum)
		}
	})
}

func TestP47CrossingsSumOfOthers(t *testing.T) {
	for name, heads := range notTrees() {
		if sum := impl.CrossingsSum(heads); sum != -1 {
			t.Errorf("%s: CrossingsSum(%v) = %d", name, heads, sum)
		}
	}
}

// checkSides checks that no two arcs of a tree on the same side cross, and that all have a side, above if none cross.
func checkSides(t *testing.T, heads, sides []int) {
	t.Helper()
	arcs := arcsIn(heads)
	if len(sides) != len(arcs) {
		t.Fatalf("SidesFor(%v) = %v", heads, sides)
	}
	for at, side := range sides {
		if side != 0 && (side != 1 || impl.CrossingsOf(heads) == 0) {
			t.Fatalf("SidesFor(%v) = %v", heads, sides)
		}
		for before, other := range sides[:at] {
			if side == other && impl.CrossOk(arcs[before][0], arcs[before][1], arcs[at][0], arcs[at][1]) {
				t.Fatalf("SidesFor(%v) = %v, but on one side %v and %v cross", heads, sides, arcs[before], arcs[at])
			}
		}
	}
}

func TestP48OnOneSideNoneCross(t *testing.T) {
	for _, heads := range pairTrees(t) {
		sides, ok := impl.SidesFor(heads)
		if ok {
			checkSides(t, heads, sides)
		} else if impl.CrossingsOf(heads) <= 2 || len(sides) != 0 {
			t.Fatalf("SidesFor(%v) = %v, %v, but %d cross", heads, sides, ok, impl.CrossingsOf(heads))
		}
	}
}

func TestP48SidesForIsTheFirstOfAllWays(t *testing.T) {
	for _, heads := range pairTrees(t) {
		want, wantOk := firstSides(heads)
		if sides, ok := impl.SidesFor(heads); ok != wantOk || !slices.Equal(sides, want) {
			t.Fatalf("SidesFor(%v) = %v, %v, but of all ways the first one is %v, %v", heads, sides, ok, want, wantOk)
		}
	}
}

func TestP48ReadFromTheLastWordThereIsAWay(t *testing.T) {
	for _, heads := range pairTrees(t) {
		_, ok := impl.SidesFor(heads)
		if _, backOk := impl.SidesFor(impl.BackOf(heads)); backOk != ok {
			t.Fatalf("SidesFor(%v) has %v, but from the last word on %v", heads, ok, backOk)
		}
	}
}

func TestP48SidesForExamples(t *testing.T) {
	for _, e := range pairExamples() {
		if sides, ok := impl.SidesFor(e.heads); ok != (e.sides != nil) || !slices.Equal(sides, e.sides) {
			t.Errorf("%s: SidesFor(%v) = %v, %v", e.name, e.heads, sides, ok)
		}
	}
}

func TestP48SidesForOthers(t *testing.T) {
	for name, heads := range notTrees() {
		if sides, ok := impl.SidesFor(heads); ok || len(sides) != 0 {
			t.Errorf("%s: SidesFor(%v) = %v, %v", name, heads, sides, ok)
		}
	}
}

func TestP48SidesForIsNew(t *testing.T) {
	for _, e := range pairExamples() {
		checkNewRow(t, e.heads, func(heads []int) []int {
			sides, _ := impl.SidesFor(heads)
			return sides
		})
	}
}

func TestP49StarsNeverCross(t *testing.T) {
	for _, heads := range pairTrees(t) {
		star := impl.StarOk(heads)
		if star && impl.CrossingsOf(heads) != 0 {
			t.Fatalf("StarOk(%v) holds, but %d cross", heads, impl.CrossingsOf(heads))
		}
		if !star && len(heads) <= 3 {
			t.Fatalf("StarOk(%v) does not hold", heads)
		}
		if flat := impl.MadeFlat(heads); impl.StarOk(flat) != star {
			t.Fatalf("StarOk(%v) = %v, but of %v, which is it made flat, it is not so", heads, star, flat)
		}
	}
}

func TestP49StarOkIsThatAWordIsAnEndOfEachArc(t *testing.T) {
	for _, heads := range pairTrees(t) {
		if got, want := impl.StarOk(heads), isStar(heads); got != want {
			t.Fatalf("StarOk(%v) = %v", heads, got)
		}
	}
}

func TestP49StarOkOfAllStars(t *testing.T) {
	for words := 1; words <= impl.MaxWords; words++ {
		for middle := 1; middle <= words; middle++ {
			for root := 1; root <= words; root++ {
				if heads := shapedStar(words, middle, root); !impl.StarOk(heads) || impl.CrossingsOf(heads) != 0 {
					t.Errorf("StarOk(%v) = %v", heads, impl.StarOk(heads))
				}
			}
		}
	}
}

func TestP49StarOkOfChains(t *testing.T) {
	for words := 1; words <= impl.MaxWords; words++ {
		for root := 1; root <= words; root++ {
			if chain := chainOf(words, root); impl.StarOk(chain) != (words <= 3) {
				t.Errorf("StarOk(%v) = %v", chain, impl.StarOk(chain))
			}
		}
	}
}

func TestP49StarOkExamples(t *testing.T) {
	eachExampleInOtherOrders(t, func(e pairExample, heads []int) {
		if star := impl.StarOk(heads); star != e.star {
			t.Errorf("%s: StarOk(%v) = %v", e.name, heads, star)
		}
	})
}

func TestP49StarOkOfOthers(t *testing.T) {
	for name, heads := range notTrees() {
		if impl.StarOk(heads) {
			t.Errorf("%s: StarOk(%v) holds", name, heads)
		}
	}
	// Each of these has a word that is an end of each arc.
	for _, heads := range [][]int{{2, 1}, {0, 0}, {0, 0, 1, 1}, {2, 1, 1, 1}, {0, 1, 1, 1, 1, 1, 1, 1, 1}} {
		if impl.StarOk(heads) {
			t.Errorf("StarOk(%v) holds", heads)
		}
	}
}

func TestPairsLeaveTheirArguments(t *testing.T) {
	for _, heads := range append(append(bigTrees(), notFlat()...), []int{0}, []int{2, 3, 1}, []int{0, 0}) {
		argument := roomy(heads)
		impl.EndsOf(argument)
		impl.PairsApart(argument)
		impl.CrossingsSum(argument)
		impl.SidesFor(argument)
		impl.StarOk(argument)
		checkApart(t, nil, argument, heads)
	}
}
