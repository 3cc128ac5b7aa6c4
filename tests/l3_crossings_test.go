package tests

import (
	"math"
	"slices"
	"testing"

	"loop.example/headtrees/impl"
)

// goByTurns reports whether of all ends of two arcs, from the least to the greatest one, each second one is an end of the same arc.
func goByTurns(a, b, c, d int) bool {
	ends := []int{a, b, c, d}
	slices.Sort(ends)
	first, second := []int{min(a, b), max(a, b)}, []int{min(c, d), max(c, d)}
	turns := [][]int{{ends[0], ends[2]}, {ends[1], ends[3]}}
	return len(slices.Compact(ends)) == 4 &&
		(slices.Equal(first, turns[0]) && slices.Equal(second, turns[1]) || slices.Equal(second, turns[0]) && slices.Equal(first, turns[1]))
}

func TestP12CrossOkOfAllSmallArcs(t *testing.T) {
	for ends := range rows(4, -1, 8) {
		want := ends[0] > 0 && ends[1] > 0 && ends[2] > 0 && ends[3] > 0 && goByTurns(ends[0], ends[1], ends[2], ends[3])
		if got := impl.CrossOk(ends[0], ends[1], ends[2], ends[3]); got != want {
			t.Fatalf("CrossOk of %v = %v", ends, got)
		}
	}
}

func TestP12ArcsWithACommonEndDoNotCross(t *testing.T) {
	for ends := range rows(4, 0, 8) {
		a, b, c, d := ends[0], ends[1], ends[2], ends[3]
		holds := impl.CrossOk(a, b, c, d)
		if impl.CrossOk(c, d, a, b) != holds || impl.CrossOk(b, a, c, d) != holds || impl.CrossOk(a, b, d, c) != holds {
			t.Fatalf("CrossOk of %v is %v, but not so if arcs or ends are exchanged", ends, holds)
		}
		slices.Sort(ends)
		if holds && len(slices.Compact(ends)) != 4 {
			t.Fatalf("CrossOk(%d, %d, %d, %d) holds of arcs with a common end", a, b, c, d)
		}
	}
}

func TestP12CrossOkExamples(t *testing.T) {
	examples := map[[4]int]bool{
		{4, 2, 1, 3}:      true,
		{1, 3, 2, 4}:      true,
		{2, 4, 3, 1}:      true,
		{1, 100, 99, 101}: true,
		{1, 3, 3, 5}:      false,
		{1, 3, 1, 5}:      false,
		{5, 3, 1, 5}:      false,
		{2, 4, 2, 4}:      false,
		{2, 4, 4, 2}:      false,
		{1, 5, 2, 4}:      false,
		{2, 4, 1, 5}:      false,
		{1, 2, 3, 4}:      false,
		{3, 4, 2, 1}:      false,
	}
	for ends, want := range examples {
		if got := impl.CrossOk(ends[0], ends[1], ends[2], ends[3]); got != want {
			t.Errorf("CrossOk of %v = %v", ends, got)
		}
	}
}

func TestP12CrossOkOfGreatNumbers(t *testing.T) {
	if !impl.CrossOk(1, math.MaxInt-1, 2, math.MaxInt) || !impl.CrossOk(math.MaxInt, 2, 1, math.MaxInt-1) {
		t.Error("CrossOk does not hold of great numbers")
	}
	if impl.CrossOk(1, math.MaxInt, 2, math.MaxInt) || impl.CrossOk(1, math.MaxInt, 2, math.MaxInt-1) {
		t.Error("CrossOk holds of arcs with a common end, or within each other")
	}
}

func TestP12CrossOkOfOthers(t *testing.T) {
	for _, low := range []int{0, -1, -2, -8, math.MinInt} {
		// Each of these would cross if a word below 1 were an end.
		for _, ends := range [][4]int{{low, 3, 2, 4}, {3, low, 2, 4}, {2, 4, low, 3}, {2, 4, 3, low}, {low, 3, 4, 1}} {
			if impl.CrossOk(ends[0], ends[1], ends[2], ends[3]) {
				t.Errorf("CrossOk of %v holds", ends)
			}
		}
	}
	for _, ends := range [][4]int{{2, 2, 1, 3}, {1, 3, 2, 2}, {1, 1, 1, 1}, {0, 0, 1, 2}, {1, 2, -3, -3}, {-4, -2, -3, -1}} {
		if impl.CrossOk(ends[0], ends[1], ends[2], ends[3]) {
			t.Errorf("CrossOk of %v holds", ends)
		}
	}
}

// crossingsOneByOne counts the pairs of words with heads whose arcs go by turns.
func crossingsOneByOne(heads []int) int {
	count := 0
	for second, head := range heads {
		for first, other := range heads[:second] {
			if head != 0 && other != 0 && goByTurns(first+1, other, second+1, head) {
				count++
			}
		}
	}
	return count
}

func TestP13CrossingsOfIsCountedOneByOne(t *testing.T) {
	for _, heads := range sampleTrees() {
		if got, want := impl.CrossingsOf(heads), crossingsOneByOne(heads); got != want {
			t.Fatalf("CrossingsOf(%v) = %d, but %d cross", heads, got, want)
		}
	}
}

func TestP13FlatTreesHaveNoCrossings(t *testing.T) {
	for _, heads := range sampleTrees() {
		crossings := impl.CrossingsOf(heads)
		if (impl.FlatOk(heads) || len(heads) < 4) && crossings != 0 {
			t.Fatalf("CrossingsOf(%v) = %d", heads, crossings)
		}
		if back := impl.CrossingsOf(impl.BackOf(heads)); back != crossings {
			t.Fatalf("CrossingsOf(%v) = %d, but from the last word on %d", heads, crossings, back)
		}
	}
}

func TestP13CrossingsOfExamples(t *testing.T) {
	examples := []struct {
		heads     []int
		crossings int
	}{
		{[]int{0}, 0},
		{[]int{2, 0}, 0},
		{[]int{3, 0, 2}, 0},
		{[]int{3, 0, 2, 3}, 0},
		{[]int{3, 4, 0, 3}, 1},
		{[]int{3, 0, 2, 3, 2}, 1},
		{[]int{5, 5, 5, 5, 0, 5, 5, 5}, 0},
		{[]int{8, 4, 4, 0, 4, 4, 4, 4}, 0},
		{[]int{0, 5, 6, 7, 1, 2, 3, 4}, 15},
	}
	for _, e := range examples {
		if got := impl.CrossingsOf(e.heads); got != e.crossings {
			t.Errorf("CrossingsOf(%v) = %d", e.heads, got)
		}
	}
}

func TestP13CrossingsOfOthers(t *testing.T) {
	for name, heads := range notTrees() {
		if got := impl.CrossingsOf(heads); got != -1 {
			t.Errorf("%s: CrossingsOf(%v) = %d", name, heads, got)
		}
	}
}

// isBetween reports whether a word is to the right of one of two words, and to the left of the other one.
func isBetween(word, a, b int) bool {
	return a < word && word < b || b < word && word < a
}

// isCovered reports whether a word is between some word that has a head and this head.
func isCovered(heads []int, word int) bool {
	for at, head := range heads {
		if head != 0 && isBetween(word, at+1, head) {
			return true
		}
	}
	return false
}

func TestP14CoveredOkIsToBeBetweenAWordAndItsHead(t *testing.T) {
	for _, heads := range sampleTrees() {
		for word := 1; word <= len(heads); word++ {
			if got, want := impl.CoveredOk(heads, word), isCovered(heads, word); got != want {
				t.Fatalf("CoveredOk(%v, %d) = %v", heads, word, got)
			}
		}
	}
}

func TestP14BothEndsOfASentenceLieUnderNoArc(t *testing.T) {
	for _, heads := range sampleTrees() {
		if impl.CoveredOk(heads, 1) || impl.CoveredOk(heads, len(heads)) {
			t.Fatalf("the first or the last word of %v is covered", heads)
		}
		for at, head := range heads {
			// The arc may be drawn from either end: what counts is the left neighbour of the greater one.
			neighbour := max(at+1, head) - 1
			if head != 0 && min(at+1, head) < neighbour && !impl.CoveredOk(heads, neighbour) {
				t.Fatalf("of %v, the arc from %d to %d does not cover %d", heads, at+1, head, neighbour)
			}
		}
	}
}

func TestP14CoveredOkExamples(t *testing.T) {
	examples := []struct {
		heads   []int
		covered []int
	}{
		{[]int{0}, nil},
		{[]int{2, 0}, nil},
		{[]int{0, 1, 2, 3, 4, 5, 6, 7}, nil},
		{[]int{2, 0, 2}, nil},
		{[]int{3, 0, 2}, []int{2}},
		{[]int{0, 1, 1}, []int{2}},
		{[]int{3, 0, 2, 3, 2}, []int{2, 3, 4}},
		{[]int{2, 0, 2, 3, 2}, []int{3, 4}},
		{[]int{8, 4, 4, 0, 4, 4, 4, 4}, []int{2, 3, 4, 5, 6, 7}},
	}
	for _, e := range examples {
		for word := 1; word <= len(e.heads); word++ {
			if got := impl.CoveredOk(e.heads, word); got != slices.Contains(e.covered, word) {
				t.Errorf("CoveredOk(%v, %d) = %v", e.heads, word, got)
			}
		}
	}
}

func TestP14CoveredOkOfOthers(t *testing.T) {
	for name, heads := range notTrees() {
		for word := -1; word <= len(heads)+1; word++ {
			if impl.CoveredOk(heads, word) {
				t.Errorf("%s: CoveredOk(%v, %d) holds", name, heads, word)
			}
		}
	}
	for _, heads := range sampleTrees() {
		for _, word := range notWords(len(heads)) {
			if impl.CoveredOk(heads, word) {
				t.Fatalf("CoveredOk(%v, %d) holds", heads, word)
			}
		}
	}
}

// hasRows reports whether between the first and the last word of each yield there are all words of it.
func hasRows(heads []int) bool {
	for word := 1; word <= len(heads); word++ {
		count, first, last := 0, word, word
		for from := 1; from <= len(heads); from++ {
			if leadsTo(heads, from, word) {
				count, first, last = count+1, min(first, from), max(last, from)
			}
		}
		if last-first+1 != count {
			return false
		}
	}
	return true
}

func TestP15FlatOkIsThatYieldsAreRows(t *testing.T) {
	for _, heads := range sampleTrees() {
		if got, want := impl.FlatOk(heads), hasRows(heads); got != want {
			t.Fatalf("FlatOk(%v) = %v", heads, got)
		}
	}
}

func TestP15YieldsAreRowsJustWithoutCrossings(t *testing.T) {
	for _, heads := range sampleTrees() {
		uncrossed := impl.CrossingsOf(heads) == 0 && !impl.CoveredOk(heads, impl.RootOf(heads))
		if flat := impl.FlatOk(heads); flat != uncrossed {
			t.Fatalf("FlatOk(%v) = %v, but %d cross, and that the root is covered is %v", heads, flat, impl.CrossingsOf(heads), impl.CoveredOk(heads, impl.RootOf(heads)))
		}
	}
}

// allUnderHeads reports whether all words between a word and its head are under that head.
func allUnderHeads(heads []int) bool {
	for at, head := range heads {
		for word := 1; word <= len(heads); word++ {
			if head != 0 && isBetween(word, at+1, head) && !impl.UnderOk(heads, word, head) {
				return false
			}
		}
	}
	return true
}

func TestP15AllWordsUnderAnArcAreUnderItsHead(t *testing.T) {
	for _, heads := range sampleTrees() {
		if flat := impl.FlatOk(heads); flat != allUnderHeads(heads) {
			t.Fatalf("FlatOk(%v) = %v, but all words under an arc are under its head: %v", heads, flat, !flat)
		}
	}
}

func TestP15FlatOkOfEachNumberOfWords(t *testing.T) {
	for at, want := range []int{1, 2, 7, 30, 143, 728} {
		count := 0
		for heads := range rows(at+1, 0, at+1) {
			if impl.FlatOk(heads) {
				count++
			}
		}
		if count != want {
			t.Errorf("%d trees with %d words are flat", count, at+1)
		}
	}
}

func TestP15FlatOkExamples(t *testing.T) {
	examples := []struct {
		name  string
		heads []int
		flat  bool
	}{
		{"one word", []int{0}, true},
		{"two words", []int{2, 0}, true},
		{"a star", []int{2, 0, 2}, true},
		{"a chain", []int{0, 1, 2, 3, 4, 5, 6, 7}, true},
		{"a chain from the last word", []int{2, 3, 4, 5, 6, 7, 8, 0}, true},
		{"a star of MaxWords words", []int{5, 5, 5, 5, 0, 5, 5, 5}, true},
		{"neither chain nor star", []int{2, 4, 2, 0, 6, 4, 8, 6}, true},
		{"a root under an arc", []int{3, 0, 2}, false},
		{"a root under an arc, with MaxWords words", []int{8, 4, 4, 0, 4, 4, 4, 4}, false},
		{"arcs that cross, over a root", []int{3, 0, 2, 3, 2}, false},
		{"arcs that cross, over no root", []int{0, 1, 5, 2, 1}, false},
		{"many arcs that cross", []int{0, 5, 6, 7, 1, 2, 3, 4}, false},
		{"arcs that cross behind the root", []int{3, 4, 0, 3}, false},
		{"two gaps", []int{0, 1, 2, 1, 2, 1, 2}, false},
	}
	for _, e := range examples {
		if got := impl.FlatOk(e.heads); got != e.flat {
			t.Errorf("%s: FlatOk(%v) = %v", e.name, e.heads, got)
		}
	}
}

func TestP15FlatOkOfOthers(t *testing.T) {
	for name, heads := range notTrees() {
		if impl.FlatOk(heads) {
			t.Errorf("%s: FlatOk(%v) holds", name, heads)
		}
	}
}

func TestP16BackTwiceItIsAsBefore(t *testing.T) {
	for _, heads := range sampleTrees() {
		back := impl.BackOf(heads)
		if again := impl.BackOf(back); !slices.Equal(again, heads) {
			t.Fatalf("BackOf(%v) = %v, and back again it is %v", heads, back, again)
		}
		if impl.FlatOk(back) != impl.FlatOk(heads) {
			t.Fatalf("just one of %v and %v, read from the last word, is flat", heads, back)
		}
		if depths := impl.DepthOf(back); !slices.Equal(depths, reversed(impl.DepthOf(heads))) {
			t.Fatalf("DepthOf(%v) = %v, and from the last word on it is %v", heads, impl.DepthOf(heads), depths)
		}
	}
}

func TestP16BackOfIsToPutInTheOppositeOrder(t *testing.T) {
	for _, heads := range sampleTrees() {
		back := impl.BackOf(heads)
		if put := mustPut(t, heads, reversed(numbersUpTo(len(heads)))); !slices.Equal(back, put) {
			t.Fatalf("BackOf(%v) = %v, but put in order it is %v", heads, back, put)
		}
		for at, head := range reversed(heads) {
			if head != 0 {
				head = len(heads) + 1 - head
			}
			if back[at] != head {
				t.Fatalf("BackOf(%v) = %v", heads, back)
			}
		}
	}
}

func TestP16BackOfExamples(t *testing.T) {
	examples := []struct{ heads, back []int }{
		{[]int{0}, []int{0}},
		{[]int{2, 0}, []int{0, 1}},
		{[]int{2, 0, 2}, []int{2, 0, 2}},
		{[]int{3, 0, 2, 3, 2}, []int{4, 3, 4, 0, 3}},
		{[]int{0, 3, 1, 3, 1}, []int{5, 3, 5, 3, 0}},
		{[]int{0, 1, 2, 3, 4, 5, 6, 7}, []int{2, 3, 4, 5, 6, 7, 8, 0}},
	}
	for _, e := range examples {
		if back := impl.BackOf(e.heads); !slices.Equal(back, e.back) {
			t.Errorf("BackOf(%v) = %v", e.heads, back)
		}
	}
}

func TestP16BackOfOthers(t *testing.T) {
	for name, heads := range notTrees() {
		if back := impl.BackOf(heads); len(back) != 0 {
			t.Errorf("%s: BackOf(%v) = %v", name, heads, back)
		}
	}
}

func TestP16BackOfIsNew(t *testing.T) {
	for _, heads := range append(bigTrees(), []int{0}, []int{2, 0, 2}) {
		checkNewRow(t, heads, impl.BackOf)
	}
}

func TestCrossingsLeaveTheirArguments(t *testing.T) {
	for _, heads := range append(bigTrees(), []int{2, 3, 1}, []int{0, 0}) {
		argument := roomy(heads)
		impl.CrossingsOf(argument)
		impl.FlatOk(argument)
		impl.BackOf(argument)
		for word := range len(heads) + 2 {
			impl.CoveredOk(argument, word)
		}
		checkApart(t, nil, argument, heads)
	}
}
