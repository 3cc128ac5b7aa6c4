package tests

import (
	"cmp"
	"math"
	"math/big"
	"slices"
	"testing"

	"loop.example/headtrees/impl"
)

// flatTrees returns all flat trees with so many words, found one by one among all trees, in no order that the document names.
func flatTrees(words int) [][]int {
	return slices.DeleteFunc(allTrees(words), func(heads []int) bool { return !hasRows(heads) })
}

// rootsIn returns the words from first to last whose heads are elsewhere: the roots of the trees of a row, or that of just one tree.
func rootsIn(heads []int, first, last int) []int {
	var roots []int
	for word := first; word <= last; word++ {
		if head := heads[word-1]; head < first || head > last {
			roots = append(roots, word)
		}
	}
	return roots
}

// lastUnder returns the last word of the yield of a word.
func lastUnder(heads []int, word int) int {
	last := word
	for from := range heads {
		if leadsTo(heads, from+1, word) {
			last = max(last, from+1)
		}
	}
	return last
}

// compareTrees compares the trees that two flat trees have from first to last, as the document orders them.
func compareTrees(a, b []int, first, last int) int {
	root, other := rootsIn(a, first, last)[0], rootsIn(b, first, last)[0]
	if root != other {
		return cmp.Compare(root, other)
	}
	return cmp.Or(compareRows(a, b, first, root-1), compareRows(a, b, root+1, last))
}

// compareRows compares the rows of trees that two flat trees have from first to last, as the document orders them.
func compareRows(a, b []int, first, last int) int {
	if first > last {
		return 0
	}
	end, other := lastUnder(a, rootsIn(a, first, last)[0]), lastUnder(b, rootsIn(b, first, last)[0])
	if end != other {
		return cmp.Compare(end, other)
	}
	return cmp.Or(compareTrees(a, b, first, end), compareRows(a, b, end+1, last))
}

// flatInOrder returns all flat trees with so many words in the order that the document names.
func flatInOrder(words int) [][]int {
	trees := flatTrees(words)
	slices.SortFunc(trees, func(a, b []int) int { return compareTrees(a, b, 1, words) })
	return trees
}

// notCounted returns numbers of words for which no flat trees are counted, nor rows of them.
func notCounted() []int {
	return []int{-1, -2, -6, -7, -64, math.MinInt, 7, 8, 9, 10, 12, 63, 64, 65, 1000, math.MaxInt}
}

func TestP17FlatTreesAreCountedOneByOne(t *testing.T) {
	for words := 1; words <= 6; words++ {
		if got, want := impl.CountFlat(words), len(flatTrees(words)); got != want {
			t.Errorf("CountFlat(%d) = %d, but there are %d", words, got, want)
		}
	}
}

func TestP17FlatTreesAreCountedByChoices(t *testing.T) {
	for words := 1; words <= 6; words++ {
		count := impl.CountFlat(words)
		choices := new(big.Int).Binomial(int64(3*words-2), int64(words-1))
		if int64(words*count) != choices.Int64() {
			t.Errorf("CountFlat(%d) = %d, and the choices are %d", words, count, choices)
		}
		if count > impl.CountTrees(words) {
			t.Errorf("CountFlat(%d) = %d, but CountTrees is %d", words, count, impl.CountTrees(words))
		}
	}
}

func TestP17CountFlatOfEachNumber(t *testing.T) {
	for at, want := range []int{1, 2, 7, 30, 143, 728} {
		if got := impl.CountFlat(at + 1); got != want {
			t.Errorf("CountFlat(%d) = %d", at+1, got)
		}
	}
}

func TestP17CountFlatOfOthers(t *testing.T) {
	for _, words := range append(notCounted(), 0) {
		if got := impl.CountFlat(words); got != -1 {
			t.Errorf("CountFlat(%d) = %d", words, got)
		}
	}
}

func TestP18ARootWithARowOnEachSideIsAFlatTree(t *testing.T) {
	for words := 0; words <= 5; words++ {
		sum := 0
		for left := 0; left <= words; left++ {
			sum += impl.CountRows(left) * impl.CountRows(words-left)
		}
		if want := impl.CountFlat(words + 1); sum != want {
			t.Errorf("rows with %d words on both sides of a root are %d, but CountFlat(%d) = %d", words, sum, words+1, want)
		}
	}
}

func TestP18ARowIsATreeWithARowBehindIt(t *testing.T) {
	for words := 1; words <= 6; words++ {
		sum := 0
		for first := 1; first <= words; first++ {
			sum += impl.CountFlat(first) * impl.CountRows(words-first)
		}
		if got := impl.CountRows(words); got != sum {
			t.Errorf("CountRows(%d) = %d, but a tree and a row behind it are %d", words, got, sum)
		}
	}
}

func TestP18RowsAreCountedOneByOne(t *testing.T) {
	// With the last word as the root, all other words of a flat tree are a row of flat trees.
	for words := 0; words <= 5; words++ {
		count := 0
		for _, heads := range flatTrees(words + 1) {
			if heads[words] == 0 {
				count++
			}
		}
		if got := impl.CountRows(words); got != count {
			t.Errorf("CountRows(%d) = %d, but there are %d", words, got, count)
		}
	}
}

func TestP18CountRowsOfEachNumber(t *testing.T) {
	for words, want := range []int{1, 1, 3, 12, 55, 273, 1428} {
		if got := impl.CountRows(words); got != want {
			t.Errorf("CountRows(%d) = %d", words, got)
		}
	}
}

func TestP18CountRowsOfOthers(t *testing.T) {
	for _, words := range notCounted() {
		if got := impl.CountRows(words); got != -1 {
			t.Errorf("CountRows(%d) = %d", words, got)
		}
	}
}

// mustFlatAt returns the flat tree with a number, where there is one.
func mustFlatAt(t *testing.T, words, at int) []int {
	t.Helper()
	heads, ok := impl.FlatAt(words, at)
	if !ok || len(heads) != words {
		t.Fatalf("FlatAt(%d, %d) = %v, %v", words, at, heads, ok)
	}
	return heads
}

func TestP19EachNumberTellsItsFlatTree(t *testing.T) {
	for words := 1; words <= 6; words++ {
		for at := range impl.CountFlat(words) {
			heads := mustFlatAt(t, words, at)
			if !impl.FlatOk(heads) || !hasRows(heads) {
				t.Fatalf("FlatAt(%d, %d) = %v is not flat", words, at, heads)
			}
			if place := impl.PlaceOf(heads); place != at {
				t.Fatalf("FlatAt(%d, %d) = %v, and its number is %d", words, at, heads, place)
			}
			next, ok := impl.FlatAt(words, at+1)
			if ok != (at+1 < impl.CountFlat(words)) {
				t.Fatalf("FlatAt(%d, %d) = %v, %v", words, at+1, next, ok)
			}
			if ok && impl.RootOf(next) < impl.RootOf(heads) {
				t.Fatalf("of %d words, the root of %v is before that of %v", words, next, heads)
			}
		}
	}
}

func TestP19FlatAtIsInTheOrderOfFlatTrees(t *testing.T) {
	for words := 1; words <= 6; words++ {
		for at, want := range flatInOrder(words) {
			if got := mustFlatAt(t, words, at); !slices.Equal(got, want) {
				t.Fatalf("FlatAt(%d, %d) = %v, but in order it is %v", words, at, got, want)
			}
		}
	}
}

func TestP19FlatAtExamples(t *testing.T) {
	examples := []struct {
		words, at int
		heads     []int
	}{
		{1, 0, []int{0}},
		{2, 0, []int{0, 1}},
		{2, 1, []int{2, 0}},
		{3, 0, []int{0, 1, 1}},
		{3, 1, []int{0, 1, 2}},
		{3, 2, []int{0, 3, 1}},
		{3, 3, []int{2, 0, 2}},
		{3, 4, []int{3, 3, 0}},
		{3, 5, []int{3, 1, 0}},
		{3, 6, []int{2, 3, 0}},
		{4, 13, []int{2, 0, 2, 3}},
		{4, 23, []int{4, 1, 1, 0}},
		{5, 0, []int{0, 1, 1, 1, 1}},
		{5, 21, []int{0, 3, 1, 3, 1}},
		{5, 142, []int{2, 3, 4, 5, 0}},
		{6, 0, []int{0, 1, 1, 1, 1, 1}},
		{6, 727, []int{2, 3, 4, 5, 6, 0}},
	}
	for _, e := range examples {
		if got, ok := impl.FlatAt(e.words, e.at); !ok || !slices.Equal(got, e.heads) {
			t.Errorf("FlatAt(%d, %d) = %v, %v", e.words, e.at, got, ok)
		}
	}
}

func TestP19FlatAtOfOthers(t *testing.T) {
	numbers := []int{math.MinInt, -728, -64, -2, -1, 0, 1, 2, 728, math.MaxInt}
	for _, words := range append(notCounted(), 0) {
		for _, at := range numbers {
			if heads, ok := impl.FlatAt(words, at); ok || len(heads) != 0 {
				t.Errorf("FlatAt(%d, %d) = %v, %v", words, at, heads, ok)
			}
		}
	}
	for words := 1; words <= 6; words++ {
		count := impl.CountFlat(words)
		for _, at := range []int{math.MinInt, -count, -2, -1, count, count + 1, 2 * count, 729, math.MaxInt} {
			if heads, ok := impl.FlatAt(words, at); ok || len(heads) != 0 {
				t.Errorf("FlatAt(%d, %d) = %v, %v", words, at, heads, ok)
			}
		}
	}
}

func TestP19FlatAtIsNew(t *testing.T) {
	for words := 1; words <= 6; words++ {
		at := impl.CountFlat(words) / 2
		first := mustFlatAt(t, words, at)
		second := mustFlatAt(t, words, at)
		before := slices.Clone(second)
		for each := range first[:cap(first)] {
			first[:cap(first)][each] = 99
		}
		if again := mustFlatAt(t, words, at); !slices.Equal(second, before) || !slices.Equal(again, before) {
			t.Errorf("FlatAt(%d, %d) was %v, and after a change of another one %v and %v", words, at, before, second, again)
		}
	}
}

func TestP20EachFlatTreeHasItsNumber(t *testing.T) {
	for words := 1; words <= 6; words++ {
		for want, heads := range flatInOrder(words) {
			place := impl.PlaceOf(heads)
			if place != want || place >= impl.CountFlat(words) {
				t.Fatalf("PlaceOf(%v) = %d, but in order it is %d", heads, place, want)
			}
			if told := mustFlatAt(t, words, place); !slices.Equal(told, heads) {
				t.Fatalf("PlaceOf(%v) = %d, which tells %v", heads, place, told)
			}
		}
	}
}

func TestP20PlaceOfExamples(t *testing.T) {
	examples := []struct {
		heads []int
		place int
	}{
		{[]int{0}, 0},
		{[]int{0, 1}, 0},
		{[]int{2, 0}, 1},
		{[]int{2, 0, 2}, 3},
		{[]int{3, 1, 0}, 5},
		{[]int{4, 1, 1, 0}, 23},
		{[]int{0, 3, 1, 3, 1}, 21},
		{[]int{0, 1, 1, 1, 1, 1}, 0},
		{[]int{2, 3, 4, 5, 6, 0}, 727},
	}
	for _, e := range examples {
		if got := impl.PlaceOf(e.heads); got != e.place {
			t.Errorf("PlaceOf(%v) = %d", e.heads, got)
		}
	}
}

func TestP20PlaceOfOthers(t *testing.T) {
	for name, heads := range notTrees() {
		if got := impl.PlaceOf(heads); got != -1 {
			t.Errorf("%s: PlaceOf(%v) = %d", name, heads, got)
		}
	}
	for _, heads := range smallTrees(6) {
		if got := impl.PlaceOf(heads); !hasRows(heads) && got != -1 {
			t.Fatalf("PlaceOf(%v) = %d, but it is not flat", heads, got)
		}
	}
}

func TestP20PlaceOfMoreThanSixWords(t *testing.T) {
	seven := [][]int{{0, 1, 2, 3, 4, 5, 6}, {2, 3, 4, 5, 6, 7, 0}, {4, 4, 4, 0, 4, 4, 4}, {2, 4, 2, 0, 6, 4, 6}, {0, 1, 1, 1, 1, 1, 1}}
	for _, heads := range append(seven, bigTrees()...) {
		if got := impl.PlaceOf(heads); got != -1 {
			t.Errorf("PlaceOf(%v) = %d", heads, got)
		}
	}
}

func TestCountsLeaveTheirArguments(t *testing.T) {
	for _, heads := range append(bigTrees(), []int{0}, []int{4, 1, 1, 0}, []int{2, 3, 1}, []int{3, 0, 2}) {
		argument := roomy(heads)
		impl.PlaceOf(argument)
		checkApart(t, nil, argument, heads)
	}
}
