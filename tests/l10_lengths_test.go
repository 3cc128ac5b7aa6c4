package tests

import (
	"slices"
	"strings"
	"testing"

	"loop.example/headtrees/impl"
)

// chainOf returns the tree of so many words in which each word but the root has the neighbour nearer to the root for its head.
func chainOf(words, root int) []int {
	heads := numbersUpTo(words)
	for at := range heads {
		if at+1 < root {
			heads[at]++
		} else {
			heads[at]--
		}
	}
	heads[root-1] = 0
	return heads
}

// starOf returns the tree of so many words in which all words but the root have it for their head.
func starOf(words, root int) []int {
	heads := slices.Repeat([]int{root}, words)
	heads[root-1] = 0
	return heads
}

// otherOrders returns all orders of at most five words, and some of more.
func otherOrders(words int) [][]int {
	if words <= 5 {
		return allOrders(words)
	}
	shuffled := slices.DeleteFunc([]int{3, 8, 1, 6, 4, 2, 7, 5}, func(word int) bool { return word > words })
	first := numbersUpTo(words)
	return [][]int{first, reversed(first), shuffled, reversed(shuffled), slices.Concat(first[words/2:], first[:words/2])}
}

// arcsOverGap returns how many words of a tree have their head on the other side of the gap behind a word.
func arcsOverGap(heads []int, gap int) int {
	over := 0
	for at, head := range heads {
		if head != 0 && (at+1 <= gap) != (head <= gap) {
			over++
		}
	}
	return over
}

// lengthByGaps returns the sum, over all gaps between a word and the next one, of how many arcs go over it.
func lengthByGaps(heads []int) int {
	sum := 0
	for gap := 1; gap < len(heads); gap++ {
		sum += arcsOverGap(heads, gap)
	}
	return sum
}

// shapeBelow returns a text that tells what is below a word, and is the same in all orders of the words.
func shapeBelow(heads []int, word int) string {
	var shapes []string
	for at, head := range heads {
		if head == word {
			shapes = append(shapes, "("+shapeBelow(heads, at+1)+")")
		}
	}
	slices.Sort(shapes)
	return strings.Join(shapes, "")
}

// leastByShape returns for each shape of a tree with so many words the least length of all flat trees that have it.
func leastByShape(t *testing.T, words int) map[string]int {
	t.Helper()
	least := map[string]int{}
	for _, heads := range toldTrees(t, words) {
		// Below 0 there is just the root.
		shape, length := shapeBelow(heads, 0), lengthByGaps(heads)
		if known, ok := least[shape]; !ok || length < known {
			least[shape] = length
		}
	}
	return least
}

// lengthExample is a tree with its length, the least one of its flat orders, and its longest arc.
type lengthExample struct {
	heads   []int
	length  int
	least   int
	longest int
}

// lengthExamples returns one word, chains, stars, and trees that are flat or not, worked out by hand; of one that is not flat no flat order is as short.
func lengthExamples() []lengthExample {
	return []lengthExample{
		{[]int{0}, 0, 0, 0},
		{[]int{2, 0}, 1, 1, 1},
		{[]int{0, 1}, 1, 1, 1},
		{[]int{2, 0, 2}, 2, 2, 1},
		{[]int{0, 1, 1}, 3, 2, 2},
		{[]int{3, 0, 2}, 3, 2, 2},
		{[]int{0, 1, 2, 3}, 3, 3, 1},
		{[]int{3, 0, 2, 3}, 4, 4, 2},
		{[]int{3, 4, 0, 3}, 5, 3, 2},
		{[]int{3, 0, 2, 3, 2}, 7, 5, 3},
		{[]int{0, 1, 1, 1, 1}, 10, 6, 4},
		{[]int{2, 4, 0, 3, 4, 5}, 6, 7, 2},
		{[]int{0, 1, 2, 3, 4, 5, 6, 7}, 7, 7, 1},
		{[]int{2, 3, 4, 5, 6, 7, 8, 0}, 7, 7, 1},
		{[]int{5, 5, 5, 5, 0, 5, 5, 5}, 16, 16, 4},
		{[]int{3, 0, 2, 3, 2, 8, 6, 5}, 13, 8, 3},
		{[]int{8, 4, 4, 0, 4, 4, 4, 4}, 20, 13, 7},
		{[]int{0, 5, 6, 7, 1, 2, 3, 4}, 25, 7, 4},
		{[]int{0, 8, 7, 6, 1, 2, 5, 3}, 27, 7, 6},
	}
}

// starLengths returns the lengths of the stars of so many words, by the places of their roots.
func starLengths() map[int][]int {
	return map[int][]int{
		1: {0},
		2: {1, 1},
		3: {3, 2, 3},
		4: {6, 4, 4, 6},
		5: {10, 7, 6, 7, 10},
		6: {15, 11, 9, 9, 11, 15},
		7: {21, 16, 13, 12, 13, 16, 21},
		8: {28, 22, 18, 16, 16, 18, 22, 28},
	}
}

func TestP41ArcsAreAsLongAsTheGapsTheyCover(t *testing.T) {
	for _, heads := range exchangeTrees(t) {
		length := impl.LengthOf(heads)
		if want := lengthByGaps(heads); length != want {
			t.Fatalf("LengthOf(%v) = %d, but over all gaps it is %d", heads, length, want)
		}
		if length < len(heads)-1 {
			t.Fatalf("LengthOf(%v) = %d", heads, length)
		}
	}
}

func TestP41LengthOfExamples(t *testing.T) {
	for _, e := range lengthExamples() {
		if length := impl.LengthOf(e.heads); length != e.length {
			t.Errorf("LengthOf(%v) = %d", e.heads, length)
		}
	}
}

func TestP41LengthOfChainsAndStars(t *testing.T) {
	for words, lengths := range starLengths() {
		for at, want := range lengths {
			if chain := chainOf(words, at+1); impl.LengthOf(chain) != words-1 {
				t.Errorf("LengthOf(%v) = %d", chain, impl.LengthOf(chain))
			}
			if star := starOf(words, at+1); impl.LengthOf(star) != want {
				t.Errorf("LengthOf(%v) = %d", star, impl.LengthOf(star))
			}
		}
	}
}

func TestP41LengthOfOthers(t *testing.T) {
	for name, heads := range notTrees() {
		if length := impl.LengthOf(heads); length != -1 {
			t.Errorf("%s: LengthOf(%v) = %d", name, heads, length)
		}
	}
}

func TestP42NoFlatOrderIsShorter(t *testing.T) {
	for _, heads := range exchangeTrees(t) {
		least := impl.LeastLength(heads)
		if least < len(heads)-1 {
			t.Fatalf("LeastLength(%v) = %d", heads, least)
		}
		if flat := impl.MadeFlat(heads); impl.LengthOf(flat) < least {
			t.Fatalf("LeastLength(%v) = %d, but %v has length %d", heads, least, flat, impl.LengthOf(flat))
		}
	}
}

func TestP42LeastLengthIsTheLeastOfAllFlatOrders(t *testing.T) {
	for words := 1; words <= 5; words++ {
		orders := allOrders(words)
		for _, heads := range allTrees(words) {
			want := -1
			for _, order := range orders {
				put := mustPut(t, heads, order)
				if length := impl.LengthOf(put); impl.FlatOk(put) && (want < 0 || length < want) {
					want = length
				}
			}
			if least := impl.LeastLength(heads); least != want {
				t.Fatalf("LeastLength(%v) = %d, but of all flat orders it is %d", heads, least, want)
			}
		}
	}
}

func TestP42LeastLengthIsTheLeastOfFlatTreesOfThisShape(t *testing.T) {
	least := map[int]map[string]int{}
	for words := 1; words <= impl.MaxWords; words++ {
		least[words] = leastByShape(t, words)
	}
	for _, heads := range append(exchangeTrees(t), toldTrees(t, 7)...) {
		want, ok := least[len(heads)][shapeBelow(heads, 0)]
		if got := impl.LeastLength(heads); !ok || got != want {
			t.Fatalf("LeastLength(%v) = %d, but of flat trees of this shape it is %d", heads, got, want)
		}
	}
}

// checkSameLeast checks that a tree has a least length, and the same one in other orders.
func checkSameLeast(t *testing.T, heads []int, want int) {
	t.Helper()
	for _, order := range otherOrders(len(heads)) {
		put := mustPut(t, heads, order)
		if least := impl.LeastLength(put); least != want {
			t.Fatalf("LeastLength(%v) = %d, but it is %v in another order, where it is %d", put, least, heads, want)
		}
	}
}

func TestP42LeastLengthIsTheSameInAnyOrder(t *testing.T) {
	for _, heads := range append(smallTrees(6), bigTrees()...) {
		checkSameLeast(t, heads, impl.LeastLength(heads))
	}
}

func TestP42LeastLengthExamples(t *testing.T) {
	for _, e := range lengthExamples() {
		if least := impl.LeastLength(e.heads); least != e.least {
			t.Errorf("LeastLength(%v) = %d", e.heads, least)
		}
		checkSameLeast(t, e.heads, e.least)
	}
}

func TestP42LeastLengthOfChainsAndStars(t *testing.T) {
	for words, lengths := range starLengths() {
		for at := range lengths {
			checkSameLeast(t, chainOf(words, at+1), words-1)
			checkSameLeast(t, starOf(words, at+1), slices.Min(lengths))
		}
	}
}

func TestP42LeastLengthOfOthers(t *testing.T) {
	for name, heads := range notTrees() {
		if least := impl.LeastLength(heads); least != -1 {
			t.Errorf("%s: LeastLength(%v) = %d", name, heads, least)
		}
	}
}

// lengthOfAllOrders returns the sum of the lengths that a tree has in all orders of its words.
func lengthOfAllOrders(t *testing.T, heads []int) int {
	t.Helper()
	sum := 0
	for _, order := range allOrders(len(heads)) {
		sum += impl.LengthOf(mustPut(t, heads, order))
	}
	return sum
}

func TestP43AllOrdersOfChainsAndStarsHaveAsMuchTogether(t *testing.T) {
	for words := 1; words <= impl.MaxWords; words++ {
		want := impl.LengthsSum(words)
		for _, heads := range [][]int{chainOf(words, 1), starOf(words, 1)} {
			if sum := lengthOfAllOrders(t, heads); sum != want {
				t.Errorf("LengthsSum(%d) = %d, but of all orders of %v it is %d", words, want, heads, sum)
			}
		}
	}
}

func TestP43AllOrdersHaveAsMuchTogetherWhateverTheTree(t *testing.T) {
	for _, heads := range smallTrees(5) {
		if sum, want := lengthOfAllOrders(t, heads), impl.LengthsSum(len(heads)); sum != want {
			t.Fatalf("LengthsSum(%d) = %d, but of all orders of %v it is %d", len(heads), want, heads, sum)
		}
	}
}

func TestP43LengthsSumOfEachNumber(t *testing.T) {
	for at, want := range []int{0, 2, 16, 120, 960, 8400, 80640, 846720} {
		if got := impl.LengthsSum(at + 1); got != want {
			t.Errorf("LengthsSum(%d) = %d", at+1, got)
		}
	}
}

func TestP43LengthsSumOfOthers(t *testing.T) {
	for _, words := range notSentences() {
		if got := impl.LengthsSum(words); got != -1 {
			t.Errorf("LengthsSum(%d) = %d", words, got)
		}
	}
}

// longestOneByOne returns the greatest number of steps that may lie between a word and its head so that some word has its head there.
func longestOneByOne(heads []int) int {
	for steps := len(heads) - 1; steps > 0; steps-- {
		for at, head := range heads {
			if head != 0 && (head == at+1+steps || head == at+1-steps) {
				return steps
			}
		}
	}
	return 0
}

func TestP44TheLongestArcIsLessThanTheWords(t *testing.T) {
	for _, heads := range exchangeTrees(t) {
		longest, length := impl.LongestArc(heads), impl.LengthOf(heads)
		if longest < 0 || longest > length || longest >= len(heads) {
			t.Fatalf("LongestArc(%v) = %d, and LengthOf is %d", heads, longest, length)
		}
		if (longest <= 1) != (length == len(heads)-1) {
			t.Fatalf("LongestArc(%v) = %d, but LengthOf is %d", heads, longest, length)
		}
	}
}

func TestP44LongestArcIsFoundOneByOne(t *testing.T) {
	for _, heads := range exchangeTrees(t) {
		if got, want := impl.LongestArc(heads), longestOneByOne(heads); got != want {
			t.Fatalf("LongestArc(%v) = %d, but one by one it is %d", heads, got, want)
		}
	}
}

func TestP44LongestArcExamples(t *testing.T) {
	for _, e := range lengthExamples() {
		if longest := impl.LongestArc(e.heads); longest != e.longest {
			t.Errorf("LongestArc(%v) = %d", e.heads, longest)
		}
	}
}

func TestP44LongestArcOfChainsAndStars(t *testing.T) {
	for words := 1; words <= impl.MaxWords; words++ {
		for root := 1; root <= words; root++ {
			if chain := chainOf(words, root); impl.LongestArc(chain) != min(words-1, 1) {
				t.Errorf("LongestArc(%v) = %d", chain, impl.LongestArc(chain))
			}
			if star := starOf(words, root); impl.LongestArc(star) != max(root-1, words-root) {
				t.Errorf("LongestArc(%v) = %d", star, impl.LongestArc(star))
			}
		}
	}
}

func TestP44LongestArcOfOthers(t *testing.T) {
	for name, heads := range notTrees() {
		if longest := impl.LongestArc(heads); longest != -1 {
			t.Errorf("%s: LongestArc(%v) = %d", name, heads, longest)
		}
	}
}

func TestLengthsLeaveTheirArguments(t *testing.T) {
	for _, heads := range append(append(bigTrees(), notFlat()...), []int{0}, []int{2, 3, 1}, []int{0, 0}) {
		argument := roomy(heads)
		impl.LengthOf(argument)
		impl.LeastLength(argument)
		impl.LongestArc(argument)
		checkApart(t, nil, argument, heads)
	}
}
