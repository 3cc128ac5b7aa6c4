package tests

import (
	"math"
	"slices"
	"testing"

	"loop.example/headtrees/impl"
)

func TestMaxWords(t *testing.T) {
	if impl.MaxWords != 8 {
		t.Errorf("MaxWords = %d", impl.MaxWords)
	}
}

func TestTreeOkOfAllSmallRows(t *testing.T) {
	for words := range 6 {
		for heads := range rows(words, -1, words+1) {
			if got, want := impl.TreeOk(heads), words > 0 && isTree(heads); got != want {
				t.Fatalf("TreeOk(%v) = %v", heads, got)
			}
		}
	}
}

func TestTreeOkOfBigTrees(t *testing.T) {
	for _, heads := range bigTrees() {
		if len(heads) != impl.MaxWords || !impl.TreeOk(heads) {
			t.Errorf("TreeOk(%v) does not hold", heads)
		}
	}
}

func TestTreeOkOfOthers(t *testing.T) {
	for name, heads := range notTrees() {
		if impl.TreeOk(heads) {
			t.Errorf("%s: TreeOk(%v) holds", name, heads)
		}
	}
}

func TestTreeOkLeavesItsArgument(t *testing.T) {
	for _, heads := range [][]int{{3, 0, 2, 3}, {2, 3, 1}, {0, 0}} {
		argument := roomy(heads)
		impl.TreeOk(argument)
		checkApart(t, nil, argument, heads)
	}
}

func TestP1OneWordIsATree(t *testing.T) {
	for head := -3; head <= 9; head++ {
		if impl.TreeOk([]int{head}) != (head == 0) {
			t.Errorf("TreeOk of the head %d", head)
		}
	}
}

func TestP1AFurtherWord(t *testing.T) {
	for _, heads := range append(smallTrees(5), bigTrees()...) {
		further := len(heads) + 1
		for head := range further + 2 {
			got := impl.TreeOk(append(slices.Clone(heads), head))
			want := further <= impl.MaxWords && head >= 1 && head < further
			if got != want {
				t.Fatalf("TreeOk of %v and a further word with the head %d = %v", heads, head, got)
			}
		}
	}
}

func TestP1AFurtherWordUpToMaxWords(t *testing.T) {
	heads := []int{0}
	for len(heads) < impl.MaxWords {
		heads = append(heads, (len(heads)+1)/2)
		if !impl.TreeOk(heads) {
			t.Fatalf("TreeOk(%v) does not hold", heads)
		}
	}
	if impl.TreeOk(append(heads, 4)) {
		t.Error("TreeOk holds of more than MaxWords words")
	}
}

func TestP2JustOneWordIsTheRoot(t *testing.T) {
	for _, heads := range append(smallTrees(5), bigTrees()...) {
		root := impl.RootOf(heads)
		for at, head := range heads {
			if (head == 0) != (root == at+1) {
				t.Fatalf("RootOf(%v) = %d", heads, root)
			}
		}
		if depths := impl.DepthOf(heads); depths[root-1] != 0 {
			t.Fatalf("DepthOf(%v) = %v, but the root is %d", heads, depths, root)
		}
	}
}

func TestP2RootOfExamples(t *testing.T) {
	for root, heads := range map[int][]int{1: {0}, 2: {2, 0, 2}, 3: {2, 3, 0}, 7: {6, 1, 6, 1, 2, 7, 0, 7}, 8: {2, 3, 4, 5, 6, 7, 8, 0}} {
		if got := impl.RootOf(heads); got != root {
			t.Errorf("RootOf(%v) = %d", heads, got)
		}
	}
}

func TestP2RootOfOthers(t *testing.T) {
	for name, heads := range notTrees() {
		if root := impl.RootOf(heads); root != -1 {
			t.Errorf("%s: RootOf(%v) = %d", name, heads, root)
		}
	}
	for words := 1; words <= 4; words++ {
		for heads := range rows(words, -1, words+1) {
			if got := impl.RootOf(heads); (got == -1) != !isTree(heads) {
				t.Fatalf("RootOf(%v) = %d", heads, got)
			}
		}
	}
}

func TestP3EachWordIsOneDeeperThanItsHead(t *testing.T) {
	for _, heads := range append(smallTrees(5), bigTrees()...) {
		depths := impl.DepthOf(heads)
		if len(depths) != len(heads) {
			t.Fatalf("DepthOf(%v) = %v", heads, depths)
		}
		for at, head := range heads {
			want := 0
			if head != 0 {
				want = depths[head-1] + 1
			}
			if depths[at] != want || depths[at] >= len(heads) {
				t.Fatalf("DepthOf(%v) = %v", heads, depths)
			}
		}
	}
}

func TestP3DepthOfExamples(t *testing.T) {
	examples := []struct{ heads, depths []int }{
		{[]int{0}, []int{0}},
		{[]int{3, 0, 2, 3}, []int{2, 0, 1, 2}},
		{[]int{3, 0, 2, 3, 2}, []int{2, 0, 1, 2, 1}},
		{[]int{2, 3, 4, 5, 6, 7, 8, 0}, []int{7, 6, 5, 4, 3, 2, 1, 0}},
		{[]int{5, 5, 5, 5, 0, 5, 5, 5}, []int{1, 1, 1, 1, 0, 1, 1, 1}},
	}
	for _, e := range examples {
		if depths := impl.DepthOf(e.heads); !slices.Equal(depths, e.depths) {
			t.Errorf("DepthOf(%v) = %v", e.heads, depths)
		}
	}
}

func TestP3DepthOfOthers(t *testing.T) {
	for name, heads := range notTrees() {
		if depths := impl.DepthOf(heads); len(depths) != 0 {
			t.Errorf("%s: DepthOf(%v) = %v", name, heads, depths)
		}
	}
}

func TestP3DepthOfIsNew(t *testing.T) {
	for _, heads := range bigTrees() {
		argument := roomy(heads)
		first := impl.DepthOf(argument)
		second := slices.Clone(first)
		checkApart(t, first, argument, heads)
		if again := impl.DepthOf(argument); !slices.Equal(again, second) {
			t.Errorf("DepthOf(%v) = %v, and then %v", heads, second, again)
		}
	}
}

func TestP4TreesAreCountedByPowers(t *testing.T) {
	for words := 1; words <= 4; words++ {
		count := 0
		for heads := range rows(words, 0, words) {
			if impl.TreeOk(heads) {
				count++
			}
		}
		if got := impl.CountTrees(words); got != count {
			t.Errorf("CountTrees(%d) = %d, but there are %d", words, got, count)
		}
	}
}

func TestP4CountTreesOfEachNumber(t *testing.T) {
	for at, want := range []int{1, 2, 9, 64, 625, 7776, 117649, 2097152} {
		if got := impl.CountTrees(at + 1); got != want {
			t.Errorf("CountTrees(%d) = %d", at+1, got)
		}
	}
}

func TestP4CountTreesOfOthers(t *testing.T) {
	for _, words := range []int{0, 9, -1, -8, 10, 64, math.MaxInt, math.MinInt} {
		if got := impl.CountTrees(words); got != -1 {
			t.Errorf("CountTrees(%d) = %d", words, got)
		}
	}
}

func TestP5OrdersHaveEachNumber(t *testing.T) {
	for length := range 5 {
		for order := range rows(length, -1, length+1) {
			for many := -1; many <= length+1; many++ {
				sorted := slices.Clone(order)
				slices.Sort(sorted)
				want := many >= 1 && slices.Equal(sorted, numbersUpTo(length)) && many == length
				if got := impl.OrderOk(order, many); got != want {
					t.Fatalf("OrderOk(%v, %d) = %v", order, many, got)
				}
				if impl.OrderOk(reversed(order), many) != want {
					t.Fatalf("OrderOk(%v, %d) is another one from the last one to the first one", order, many)
				}
			}
		}
	}
}

func TestP5OrderOkOfAllOrders(t *testing.T) {
	for many := 1; many <= impl.MaxWords; many++ {
		for _, order := range [][]int{numbersUpTo(many), reversed(numbersUpTo(many))} {
			if !impl.OrderOk(order, many) {
				t.Errorf("OrderOk(%v, %d) does not hold", order, many)
			}
		}
	}
	for _, order := range allOrders(6) {
		if !impl.OrderOk(order, 6) {
			t.Fatalf("OrderOk(%v, 6) does not hold", order)
		}
	}
}

// notOrders returns rows that are no orders of so many numbers, from 1 to MaxWords.
func notOrders(many int) map[string][]int {
	order := numbersUpTo(many)
	changed := func(number int) []int {
		row := slices.Clone(order)
		row[many-1] = number
		return row
	}
	others := map[string][]int{
		"nil":             nil,
		"empty":           {},
		"too short":       order[:many-1],
		"too long":        append(slices.Clone(order), many+1),
		"long by a twice": append(slices.Clone(order), 1),
		"0":               changed(0),
		"below 0":         changed(-1),
		"least number":    changed(math.MinInt),
		"too great":       changed(many + 1),
		"far too great":   changed(1000),
		"greatest number": changed(math.MaxInt),
	}
	if many > 1 {
		others["a number twice"] = changed(many - 1)
	}
	return others
}

func TestP5OrderOkOfOthers(t *testing.T) {
	for many := 1; many <= impl.MaxWords; many++ {
		for name, order := range notOrders(many) {
			if impl.OrderOk(order, many) {
				t.Errorf("%s: OrderOk(%v, %d) holds", name, order, many)
			}
		}
	}
	for _, many := range []int{0, -1, 9, 100, math.MinInt, math.MaxInt} {
		for _, order := range [][]int{nil, {1}, numbersUpTo(8), numbersUpTo(9), numbersUpTo(100)} {
			if impl.OrderOk(order, many) {
				t.Errorf("OrderOk(%v, %d) holds", order, many)
			}
		}
	}
}

func TestP5OrderOkLeavesItsArgument(t *testing.T) {
	for _, order := range [][]int{{2, 1, 3}, {3, 3, 1}} {
		argument := roomy(order)
		impl.OrderOk(argument, 3)
		checkApart(t, nil, argument, order)
	}
}

// checkPut checks P6 for a tree and an order.
func checkPut(t *testing.T, heads, order []int) {
	t.Helper()
	put := mustPut(t, heads, order)
	if !impl.TreeOk(put) {
		t.Fatalf("PutInOrder(%v, %v) = %v", heads, order, put)
	}
	before, after := impl.DepthOf(heads), impl.DepthOf(put)
	back := make([]int, len(order))
	for at, word := range order {
		back[word-1] = at + 1
		head := 0
		if put[at] != 0 {
			head = order[put[at]-1]
		}
		if head != heads[word-1] || after[at] != before[word-1] {
			t.Fatalf("PutInOrder(%v, %v) = %v", heads, order, put)
		}
	}
	if again := mustPut(t, put, back); !slices.Equal(again, heads) {
		t.Fatalf("%v in the order %v, and back, is %v", heads, order, again)
	}
}

func TestP6InAnotherOrderItIsTheSameTree(t *testing.T) {
	for words := 1; words <= 4; words++ {
		for _, heads := range allTrees(words) {
			for _, order := range allOrders(words) {
				checkPut(t, heads, order)
			}
		}
	}
	for _, heads := range bigTrees() {
		for _, order := range [][]int{{1, 2, 3, 4, 5, 6, 7, 8}, {8, 7, 6, 5, 4, 3, 2, 1}, {2, 3, 4, 5, 6, 7, 8, 1}, {3, 8, 1, 6, 4, 2, 7, 5}} {
			checkPut(t, heads, order)
		}
	}
}

func TestP6PutInOrderExamples(t *testing.T) {
	examples := []struct{ heads, order, put []int }{
		{[]int{0}, []int{1}, []int{0}},
		{[]int{3, 0, 2, 3}, []int{2, 1, 3, 4}, []int{0, 3, 1, 3}},
		{[]int{3, 0, 2, 3, 2}, []int{2, 1, 3, 4, 5}, []int{0, 3, 1, 3, 1}},
		{[]int{2, 3, 0}, []int{2, 3, 1}, []int{2, 0, 1}},
	}
	for _, e := range examples {
		if put := mustPut(t, e.heads, e.order); !slices.Equal(put, e.put) {
			t.Errorf("PutInOrder(%v, %v) = %v", e.heads, e.order, put)
		}
	}
}

func checkNotPut(t *testing.T, heads, order []int) {
	t.Helper()
	if put, ok := impl.PutInOrder(heads, order); ok || len(put) != 0 {
		t.Errorf("PutInOrder(%v, %v) = %v, %v", heads, order, put, ok)
	}
}

func TestP6PutInOrderOfOthers(t *testing.T) {
	for _, heads := range notTrees() {
		checkNotPut(t, heads, numbersUpTo(len(heads)))
		checkNotPut(t, heads, nil)
		checkNotPut(t, heads, []int{1, 1})
	}
	for _, heads := range [][]int{{0}, {2, 0}, {3, 0, 2, 3}, {0, 1, 2, 3, 4, 5, 6, 7}} {
		for _, order := range notOrders(len(heads)) {
			checkNotPut(t, heads, order)
		}
	}
}

func TestP6PutInOrderIsNew(t *testing.T) {
	for _, heads := range bigTrees() {
		for _, order := range [][]int{{1, 2, 3, 4, 5, 6, 7, 8}, {3, 8, 1, 6, 4, 2, 7, 5}} {
			tree, row := roomy(heads), roomy(order)
			first := mustPut(t, tree, row)
			second := slices.Clone(first)
			checkApart(t, first, tree, heads)
			checkApart(t, nil, row, order)
			if again := mustPut(t, tree, row); !slices.Equal(again, second) {
				t.Errorf("PutInOrder(%v, %v) = %v, and then %v", heads, order, second, again)
			}
		}
	}
}
