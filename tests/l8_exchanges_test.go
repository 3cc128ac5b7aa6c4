package tests

import (
	"cmp"
	"fmt"
	"math"
	"slices"
	"testing"

	"loop.example/headtrees/impl"
)

// stepBelow goes up from a word and returns the last word ahead of another one, to which one comes, or this one if one is there.
func stepBelow(heads []int, from, to int) int {
	for from != to && heads[from-1] != to {
		from = heads[from-1]
	}
	return from
}

// compareFlat compares two words as they stand in a flat order: by how one comes from both to the first word where both ways meet.
func compareFlat(heads []int, a, b int) int {
	meet := a
	for !leadsTo(heads, b, meet) {
		meet = heads[meet-1]
	}
	return cmp.Compare(stepBelow(heads, a, meet), stepBelow(heads, b, meet))
}

// flatOrderByPairs returns the words of a tree as they stand in a flat order, sorted two by two.
func flatOrderByPairs(heads []int) []int {
	order := numbersUpTo(len(heads))
	slices.SortFunc(order, func(a, b int) int { return compareFlat(heads, a, b) })
	return order
}

// exchangeTrees returns all trees with at most six words, the big ones, and all flat trees of MaxWords words, put in an order in which hardly one is flat.
func exchangeTrees(t *testing.T) [][]int {
	t.Helper()
	trees := append(smallTrees(6), bigTrees()...)
	for _, heads := range toldTrees(t, impl.MaxWords) {
		trees = append(trees, mustPut(t, heads, []int{3, 8, 1, 6, 4, 2, 7, 5}))
	}
	return trees
}

// turnedOneByOne returns how many pairs of places a row has of which the first one has the greater number.
func turnedOneByOne(row []int) int {
	turned := 0
	for second := range row {
		for first := range second {
			if row[first] > row[second] {
				turned++
			}
		}
	}
	return turned
}

// allPairs returns how many pairs so many words have.
func allPairs(words int) int {
	return words * (words - 1) / 2
}

// isOrder reports whether a row has each number from 1 up to so many as it has, for 1..8 of them.
func isOrder(row []int) bool {
	return len(row) >= 1 && len(row) <= 8 && slices.Equal(slices.Sorted(slices.Values(row)), numbersUpTo(len(row)))
}

// smallRows returns all rows of at most four numbers, from -1 up to one more than there are.
func smallRows() [][]int {
	var all [][]int
	for length := range 5 {
		all = slices.AppendSeq(all, rows(length, -1, length+1))
	}
	return all
}

// noOrders returns rows that are orders of no number of words, at least one for each reason that the document names.
func noOrders() [][]int {
	others := [][]int{numbersUpTo(9), reversed(numbersUpTo(9)), numbersUpTo(1000), make([]int, 8), {0, 1}, {2, 3}, {1, 1}, {1, 2, 2}, {2, 2, 1}, {3, 1}}
	for many := 1; many <= impl.MaxWords; many++ {
		for _, row := range notOrders(many) {
			others = append(others, row)
		}
	}
	return slices.DeleteFunc(others, isOrder)
}

// checkFlatOrder checks what is promised of FlatOrder for a tree.
func checkFlatOrder(t *testing.T, heads []int) {
	t.Helper()
	order := impl.FlatOrder(heads)
	if !impl.OrderOk(order, len(heads)) {
		t.Fatalf("FlatOrder(%v) = %v, which is no order", heads, order)
	}
	if put := mustPut(t, heads, order); !impl.FlatOk(put) || !hasRows(put) {
		t.Fatalf("FlatOrder(%v) = %v, but in it the tree is %v", heads, order, put)
	}
	if slices.Equal(order, numbersUpTo(len(heads))) != hasRows(heads) {
		t.Fatalf("FlatOrder(%v) = %v, but that it is flat is %v", heads, order, hasRows(heads))
	}
	if want := flatOrderByPairs(heads); !slices.Equal(order, want) {
		t.Fatalf("FlatOrder(%v) = %v, but two by two it is %v", heads, order, want)
	}
}

func TestP31InThisOrderTheTreeIsFlat(t *testing.T) {
	for _, heads := range exchangeTrees(t) {
		checkFlatOrder(t, heads)
	}
}

func TestP31FlatOrderOfFlatTrees(t *testing.T) {
	for words := 1; words <= impl.MaxWords; words++ {
		for _, heads := range toldTrees(t, words) {
			if order := impl.FlatOrder(heads); !slices.Equal(order, numbersUpTo(words)) {
				t.Fatalf("FlatOrder(%v) = %v", heads, order)
			}
		}
	}
}

// exchangeExample is a tree with its flat order, with how many exchanges lead there, and as it is then.
type exchangeExample struct {
	heads     []int
	order     []int
	exchanges int
	flat      []int
}

// exchangeExamples returns flat trees, one word among them, and others, worked out by hand.
func exchangeExamples() []exchangeExample {
	return []exchangeExample{
		{[]int{0}, []int{1}, 0, []int{0}},
		{[]int{2, 0}, []int{1, 2}, 0, []int{2, 0}},
		{[]int{0, 1}, []int{1, 2}, 0, []int{0, 1}},
		{[]int{2, 0, 2}, []int{1, 2, 3}, 0, []int{2, 0, 2}},
		{[]int{0, 3, 1, 3, 1}, []int{1, 2, 3, 4, 5}, 0, []int{0, 3, 1, 3, 1}},
		{[]int{0, 1, 2, 3, 4, 5, 6, 7}, []int{1, 2, 3, 4, 5, 6, 7, 8}, 0, []int{0, 1, 2, 3, 4, 5, 6, 7}},
		{[]int{3, 0, 2}, []int{2, 1, 3}, 1, []int{0, 3, 1}},
		{[]int{2, 0, 1}, []int{1, 3, 2}, 1, []int{3, 1, 0}},
		{[]int{3, 0, 2, 3, 2}, []int{2, 1, 3, 4, 5}, 1, []int{0, 3, 1, 3, 1}},
		{[]int{3, 4, 0, 3}, []int{1, 3, 2, 4}, 1, []int{2, 0, 4, 2}},
		{[]int{0, 1, 1, 2, 3}, []int{1, 2, 4, 3, 5}, 1, []int{0, 1, 2, 1, 4}},
		{[]int{4, 0, 2, 2}, []int{2, 3, 1, 4}, 2, []int{0, 1, 4, 1}},
		{[]int{3, 3, 0, 1}, []int{1, 4, 2, 3}, 2, []int{4, 1, 4, 0}},
		{[]int{0, 8, 7, 6, 1, 2, 5, 3}, []int{1, 5, 3, 2, 4, 6, 8, 7}, 5, []int{0, 1, 8, 7, 6, 4, 3, 2}},
		{[]int{0, 5, 6, 7, 1, 2, 3, 4}, []int{1, 2, 3, 4, 8, 7, 6, 5}, 6, []int{0, 8, 7, 6, 4, 3, 2, 1}},
		{[]int{8, 4, 4, 0, 4, 4, 4, 4}, []int{2, 3, 4, 5, 6, 7, 1, 8}, 6, []int{3, 3, 0, 3, 3, 3, 8, 3}},
	}
}

func TestP31FlatOrderExamples(t *testing.T) {
	for _, e := range exchangeExamples() {
		if order := impl.FlatOrder(e.heads); !slices.Equal(order, e.order) {
			t.Errorf("FlatOrder(%v) = %v", e.heads, order)
		}
	}
}

func TestP31FlatOrderOfOthers(t *testing.T) {
	for name, heads := range notTrees() {
		if order := impl.FlatOrder(heads); len(order) != 0 {
			t.Errorf("%s: FlatOrder(%v) = %v", name, heads, order)
		}
	}
}

func TestP31FlatOrderIsNew(t *testing.T) {
	for _, heads := range append(append(bigTrees(), notFlat()...), []int{0}, []int{2, 0, 2}) {
		checkNewRow(t, heads, impl.FlatOrder)
	}
}

func TestP32TurnedPairsAreAtMostAll(t *testing.T) {
	for words := 1; words <= impl.MaxWords; words++ {
		for _, order := range allOrders(words) {
			turned, back := impl.CountTurned(order), impl.CountTurned(reversed(order))
			if want := turnedOneByOne(order); turned != want || turned < 0 {
				t.Fatalf("CountTurned(%v) = %d, but one by one it is %d", order, turned, want)
			}
			if turned+back != allPairs(words) {
				t.Fatalf("CountTurned(%v) = %d, and from the last one it is %d", order, turned, back)
			}
			if (turned == 0) != slices.Equal(order, numbersUpTo(words)) {
				t.Fatalf("CountTurned(%v) = %d", order, turned)
			}
		}
	}
}

func TestP32CountTurnedExamples(t *testing.T) {
	examples := []struct {
		order  []int
		turned int
	}{
		{[]int{1}, 0},
		{[]int{1, 2}, 0},
		{[]int{2, 1}, 1},
		{[]int{2, 1, 3}, 1},
		{[]int{2, 3, 1}, 2},
		{[]int{3, 1, 2}, 2},
		{[]int{3, 2, 1}, 3},
		{[]int{5, 1, 2, 3, 4}, 4},
		{[]int{2, 4, 6, 8, 1, 3, 5, 7}, 10},
		{[]int{3, 8, 1, 6, 4, 2, 7, 5}, 13},
		{[]int{1, 2, 3, 4, 5, 6, 7, 8}, 0},
		{[]int{8, 7, 6, 5, 4, 3, 2, 1}, 28},
	}
	for _, e := range examples {
		if turned := impl.CountTurned(e.order); turned != e.turned {
			t.Errorf("CountTurned(%v) = %d", e.order, turned)
		}
	}
}

func TestP32CountTurnedOfOthers(t *testing.T) {
	for _, row := range append(noOrders(), smallRows()...) {
		if turned := impl.CountTurned(row); (turned == -1) == isOrder(row) {
			t.Fatalf("CountTurned(%v) = %d", row, turned)
		}
	}
}

// mustExchange returns an order with two neighbours exchanged, where this may be.
func mustExchange(t *testing.T, order []int, at int) []int {
	t.Helper()
	exchanged, ok := impl.ExchangedAt(order, at)
	if !ok || len(exchanged) != len(order) {
		t.Fatalf("ExchangedAt(%v, %d) = %v, %v", order, at, exchanged, ok)
	}
	return exchanged
}

// checkNoExchange checks that there is nothing to exchange at a place of a row.
func checkNoExchange(t *testing.T, row []int, at int) {
	t.Helper()
	if exchanged, ok := impl.ExchangedAt(row, at); ok || len(exchanged) != 0 {
		t.Fatalf("ExchangedAt(%v, %d) = %v, %v", row, at, exchanged, ok)
	}
}

// checkExchange checks what is promised of an exchange of two neighbours of an order.
func checkExchange(t *testing.T, order []int, at int) {
	t.Helper()
	exchanged := mustExchange(t, order, at)
	want := slices.Concat(order[:at], []int{order[at+1], order[at]}, order[at+2:])
	if !slices.Equal(exchanged, want) || !impl.OrderOk(exchanged, len(order)) {
		t.Fatalf("ExchangedAt(%v, %d) = %v", order, at, exchanged)
	}
	change := 1
	if order[at] > order[at+1] {
		change = -1
	}
	if before, after := impl.CountTurned(order), impl.CountTurned(exchanged); after != before+change {
		t.Fatalf("ExchangedAt(%v, %d) = %v, with %d and %d turned pairs", order, at, exchanged, before, after)
	}
	if again := mustExchange(t, exchanged, at); !slices.Equal(again, order) {
		t.Fatalf("ExchangedAt(%v, %d), exchanged again, is %v", order, at, again)
	}
}

func TestP33OneExchangeTurnsOnePair(t *testing.T) {
	for words := 1; words <= impl.MaxWords; words++ {
		for _, order := range allOrders(words) {
			for at := range words - 1 {
				checkExchange(t, order, at)
			}
		}
	}
}

func TestP33ExchangedAtExamples(t *testing.T) {
	examples := []struct {
		order     []int
		at        int
		exchanged []int
	}{
		{[]int{1, 2}, 0, []int{2, 1}},
		{[]int{2, 1}, 0, []int{1, 2}},
		{[]int{2, 1, 3}, 0, []int{1, 2, 3}},
		{[]int{2, 1, 3}, 1, []int{2, 3, 1}},
		{[]int{3, 8, 1, 6, 4, 2, 7, 5}, 0, []int{8, 3, 1, 6, 4, 2, 7, 5}},
		{[]int{3, 8, 1, 6, 4, 2, 7, 5}, 3, []int{3, 8, 1, 4, 6, 2, 7, 5}},
		{[]int{3, 8, 1, 6, 4, 2, 7, 5}, 6, []int{3, 8, 1, 6, 4, 2, 5, 7}},
	}
	for _, e := range examples {
		if exchanged := mustExchange(t, e.order, e.at); !slices.Equal(exchanged, e.exchanged) {
			t.Errorf("ExchangedAt(%v, %d) = %v", e.order, e.at, exchanged)
		}
	}
}

func TestP33ExchangedAtWithoutANextOne(t *testing.T) {
	for words := 1; words <= impl.MaxWords; words++ {
		places := []int{-1, -2, -words, -8, -64, math.MinInt, words - 1, words, words + 1, 8, 9, 63, 64, 65, 1000, math.MaxInt - 1, math.MaxInt}
		for _, order := range [][]int{numbersUpTo(words), reversed(numbersUpTo(words))} {
			for _, at := range places {
				checkNoExchange(t, order, at)
				// What is behind the end is not the next one.
				checkNoExchange(t, roomy(order), at)
			}
		}
	}
}

func TestP33ExchangedAtOfOthers(t *testing.T) {
	for _, row := range append(noOrders(), smallRows()...) {
		for at := -1; at <= len(row); at++ {
			if _, ok := impl.ExchangedAt(row, at); ok != (isOrder(row) && at >= 0 && at+1 < len(row)) {
				t.Fatalf("ExchangedAt(%v, %d): %v", row, at, ok)
			}
			if !isOrder(row) {
				checkNoExchange(t, row, at)
			}
		}
	}
}

func TestP33ExchangedAtIsNew(t *testing.T) {
	for _, order := range [][]int{{1}, {2, 1}, {2, 1, 3}, {3, 8, 1, 6, 4, 2, 7, 5}} {
		for at := range order {
			checkNewRow(t, order, func(row []int) []int {
				exchanged, _ := impl.ExchangedAt(row, at)
				return exchanged
			})
		}
	}
}

// leastExchanges returns for each order of so many words, as a text, the least number of exchanges that lead to it from the order 1, 2 and so on, found step by step.
func leastExchanges(t *testing.T, words int) map[string]int {
	t.Helper()
	first := numbersUpTo(words)
	least := map[string]int{fmt.Sprint(first): 0}
	for queue := [][]int{first}; len(queue) > 0; queue = queue[1:] {
		for at := range words - 1 {
			next := mustExchange(t, queue[0], at)
			if _, ok := least[fmt.Sprint(next)]; !ok {
				least[fmt.Sprint(next)] = least[fmt.Sprint(queue[0])] + 1
				queue = append(queue, next)
			}
		}
	}
	return least
}

func TestP34ExchangesForIsTheLeastNumber(t *testing.T) {
	for words := 1; words <= 6; words++ {
		least := leastExchanges(t, words)
		for _, heads := range allTrees(words) {
			want, ok := least[fmt.Sprint(flatOrderByPairs(heads))]
			if got := impl.ExchangesFor(heads); !ok || got != want {
				t.Fatalf("ExchangesFor(%v) = %d, but step by step it is %d", heads, got, want)
			}
		}
	}
}

func TestP34FlatTreesNeedNoExchanges(t *testing.T) {
	for _, heads := range exchangeTrees(t) {
		exchanges := impl.ExchangesFor(heads)
		if (exchanges == 0) != hasRows(heads) || exchanges < 0 || exchanges > allPairs(len(heads)) {
			t.Fatalf("ExchangesFor(%v) = %d, but that it is flat is %v", heads, exchanges, hasRows(heads))
		}
		if want := turnedOneByOne(flatOrderByPairs(heads)); exchanges != want {
			t.Fatalf("ExchangesFor(%v) = %d, but one by one it is %d", heads, exchanges, want)
		}
		if flat := impl.MadeFlat(heads); impl.ExchangesFor(flat) != 0 {
			t.Fatalf("ExchangesFor(%v), which is %v made flat, is %d", flat, heads, impl.ExchangesFor(flat))
		}
	}
}

func TestP34ExchangesForExamples(t *testing.T) {
	for _, e := range exchangeExamples() {
		if exchanges := impl.ExchangesFor(e.heads); exchanges != e.exchanges {
			t.Errorf("ExchangesFor(%v) = %d", e.heads, exchanges)
		}
	}
}

func TestP34ExchangesForOthers(t *testing.T) {
	for name, heads := range notTrees() {
		if exchanges := impl.ExchangesFor(heads); exchanges != -1 {
			t.Errorf("%s: ExchangesFor(%v) = %d", name, heads, exchanges)
		}
	}
}

// checkMadeFlat checks what is promised of MadeFlat for a tree, and that each word keeps its head.
func checkMadeFlat(t *testing.T, heads []int) {
	t.Helper()
	flat := impl.MadeFlat(heads)
	if len(flat) != len(heads) || !impl.FlatOk(flat) || !hasRows(flat) {
		t.Fatalf("MadeFlat(%v) = %v", heads, flat)
	}
	if moves := mustMoves(t, flat); !slices.Equal(mustRun(t, len(flat), moves), flat) {
		t.Fatalf("MadeFlat(%v) = %v, but its moves %q tell another one", heads, flat, moves)
	}
	if again := impl.MadeFlat(flat); !slices.Equal(again, flat) {
		t.Fatalf("MadeFlat(%v) = %v, and made flat again it is %v", heads, flat, again)
	}
	if hasRows(heads) && !slices.Equal(flat, heads) {
		t.Fatalf("MadeFlat(%v) = %v, but it is flat", heads, flat)
	}
	order := flatOrderByPairs(heads)
	for at, word := range order {
		// The root has no head, and 0 is no place of the order.
		if head := slices.Index(order, heads[word-1]) + 1; flat[at] != head {
			t.Fatalf("MadeFlat(%v) = %v, but the word %d has another head", heads, flat, word)
		}
	}
}

func TestP35MadeFlatEachTreeIsToldByTheMachine(t *testing.T) {
	for _, heads := range exchangeTrees(t) {
		checkMadeFlat(t, heads)
	}
}

func TestP35FlatTreesStay(t *testing.T) {
	for words := 1; words <= impl.MaxWords; words++ {
		for _, heads := range toldTrees(t, words) {
			if flat := impl.MadeFlat(heads); !slices.Equal(flat, heads) {
				t.Fatalf("MadeFlat(%v) = %v", heads, flat)
			}
		}
	}
}

func TestP35MadeFlatExamples(t *testing.T) {
	for _, e := range exchangeExamples() {
		if flat := impl.MadeFlat(e.heads); !slices.Equal(flat, e.flat) {
			t.Errorf("MadeFlat(%v) = %v", e.heads, flat)
		}
	}
}

func TestP35MadeFlatOfOthers(t *testing.T) {
	for name, heads := range notTrees() {
		if flat := impl.MadeFlat(heads); len(flat) != 0 {
			t.Errorf("%s: MadeFlat(%v) = %v", name, heads, flat)
		}
	}
}

func TestP35MadeFlatIsNew(t *testing.T) {
	for _, heads := range append(append(bigTrees(), notFlat()...), []int{0}, []int{2, 0, 2}) {
		checkNewRow(t, heads, impl.MadeFlat)
	}
}

func TestExchangesLeaveTheirArguments(t *testing.T) {
	for _, heads := range append(append(bigTrees(), notFlat()...), []int{0}, []int{2, 3, 1}, []int{0, 0}) {
		argument := roomy(heads)
		impl.FlatOrder(argument)
		impl.ExchangesFor(argument)
		impl.MadeFlat(argument)
		checkApart(t, nil, argument, heads)
	}
	for _, order := range [][]int{{1}, {3, 2, 1}, {3, 8, 1, 6, 4, 2, 7, 5}, {3, 3, 1}, {9, 8}} {
		argument := roomy(order)
		impl.CountTurned(argument)
		for at := -1; at <= len(order); at++ {
			impl.ExchangedAt(argument, at)
		}
		checkApart(t, nil, argument, order)
	}
}
