package tests

import (
	"iter"
	"math"
	"slices"
	"testing"

	"loop.example/headtrees/impl"
)

// rows goes over all rows of so many numbers, each from low to high.
func rows(length, low, high int) iter.Seq[[]int] {
	return func(yield func([]int) bool) {
		row := slices.Repeat([]int{low}, length)
		for {
			if !yield(slices.Clone(row)) {
				return
			}
			at := length - 1
			for at >= 0 && row[at] == high {
				row[at] = low
				at--
			}
			if at < 0 {
				return
			}
			row[at]++
		}
	}
}

// isTree grows the tree from its root down, other than TreeOk, which goes up from each word.
func isTree(heads []int) bool {
	roots := 0
	for _, head := range heads {
		if head < 0 || head > len(heads) {
			return false
		}
		if head == 0 {
			roots++
		}
	}
	reached := map[int]bool{0: true}
	for range heads {
		for at, head := range heads {
			if reached[head] {
				reached[at+1] = true
			}
		}
	}
	return roots == 1 && len(reached) == len(heads)+1
}

// allTrees returns all trees with so many words.
func allTrees(words int) [][]int {
	var trees [][]int
	for heads := range rows(words, 0, words) {
		if isTree(heads) {
			trees = append(trees, heads)
		}
	}
	return trees
}

// smallTrees returns all trees with at most so many words.
func smallTrees(most int) [][]int {
	var trees [][]int
	for words := 1; words <= most; words++ {
		trees = append(trees, allTrees(words)...)
	}
	return trees
}

// allOrders returns all orders of the numbers from 1 up to many.
func allOrders(many int) [][]int {
	if many == 0 {
		return [][]int{nil}
	}
	var orders [][]int
	for _, order := range allOrders(many - 1) {
		for at := range many {
			orders = append(orders, slices.Insert(slices.Clone(order), at, many))
		}
	}
	return orders
}

// bigTrees returns some trees of MaxWords words: the chain both ways, a star, others with roots in many places, and in the end one with as many crossings as may be, a flat one that is no chain and no star, and one whose root lies under an arc though no arcs cross.
func bigTrees() [][]int {
	return [][]int{
		{0, 1, 2, 3, 4, 5, 6, 7},
		{2, 3, 4, 5, 6, 7, 8, 0},
		{5, 5, 5, 5, 0, 5, 5, 5},
		{3, 0, 2, 3, 2, 8, 6, 5},
		{8, 7, 1, 2, 3, 0, 6, 4},
		{6, 1, 6, 1, 2, 7, 0, 7},
		{0, 8, 7, 6, 1, 2, 5, 3},
		{0, 5, 6, 7, 1, 2, 3, 4},
		{2, 4, 2, 0, 6, 4, 8, 6},
		{8, 4, 4, 0, 4, 4, 4, 4},
	}
}

// notTrees returns heads that are no tree, at least one for each reason that the document names.
func notTrees() map[string][]int {
	return map[string][]int{
		"nil":                          nil,
		"no words":                     {},
		"more than MaxWords words":     {0, 1, 2, 3, 4, 5, 6, 7, 8},
		"many words":                   make([]int, 1000),
		"one word on itself":           {1},
		"one word past the last":       {2},
		"one word below 0":             {-1},
		"head below 0":                 {0, -1, 1},
		"head past the last word":      {0, 4, 1},
		"least number":                 {0, math.MinInt},
		"greatest number":              {0, math.MaxInt},
		"two roots":                    {0, 0},
		"two roots apart":              {0, 1, 2, 0},
		"no root":                      {2, 1},
		"a word on itself":             {0, 2, 1},
		"the last word on itself":      {0, 1, 3},
		"a ring of two":                {0, 3, 2},
		"a ring of all":                {2, 3, 1},
		"a ring of all MaxWords words": {2, 3, 4, 5, 6, 7, 8, 1},
		"a ring of all but the root":   {0, 3, 4, 5, 6, 7, 8, 2},
		"a word that leads to a ring":  {0, 3, 2, 2, 1},
		"a ring and two roots":         {0, 0, 4, 3},
		"a head past MaxWords":         {0, 1, 2, 3, 4, 5, 6, 9},
	}
}

// notFlat returns trees that are not flat: with a root under an arc, with arcs that cross, and with both.
func notFlat() [][]int {
	return [][]int{{3, 0, 2}, {3, 4, 0, 3}, {3, 0, 2, 3, 2}, {0, 1, 1, 2, 3}, {8, 4, 4, 0, 4, 4, 4, 4}}
}

// reversed returns a row from the last one to the first one.
func reversed(row []int) []int {
	back := slices.Clone(row)
	slices.Reverse(back)
	return back
}

// numbersUpTo returns 1, 2 and so on.
func numbersUpTo(many int) []int {
	row := make([]int, many)
	for at := range row {
		row[at] = at + 1
	}
	return row
}

// roomy returns a copy of a row with spare capacity that is filled, so that writing to it shows.
func roomy(row []int) []int {
	room := make([]int, len(row)+12)
	for at := copy(room, row); at < len(room); at++ {
		room[at] = 77
	}
	return room[:len(row)]
}

// checkApart checks that a result shares no memory with an argument made by roomy, and that the argument is as it was.
func checkApart(t *testing.T, result, argument, before []int) {
	t.Helper()
	whole := result[:cap(result)]
	for at := range whole {
		whole[at] = 99
	}
	if !slices.Equal(argument, before) {
		t.Errorf("argument %v became %v", before, argument)
	}
	for _, number := range argument[len(argument):cap(argument)] {
		if number != 77 {
			t.Errorf("the spare capacity of argument %v was written to, or a result shares it", before)
		}
	}
}

// mustPut returns a tree put in an order, where both are valid.
func mustPut(t *testing.T, heads, order []int) []int {
	t.Helper()
	put, ok := impl.PutInOrder(heads, order)
	if !ok || len(put) != len(heads) {
		t.Fatalf("PutInOrder(%v, %v) = %v, %v", heads, order, put, ok)
	}
	return put
}

// notWords returns numbers that are no words of a sentence with so many words.
func notWords(words int) []int {
	others := []int{0, -1, -2, -63, -64, -65, math.MinInt, words + 1, 10, 63, 64, 65, 66, 1000, math.MaxInt}
	for word := words + 2; word <= 9; word++ {
		others = append(others, word)
	}
	return others
}

// notSentences returns numbers of words that no sentence has.
func notSentences() []int {
	return []int{0, -1, -2, -3, -64, math.MinInt, 9, 10, 63, 64, 65, 1000, math.MaxInt}
}

// leadsTo goes up from a word, which is in a tree, and reports whether one comes to another one, or is there.
func leadsTo(heads []int, from, to int) bool {
	for from != 0 {
		if from == to {
			return true
		}
		from = heads[from-1]
	}
	return false
}

// isWithin reports whether each number of a row is in another one.
func isWithin(row, other []int) bool {
	for _, number := range row {
		if !slices.Contains(other, number) {
			return false
		}
	}
	return true
}

// isApartFrom reports whether no number of a row is in another one.
func isApartFrom(row, other []int) bool {
	for _, number := range row {
		if slices.Contains(other, number) {
			return false
		}
	}
	return true
}
