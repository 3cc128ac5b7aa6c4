package tests

import (
	"slices"
	"testing"

	"loop.example/headtrees/impl"
)

// gapTrees returns all trees with at most six words, some of MaxWords words, and of these in the end some with many gaps: a yield of each second word, two such yields by turns, three by turns, and two with gaps that do not go by turns, within each other and one behind the other.
func gapTrees() [][]int {
	trees := append(smallTrees(6), bigTrees()...)
	return append(trees,
		[]int{0, 1, 1, 2, 1, 2, 1, 2},
		[]int{0, 1, 1, 2, 3, 2, 3, 2},
		[]int{0, 1, 1, 1, 2, 3, 4, 2},
		[]int{3, 3, 0, 3, 3, 4, 3, 2},
		[]int{0, 1, 1, 2, 1, 1, 5, 1},
	)
}

// rowsOneByOne goes over all words from the left on, and puts each that leads to a word behind the row before, if that ends there, or into a new row.
func rowsOneByOne(heads []int, word int) [][]int {
	var found [][]int
	for from := 1; from <= len(heads); from++ {
		if !leadsTo(heads, from, word) {
			continue
		}
		if last := len(found) - 1; last >= 0 && found[last][1] == from-1 {
			found[last][1] = from
		} else {
			found = append(found, []int{from, from})
		}
	}
	return found
}

// takeTurns reports whether no word leads to both of two words, and of those that lead to one of them, from the left on, it is another one at least three times.
func takeTurns(heads []int, a, b int) bool {
	var turns []int
	for from := 1; from <= len(heads); from++ {
		toFirst, toSecond := leadsTo(heads, from, a), leadsTo(heads, from, b)
		if toFirst && toSecond {
			return false
		}
		if toFirst {
			turns = append(turns, a)
		}
		if toSecond {
			turns = append(turns, b)
		}
	}
	return len(slices.Compact(turns)) >= 4
}

func TestP21GapsAreLessThanWords(t *testing.T) {
	for _, heads := range gapTrees() {
		back := impl.BackOf(heads)
		for word := 1; word <= len(heads); word++ {
			gaps := impl.GapsOf(heads, word)
			if gaps < 0 || gaps >= len(impl.YieldOf(heads, word)) {
				t.Fatalf("GapsOf(%v, %d) = %d, but its yield is %v", heads, word, gaps, impl.YieldOf(heads, word))
			}
			if (word == impl.RootOf(heads) || len(impl.DependsOf(heads, word)) == 0) && gaps != 0 {
				t.Fatalf("GapsOf(%v, %d) = %d, but it is the root or a leaf", heads, word, gaps)
			}
			if got := impl.GapsOf(back, len(heads)+1-word); got != gaps {
				t.Fatalf("GapsOf(%v, %d) = %d, but from the last word on it is %d", heads, word, gaps, got)
			}
		}
	}
}

func TestP21GapsOfIsOneLessThanRows(t *testing.T) {
	for _, heads := range gapTrees() {
		for word := 1; word <= len(heads); word++ {
			if got, found := impl.GapsOf(heads, word), rowsOneByOne(heads, word); got != len(found)-1 {
				t.Fatalf("GapsOf(%v, %d) = %d, but its rows are %v", heads, word, got, found)
			}
		}
	}
}

func TestP21GapsOfExamples(t *testing.T) {
	examples := []struct {
		heads []int
		gaps  []int
	}{
		{[]int{0}, []int{0}},
		{[]int{2, 0}, []int{0, 0}},
		{[]int{3, 0, 2}, []int{0, 0, 1}},
		{[]int{3, 0, 2, 3, 2}, []int{0, 0, 1, 0, 0}},
		{[]int{0, 1, 1, 2, 3}, []int{0, 1, 1, 0, 0}},
		{[]int{0, 1, 2, 1, 2, 1, 2}, []int{0, 2, 0, 0, 0, 0, 0}},
		{[]int{8, 4, 4, 0, 4, 4, 4, 4}, []int{0, 0, 0, 0, 0, 0, 0, 1}},
		{[]int{0, 1, 1, 2, 1, 2, 1, 2}, []int{0, 3, 0, 0, 0, 0, 0, 0}},
		{[]int{0, 1, 2, 3, 4, 5, 6, 7}, []int{0, 0, 0, 0, 0, 0, 0, 0}},
	}
	for _, e := range examples {
		for at, want := range e.gaps {
			if got := impl.GapsOf(e.heads, at+1); got != want {
				t.Errorf("GapsOf(%v, %d) = %d", e.heads, at+1, got)
			}
		}
	}
}

func TestP21GapsOfOthers(t *testing.T) {
	for name, heads := range notTrees() {
		for word := -1; word <= len(heads)+1; word++ {
			if got := impl.GapsOf(heads, word); got != -1 {
				t.Errorf("%s: GapsOf(%v, %d) = %d", name, heads, word, got)
			}
		}
	}
	for _, heads := range sampleTrees() {
		for _, word := range notWords(len(heads)) {
			if got := impl.GapsOf(heads, word); got != -1 {
				t.Fatalf("GapsOf(%v, %d) = %d", heads, word, got)
			}
		}
	}
}

func TestP22FlatTreesHaveNoGaps(t *testing.T) {
	for _, heads := range gapTrees() {
		most := impl.MostGaps(heads)
		if (most == 0) != impl.FlatOk(heads) {
			t.Fatalf("MostGaps(%v) = %d, but that it is flat is %v", heads, most, most != 0)
		}
		if most > 1 && impl.CrossingsOf(heads) == 0 {
			t.Fatalf("MostGaps(%v) = %d, but no arcs cross", heads, most)
		}
	}
}

func TestP22MostGapsIsTheGreatestNumber(t *testing.T) {
	for _, heads := range gapTrees() {
		want := 0
		for word := 1; word <= len(heads); word++ {
			want = max(want, len(rowsOneByOne(heads, word))-1)
		}
		if got := impl.MostGaps(heads); got != want {
			t.Fatalf("MostGaps(%v) = %d, but a yield has %d", heads, got, want)
		}
	}
}

func TestP22MostGapsExamples(t *testing.T) {
	examples := []struct {
		heads []int
		most  int
	}{
		{[]int{0}, 0},
		{[]int{0, 1}, 0},
		{[]int{2, 0, 2}, 0},
		{[]int{3, 0, 2}, 1},
		{[]int{3, 0, 2, 3, 2}, 1},
		{[]int{0, 3, 1, 3, 1}, 0},
		{[]int{0, 1, 1, 2, 3}, 1},
		{[]int{0, 1, 2, 1, 2, 1, 2}, 2},
		{[]int{2, 0, 1, 2, 1, 2, 1, 2}, 3},
		{[]int{7, 8, 7, 8, 7, 8, 8, 0}, 3},
	}
	for _, e := range examples {
		if got := impl.MostGaps(e.heads); got != e.most {
			t.Errorf("MostGaps(%v) = %d", e.heads, got)
		}
	}
}

func TestP22MostGapsOfOthers(t *testing.T) {
	for name, heads := range notTrees() {
		if got := impl.MostGaps(heads); got != -1 {
			t.Errorf("%s: MostGaps(%v) = %d", name, heads, got)
		}
	}
}

func TestP23TurnsAreTakenByBoth(t *testing.T) {
	for _, heads := range gapTrees() {
		for a := 1; a <= len(heads); a++ {
			for b := 1; b <= len(heads); b++ {
				turns := impl.TurnsOk(heads, a, b)
				if impl.TurnsOk(heads, b, a) != turns {
					t.Fatalf("TurnsOk(%v, %d, %d) = %v, but not the other way", heads, a, b, turns)
				}
				if turns && (impl.UnderOk(heads, a, b) || impl.UnderOk(heads, b, a)) {
					t.Fatalf("TurnsOk(%v, %d, %d) holds, but one is under the other one", heads, a, b)
				}
				if turns && (impl.GapsOf(heads, a) < 1 || impl.GapsOf(heads, b) < 1) {
					t.Fatalf("TurnsOk(%v, %d, %d) holds, but a yield has no gap", heads, a, b)
				}
			}
		}
	}
}

func TestP23TurnsOkIsToTakeFourTurns(t *testing.T) {
	for _, heads := range gapTrees() {
		for a := 1; a <= len(heads); a++ {
			for b := 1; b <= len(heads); b++ {
				if got, want := impl.TurnsOk(heads, a, b), takeTurns(heads, a, b); got != want {
					t.Fatalf("TurnsOk(%v, %d, %d) = %v", heads, a, b, got)
				}
			}
		}
	}
}

func TestP23TurnsOkExamples(t *testing.T) {
	examples := []struct {
		name  string
		heads []int
		a, b  int
		turns bool
	}{
		{"one word", []int{0}, 1, 1, false},
		{"two yields by turns", []int{0, 1, 1, 2, 3}, 2, 3, true},
		{"a word and the root", []int{0, 1, 1, 2, 3}, 2, 1, false},
		{"a word and itself", []int{0, 1, 1, 2, 3}, 2, 2, false},
		{"a word and its head", []int{0, 1, 2, 3, 1, 3, 2}, 3, 2, false},
		{"within a gap", []int{0, 1, 1, 3, 2}, 2, 3, false},
		{"two words within a gap", []int{0, 1, 1, 1, 3, 2}, 2, 3, false},
		{"a leaf within a gap", []int{3, 0, 2, 3, 2}, 3, 2, false},
		{"turns behind a row of two words", []int{0, 1, 2, 1, 2, 4}, 2, 4, true},
		{"a row within a gap, and a row behind", []int{0, 1, 1, 3, 2, 2}, 2, 3, false},
		{"gaps behind each other", []int{0, 1, 1, 2, 1, 3, 5}, 2, 5, false},
		{"the first two of three", []int{0, 1, 1, 2, 1, 3, 5}, 2, 3, true},
		{"the last two of three", []int{0, 1, 1, 2, 1, 3, 5}, 5, 3, true},
		{"arcs that cross, but not of apart yields", []int{3, 4, 0, 3}, 4, 1, false},
		{"turns of many words", []int{0, 1, 1, 2, 3, 2, 3, 2}, 3, 2, true},
		{"turns at different depths", []int{0, 1, 1, 2, 4, 3, 5, 6}, 4, 3, true},
	}
	for _, e := range examples {
		if got := impl.TurnsOk(e.heads, e.a, e.b); got != e.turns {
			t.Errorf("%s: TurnsOk(%v, %d, %d) = %v", e.name, e.heads, e.a, e.b, got)
		}
	}
}

func TestP23TurnsOkOfOthers(t *testing.T) {
	for name, heads := range notTrees() {
		for a := -1; a <= min(len(heads), impl.MaxWords)+1; a++ {
			for b := -1; b <= min(len(heads), impl.MaxWords)+1; b++ {
				if impl.TurnsOk(heads, a, b) {
					t.Errorf("%s: TurnsOk(%v, %d, %d) holds", name, heads, a, b)
				}
			}
		}
	}
	for _, heads := range [][]int{{0}, {2, 0}, {0, 1, 1, 2, 3}, {0, 1, 1, 2, 3, 2, 3, 2}} {
		others := notWords(len(heads))
		for _, other := range others {
			for word := 1; word <= len(heads); word++ {
				if impl.TurnsOk(heads, other, word) || impl.TurnsOk(heads, word, other) {
					t.Fatalf("TurnsOk of %v, %d and %d holds", heads, word, other)
				}
			}
			for _, second := range others {
				if impl.TurnsOk(heads, other, second) {
					t.Fatalf("TurnsOk(%v, %d, %d) holds", heads, other, second)
				}
			}
		}
	}
}

func TestP23TurnsOkOfNoTreesWithTurns(t *testing.T) {
	// Words 2 and 3 would go by turns if what is no tree elsewhere were let pass.
	for _, heads := range [][]int{{0, 1, 1, 2, 3, 0}, {0, 1, 1, 2, 3, 6}, {0, 1, 1, 2, 3, 7}, {0, 1, 1, 2, 3, -1}, {6, 1, 1, 2, 3, 1}, {0, 1, 1, 2, 3, 1, 1, 1, 1}} {
		if impl.TurnsOk(heads, 2, 3) {
			t.Errorf("TurnsOk(%v, 2, 3) holds", heads)
		}
	}
}

func TestP24WithoutCrossingsNoneGoByTurns(t *testing.T) {
	for _, heads := range gapTrees() {
		nested := impl.NestedOk(heads)
		if (impl.CrossingsOf(heads) == 0 || impl.FlatOk(heads)) && !nested {
			t.Fatalf("NestedOk(%v) does not hold, but it is flat, or no arcs cross", heads)
		}
		if impl.NestedOk(impl.BackOf(heads)) != nested {
			t.Fatalf("NestedOk(%v) = %v, but not so from the last word on", heads, nested)
		}
	}
}

func TestP24NestedOkIsThatNoTwoGoByTurns(t *testing.T) {
	for _, heads := range gapTrees() {
		want := true
		for a := 1; a <= len(heads); a++ {
			for b := 1; b <= len(heads); b++ {
				want = want && !takeTurns(heads, a, b)
			}
		}
		if got := impl.NestedOk(heads); got != want {
			t.Fatalf("NestedOk(%v) = %v", heads, got)
		}
	}
}

func TestP24NestedOkExamples(t *testing.T) {
	examples := []struct {
		name   string
		heads  []int
		nested bool
	}{
		{"one word", []int{0}, true},
		{"two words", []int{2, 0}, true},
		{"a flat tree", []int{0, 3, 1, 3, 1}, true},
		{"the root in a gap", []int{3, 0, 2}, true},
		{"arcs that cross", []int{3, 0, 2, 3, 2}, true},
		{"two gaps", []int{0, 1, 2, 1, 2, 1, 2}, true},
		{"a gap within a gap", []int{0, 1, 1, 1, 3, 2}, true},
		{"two yields by turns", []int{0, 1, 1, 2, 3}, false},
		{"two yields by turns from the last word on", []int{3, 4, 5, 5, 0}, false},
		{"the last two words by turns", []int{2, 0, 2, 2, 2, 2, 5, 6}, false},
		{"turns of three", []int{0, 1, 1, 1, 2, 3, 4, 2}, false},
	}
	for _, e := range examples {
		if got := impl.NestedOk(e.heads); got != e.nested {
			t.Errorf("%s: NestedOk(%v) = %v", e.name, e.heads, got)
		}
	}
}

func TestP24NestedOkOfOthers(t *testing.T) {
	for name, heads := range notTrees() {
		if impl.NestedOk(heads) {
			t.Errorf("%s: NestedOk(%v) holds", name, heads)
		}
	}
}

// equalRows reports whether two slices have equal rows.
func equalRows(a, b [][]int) bool {
	return slices.EqualFunc(a, b, slices.Equal[[]int])
}

func TestP25RowsAreTheYield(t *testing.T) {
	for _, heads := range gapTrees() {
		for word := 1; word <= len(heads); word++ {
			found := impl.RowsOf(heads, word)
			if len(found) != impl.GapsOf(heads, word)+1 {
				t.Fatalf("RowsOf(%v, %d) = %v, but gaps are %d", heads, word, found, impl.GapsOf(heads, word))
			}
			words, end := 0, -1
			for _, row := range found {
				if len(row) != 2 || row[0] <= end+1 || row[1] < row[0] {
					t.Fatalf("RowsOf(%v, %d) = %v", heads, word, found)
				}
				words, end = words+row[1]-row[0]+1, row[1]
			}
			if words != len(impl.YieldOf(heads, word)) {
				t.Fatalf("RowsOf(%v, %d) = %v, but its yield is %v", heads, word, found, impl.YieldOf(heads, word))
			}
		}
	}
}

func TestP25RowsOfIsFoundOneByOne(t *testing.T) {
	for _, heads := range gapTrees() {
		for word := 1; word <= len(heads); word++ {
			if got, want := impl.RowsOf(heads, word), rowsOneByOne(heads, word); !equalRows(got, want) {
				t.Fatalf("RowsOf(%v, %d) = %v, but these are its rows: %v", heads, word, got, want)
			}
		}
	}
}

func TestP25RowsOfExamples(t *testing.T) {
	examples := []struct {
		heads []int
		word  int
		rows  [][]int
	}{
		{[]int{0}, 1, [][]int{{1, 1}}},
		{[]int{2, 0}, 1, [][]int{{1, 1}}},
		{[]int{2, 0}, 2, [][]int{{1, 2}}},
		{[]int{3, 0, 2, 3, 2}, 3, [][]int{{1, 1}, {3, 4}}},
		{[]int{3, 0, 2, 3, 2}, 2, [][]int{{1, 5}}},
		{[]int{3, 0, 2, 3, 2}, 5, [][]int{{5, 5}}},
		{[]int{0, 1, 1, 2, 3}, 3, [][]int{{3, 3}, {5, 5}}},
		{[]int{0, 1, 2, 1, 2, 1, 2}, 2, [][]int{{2, 3}, {5, 5}, {7, 7}}},
		{[]int{0, 1, 1, 2, 1, 2, 1, 2}, 2, [][]int{{2, 2}, {4, 4}, {6, 6}, {8, 8}}},
		{[]int{8, 4, 4, 0, 4, 4, 4, 4}, 8, [][]int{{1, 1}, {8, 8}}},
		{[]int{0, 1, 2, 3, 4, 5, 6, 7}, 1, [][]int{{1, 8}}},
	}
	for _, e := range examples {
		if got := impl.RowsOf(e.heads, e.word); !equalRows(got, e.rows) {
			t.Errorf("RowsOf(%v, %d) = %v", e.heads, e.word, got)
		}
	}
}

func TestP25RowsOfOthers(t *testing.T) {
	for name, heads := range notTrees() {
		for word := -1; word <= len(heads)+1; word++ {
			if got := impl.RowsOf(heads, word); len(got) != 0 {
				t.Errorf("%s: RowsOf(%v, %d) = %v", name, heads, word, got)
			}
		}
	}
	for _, heads := range sampleTrees() {
		for _, word := range notWords(len(heads)) {
			if got := impl.RowsOf(heads, word); len(got) != 0 {
				t.Fatalf("RowsOf(%v, %d) = %v", heads, word, got)
			}
		}
	}
}

func TestP25RowsOfIsNew(t *testing.T) {
	for _, heads := range [][]int{{0}, {3, 0, 2, 3, 2}, {0, 1, 2, 1, 2, 1, 2}, {0, 1, 1, 2, 3, 2, 3, 2}} {
		for word := 1; word <= len(heads); word++ {
			argument, want := roomy(heads), rowsOneByOne(heads, word)
			result, other := impl.RowsOf(argument, word), impl.RowsOf(argument, word)
			for at, row := range result {
				checkApart(t, row, argument, heads)
				if !equalRows(result[at+1:], want[at+1:]) {
					t.Fatalf("row %d of RowsOf(%v, %d) shares memory with one behind it", at, heads, word)
				}
			}
			if !equalRows(other, want) {
				t.Fatalf("RowsOf(%v, %d) = %v, or it shares memory with another result", heads, word, other)
			}
			clear(other[:cap(other)])
			if slices.ContainsFunc(result, func(row []int) bool { return len(row) == 0 }) {
				t.Fatalf("RowsOf(%v, %d) shares its rows with another result", heads, word)
			}
			if again := impl.RowsOf(argument, word); !equalRows(again, want) {
				t.Fatalf("RowsOf(%v, %d) = %v, and then %v", heads, word, want, again)
			}
		}
	}
}

func TestGapsLeaveTheirArguments(t *testing.T) {
	for _, heads := range append(bigTrees(), []int{0, 1, 1, 2, 3}, []int{2, 3, 1}, []int{0, 0}) {
		argument := roomy(heads)
		impl.MostGaps(argument)
		impl.NestedOk(argument)
		for word := range len(heads) + 2 {
			impl.GapsOf(argument, word)
			impl.RowsOf(argument, word)
			impl.TurnsOk(argument, word, 2)
		}
		checkApart(t, nil, argument, heads)
	}
}
