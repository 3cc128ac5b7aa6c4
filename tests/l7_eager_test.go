package tests

import (
	"slices"
	"strings"
	"testing"

	"loop.example/headtrees/impl"
)

// eagerReader reads a text of moves, each word of the stack being held by a call of its own.
type eagerReader struct {
	heads []int
	next  int
	rest  string
	bad   bool
}

// hold reads the moves for which a word is the upper one, and those for all that come on top of it, until it is taken away; word 0 is the stack without any words.
func (r *eagerReader) hold(word int) {
	for r.rest != "" && !r.bad {
		letter := r.rest[0]
		r.rest = r.rest[1:]
		if letter == 'D' {
			r.bad = word == 0 || r.heads[word-1] == 0
			return
		}
		next := r.next
		if next > len(r.heads) || letter != 'S' && word == 0 {
			r.bad = true
			return
		}
		switch letter {
		case 'L':
			r.bad = r.heads[word-1] != 0
			r.heads[word-1] = next
			return
		case 'R':
			r.heads[next-1] = word
		case 'S':
		default:
			r.bad = true
			return
		}
		r.next++
		r.hold(next)
	}
}

// toldByCalls returns the heads that eager moves tell for so many words, and true; nil and false if they tell none.
func toldByCalls(words int, moves string) ([]int, bool) {
	r := eagerReader{heads: make([]int, words), next: 1, rest: moves}
	r.hold(0)
	if r.bad || r.next != words+1 || count(r.heads, 0) != 1 {
		return nil, false
	}
	return r.heads, true
}

// count returns how often a number is in a row.
func count(row []int, number int) int {
	times := 0
	for _, each := range row {
		if each == number {
			times++
		}
	}
	return times
}

// isJoined reports whether one of two words of a tree is the head of the other one.
func isJoined(heads []int, a, b int) bool {
	return heads[a-1] == b || heads[b-1] == a
}

// isGone reports whether a word of a flat tree is not on the stack any more when a further word becomes the next one: it has a head behind it, or lies under an arc, that ends ahead of the further word.
func isGone(heads []int, word, next int) bool {
	if heads[word-1] > word && heads[word-1] < next {
		return true
	}
	for right := word + 1; right < next; right++ {
		for left := 1; left < word; left++ {
			if isJoined(heads, left, right) {
				return true
			}
		}
	}
	return false
}

// eagerFromArcs returns the moves by the eager rule for a flat tree, read from its arcs without a stack.
func eagerFromArcs(heads []int) string {
	moves := ""
	for next := 1; next <= len(heads); next++ {
		farthest := next
		for word := next - 1; word >= 1; word-- {
			if isJoined(heads, word, next) {
				farthest = word
			}
		}
		put := "S"
		for word := next - 1; word >= farthest; word-- {
			switch {
			case heads[word-1] == next:
				moves += "L"
			case heads[next-1] == word:
				put = "R"
			case !isGone(heads, word, next):
				moves += "D"
			}
		}
		moves += put
	}
	return moves
}

// mustRunEager returns the heads that eager moves tell, where they tell a tree.
func mustRunEager(t *testing.T, words int, moves string) []int {
	t.Helper()
	heads, ok := impl.RunEager(words, moves)
	if !ok || len(heads) != words {
		t.Fatalf("RunEager(%d, %q) = %v, %v", words, moves, heads, ok)
	}
	return heads
}

// mustEager returns the eager moves for a flat tree.
func mustEager(t *testing.T, heads []int) string {
	t.Helper()
	moves, ok := impl.EagerFor(heads)
	if !ok {
		t.Fatalf("EagerFor(%v) = %q, %v", heads, moves, ok)
	}
	return moves
}

// checkNoEager checks that eager moves tell no tree.
func checkNoEager(t *testing.T, words int, moves string) {
	t.Helper()
	if heads, ok := impl.RunEager(words, moves); ok || len(heads) != 0 {
		t.Errorf("RunEager(%d, %.40q) = %v, %v", words, moves, heads, ok)
	}
}

// toldTrees returns all flat trees that the machine with a stack tells for so many words.
func toldTrees(t *testing.T, words int) [][]int {
	t.Helper()
	var trees [][]int
	told := map[string]bool{}
	for _, way := range stackWays(words) {
		heads := mustRun(t, words, way)
		if moves := mustMoves(t, heads); !told[moves] {
			told[moves] = true
			trees = append(trees, heads)
		}
	}
	return trees
}

// checkEagerWay checks what is promised of eager moves that tell a tree.
func checkEagerWay(t *testing.T, moves string, heads []int) {
	t.Helper()
	if !impl.FlatOk(heads) {
		t.Fatalf("RunEager(%d, %q) = %v, which is not flat", len(heads), moves, heads)
	}
	rule := mustEager(t, heads)
	if again := mustRunEager(t, len(heads), rule); !slices.Equal(again, heads) {
		t.Fatalf("RunEager(%d, %q) = %v, but the moves by the rule %q tell %v", len(heads), moves, heads, rule, again)
	}
	other := mustMoves(t, heads)
	if again := mustRun(t, len(heads), other); !slices.Equal(again, heads) {
		t.Fatalf("RunEager(%d, %q) = %v, but the moves %q of the other machine tell %v", len(heads), moves, heads, other, again)
	}
}

func TestP29EachEagerWayTellsAFlatTree(t *testing.T) {
	for length := range 9 {
		for _, moves := range textsOf("SLRD", length) {
			for words := 1; words <= 5; words++ {
				want, wanted := toldByCalls(words, moves)
				got, ok := impl.RunEager(words, moves)
				if ok != wanted || !slices.Equal(got, want) {
					t.Fatalf("RunEager(%d, %q) = %v, %v", words, moves, got, ok)
				}
				if ok {
					checkEagerWay(t, moves, got)
				}
			}
		}
	}
}

func TestP29MovesBehindTheLastWord(t *testing.T) {
	for words := 1; words <= 6; words++ {
		for _, heads := range toldTrees(t, words) {
			moves := mustEager(t, heads)
			for range words + 1 {
				want, wanted := toldByCalls(words, moves)
				if got, ok := impl.RunEager(words, moves); ok != wanted || !slices.Equal(got, want) {
					t.Fatalf("RunEager(%d, %q) = %v, %v", words, moves, got, ok)
				}
				for _, letter := range []string{"S", "L", "R", "SD", "LD", "RD"} {
					checkNoEager(t, words, moves+letter)
				}
				moves += "D"
			}
			// At most as many words can be taken away as have a head.
			checkNoEager(t, words, moves)
		}
	}
}

func TestP29RunEagerExamples(t *testing.T) {
	examples := []struct {
		moves string
		heads []int
	}{
		{"S", []int{0}},
		{"SR", []int{0, 1}},
		{"SRD", []int{0, 1}},
		{"SLS", []int{2, 0}},
		{"SLSR", []int{2, 0, 2}},
		{"SRR", []int{0, 1, 2}},
		{"SRRD", []int{0, 1, 2}},
		{"SRRDD", []int{0, 1, 2}},
		{"SRDR", []int{0, 1, 1}},
		{"SRDRD", []int{0, 1, 1}},
		{"SSLR", []int{0, 3, 1}},
		{"SSLLS", []int{3, 3, 0}},
		{"SRDLS", []int{3, 1, 0}},
		{"SLSLS", []int{2, 3, 0}},
		{"SSLRRDDR", []int{0, 3, 1, 3, 1}},
		{"SRRRRRRR", []int{0, 1, 2, 3, 4, 5, 6, 7}},
		{"SRRRRRRRDDDDDDD", []int{0, 1, 2, 3, 4, 5, 6, 7}},
		{"SSSSSSSLLLLLLLS", []int{8, 8, 8, 8, 8, 8, 8, 0}},
	}
	for _, e := range examples {
		if got := mustRunEager(t, len(e.heads), e.moves); !slices.Equal(got, e.heads) {
			t.Errorf("RunEager(%d, %q) = %v", len(e.heads), e.moves, got)
		}
	}
}

func TestP29RunEagerWithWordsWithoutHeads(t *testing.T) {
	examples := map[string]int{
		"SS":               2,
		"SSS":              3,
		"SRS":              3,
		"SRDS":             3,
		"SRSD":             3,
		"SSR":              3,
		"SSRD":             3,
		"SLSS":             3,
		"SRRS":             4,
		"SSRR":             4,
		"SSRDR":            4,
		"SSLSR":            4,
		"SSSSSSSS":         8,
		"SRRRRRRS":         8,
		"SSRRRRRR":         8,
		"SRDRDRDRDRDRDS":   8,
		"SSSSSSSLLLLLLSDD": 8,
	}
	for moves, words := range examples {
		checkNoEager(t, words, moves)
	}
}

func TestP29RunEagerOfOneWord(t *testing.T) {
	if got := mustRunEager(t, 1, "S"); got[0] != 0 {
		t.Errorf("RunEager(1, \"S\") = %v", got)
	}
	for _, moves := range []string{"", "L", "R", "D", "s", "SS", "SL", "SR", "SD", "LS", "RS", "DS", "SLS", "SRD", "S ", " S", "S\n", "S\x00"} {
		checkNoEager(t, 1, moves)
	}
}

func TestP29RunEagerOfMovesThatCannotBeDone(t *testing.T) {
	examples := map[string]string{
		"L ahead of all":                "LSRR",
		"R ahead of all":                "RSRR",
		"R ahead of all instead of S":   "RRR",
		"D ahead of all":                "DSRR",
		"L for a word that has a head":  "SRLS",
		"L for a word under the first":  "SRLSR",
		"L for a root with its head":    "SRDLLS",
		"L on an empty stack":           "SLLS",
		"R on an empty stack":           "SLRR",
		"D on an empty stack":           "SLDSR",
		"D for a word that has no head": "SDRR",
		"D for the root":                "SRDDR",
		"D for the root in the end":     "SRRDDD",
		"S past the last word":          "SRRS",
		"L past the last word":          "SLSRL",
		"L past it with no head":        "SLSLSL",
		"R past the last word":          "SRRR",
		"R past it, and D":              "SRRRD",
	}
	for name, moves := range examples {
		t.Run(name, func(t *testing.T) { checkNoEager(t, 3, moves) })
	}
}

func TestP29RunEagerOfMovesThatEndTooEarlyOrTooLate(t *testing.T) {
	for words := 1; words <= 5; words++ {
		for _, heads := range toldTrees(t, words) {
			moves := mustEager(t, heads)
			for end := range len(moves) {
				checkNoEager(t, words, moves[:end])
			}
			checkNoEager(t, words, moves+moves)
		}
	}
	for _, letter := range []string{"S", "L", "R", "D"} {
		checkNoEager(t, 3, strings.Repeat(letter, 100_000))
		checkNoEager(t, 3, "SLSR"+strings.Repeat(letter, 100_000))
	}
}

func TestP29RunEagerOfOtherBytes(t *testing.T) {
	for moves := range withAnotherByte("SLRD", "SRDR") {
		checkNoEager(t, 3, moves)
	}
	for _, moves := range []string{"slsr", "srdr", "SLŚR", "SLSR\r\n", "ＳＬＳＲ", "\xffSLSR"} {
		checkNoEager(t, 3, moves)
	}
}

func TestP29RunEagerOfOtherNumbersOfWords(t *testing.T) {
	for _, words := range notSentences() {
		for _, moves := range []string{"", "S", "SR", "SLSR", "SRRRRRRRR", "SRRRRRRRRR", "D", "x"} {
			checkNoEager(t, words, moves)
		}
	}
	for words := 1; words <= impl.MaxWords; words++ {
		for other := 1; other <= impl.MaxWords+1; other++ {
			if other != words {
				checkNoEager(t, words, "S"+strings.Repeat("R", other-1))
				checkNoEager(t, words, strings.Repeat("S", other-1)+strings.Repeat("L", other-1)+"S")
			}
		}
	}
}

func TestP29RunEagerIsNew(t *testing.T) {
	for moves, words := range map[string]int{"S": 1, "SLS": 2, "SRDR": 3, "SSLRRDDR": 5, "SRRRRRRRDD": 8} {
		want, _ := toldByCalls(words, moves)
		checkNewRun(t, impl.RunEager, moves, want)
	}
}

func TestP30EachFlatTreeIsToldByTheEagerRule(t *testing.T) {
	for _, heads := range append(smallTrees(6), bigTrees()...) {
		moves, ok := impl.EagerFor(heads)
		if ok != impl.FlatOk(heads) || ok != hasRows(heads) {
			t.Fatalf("EagerFor(%v) = %q, %v, but that it is flat is %v", heads, moves, ok, hasRows(heads))
		}
		if !ok {
			if moves != "" {
				t.Fatalf("EagerFor(%v) = %q, but it is not flat", heads, moves)
			}
			continue
		}
		checkEagerMoves(t, heads)
	}
}

func TestP30EagerMovesForManyWords(t *testing.T) {
	for words := 7; words <= impl.MaxWords; words++ {
		for _, heads := range toldTrees(t, words) {
			checkEagerMoves(t, heads)
		}
	}
}

// checkEagerMoves checks what is promised of the eager moves for a flat tree, and that they are those of the rule.
func checkEagerMoves(t *testing.T, heads []int) {
	t.Helper()
	moves := mustEager(t, heads)
	if told := mustRunEager(t, len(heads), moves); !slices.Equal(told, heads) {
		t.Fatalf("EagerFor(%v) = %q, which tell %v", heads, moves, told)
	}
	puts, takes, arcs := strings.Count(moves, "S"), strings.Count(moves, "L"), strings.Count(moves, "R")
	if takes+arcs != len(heads)-1 || puts+arcs != len(heads) {
		t.Fatalf("EagerFor(%v) = %q, with %d S, %d L and %d R", heads, moves, puts, takes, arcs)
	}
	if want := eagerFromArcs(heads); moves != want {
		t.Fatalf("EagerFor(%v) = %q, but from its arcs it is %q", heads, moves, want)
	}
}

func TestP30EagerForExamples(t *testing.T) {
	examples := []struct {
		heads []int
		moves string
	}{
		{[]int{0}, "S"},
		{[]int{0, 1}, "SR"},
		{[]int{2, 0}, "SLS"},
		{[]int{2, 0, 2}, "SLSR"},
		{[]int{0, 1, 2}, "SRR"},
		{[]int{0, 1, 1}, "SRDR"},
		{[]int{2, 3, 0}, "SLSLS"},
		{[]int{3, 3, 0}, "SSLLS"},
		{[]int{3, 1, 0}, "SRDLS"},
		{[]int{0, 3, 1}, "SSLR"},
		{[]int{0, 3, 1, 3, 1}, "SSLRRDDR"},
		{[]int{0, 1, 2, 3, 1}, "SRRRDDDR"},
		{[]int{5, 1, 2, 3, 0}, "SRRRDDDLS"},
		{[]int{2, 4, 2, 0, 6, 4, 8, 6}, "SLSRDLSSLRSLR"},
		{[]int{0, 1, 2, 3, 4, 5, 6, 7}, "SRRRRRRR"},
		{[]int{2, 3, 4, 5, 6, 7, 8, 0}, "SLSLSLSLSLSLSLS"},
		{[]int{5, 5, 5, 5, 0, 5, 5, 5}, "SSSSLLLLSRDRDR"},
	}
	for _, e := range examples {
		if got := mustEager(t, e.heads); got != e.moves {
			t.Errorf("EagerFor(%v) = %q", e.heads, got)
		}
	}
}

func TestP30EagerForOthers(t *testing.T) {
	for name, heads := range notTrees() {
		if moves, ok := impl.EagerFor(heads); ok || moves != "" {
			t.Errorf("%s: EagerFor(%v) = %q, %v", name, heads, moves, ok)
		}
	}
	for _, heads := range notFlat() {
		if moves, ok := impl.EagerFor(heads); ok || moves != "" {
			t.Errorf("EagerFor(%v) = %q, %v, but it is not flat", heads, moves, ok)
		}
	}
}

func TestEagerForLeavesItsArgument(t *testing.T) {
	for _, heads := range append(append(bigTrees(), notFlat()...), []int{0}, []int{0, 3, 1, 3, 1}, []int{2, 3, 1}) {
		argument := roomy(heads)
		impl.EagerFor(argument)
		checkApart(t, nil, argument, heads)
	}
}
