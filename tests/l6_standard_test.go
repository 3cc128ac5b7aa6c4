package tests

import (
	"iter"
	"slices"
	"strings"
	"testing"

	"loop.example/headtrees/impl"
)

// stackWays returns all ways to tell a tree with so many words: S for one, and for more those of a first part and of a second one, and then L or R.
func stackWays(words int) []string {
	if words == 1 {
		return []string{"S"}
	}
	var ways []string
	for first := 1; first < words; first++ {
		for _, one := range stackWays(first) {
			for _, other := range stackWays(words - first) {
				ways = append(ways, one+other+"L", one+other+"R")
			}
		}
	}
	return ways
}

// lastPart reads the last part of a text of moves from its end, other than a machine, for words that end with some word: it returns the root of the part, its first word, and how many bytes are ahead of it; false if there is no such part.
func lastPart(heads []int, moves string, last int) (root, first, ahead int, ok bool) {
	if moves == "" || last < 1 {
		return 0, 0, 0, false
	}
	end := len(moves) - 1
	if moves[end] == 'S' {
		heads[last-1] = 0
		return last, last, end, true
	}
	if moves[end] != 'L' && moves[end] != 'R' {
		return 0, 0, 0, false
	}
	upper, middle, ahead, ok := lastPart(heads, moves[:end], last)
	if !ok {
		return 0, 0, 0, false
	}
	below, first, ahead, ok := lastPart(heads, moves[:ahead], middle-1)
	if !ok {
		return 0, 0, 0, false
	}
	if moves[end] == 'L' {
		heads[below-1] = upper
		return upper, first, ahead, true
	}
	heads[upper-1] = below
	return below, first, ahead, true
}

// toldFromTheEnd returns the heads that moves tell for so many words, and true; nil and false if they tell none.
func toldFromTheEnd(words int, moves string) ([]int, bool) {
	heads := make([]int, words)
	_, first, ahead, ok := lastPart(heads, moves, words)
	if !ok || first != 1 || ahead != 0 {
		return nil, false
	}
	return heads, true
}

// deepestPlace returns how many more S than other letters a text has at most up to any place.
func deepestPlace(moves string) int {
	most := 0
	for end := range len(moves) + 1 {
		puts := strings.Count(moves[:end], "S")
		most = max(most, puts-(end-puts))
	}
	return most
}

// movesBelow returns the moves by the rule for all words below a word of a flat tree, put together as the tree is: what depends on it to its left, the word, an L for each of these, and then, one by one, what depends on it to its right, each with an R.
func movesBelow(heads []int, word int) string {
	left, taken, right := "", "", ""
	for at, head := range heads {
		if head != word {
			continue
		}
		if at+1 < word {
			left += movesBelow(heads, at+1)
			taken += "L"
		} else {
			right += movesBelow(heads, at+1) + "R"
		}
	}
	return left + "S" + taken + right
}

// textsOf returns all texts of so many letters.
func textsOf(letters string, length int) []string {
	var texts []string
	for row := range rows(length, 0, len(letters)-1) {
		text := make([]byte, length)
		for at, letter := range row {
			text[at] = letters[letter]
		}
		texts = append(texts, string(text))
	}
	return texts
}

// withAnotherByte returns all texts that become other ones by one byte that is none of the letters, which is put between two bytes or in the place of one.
func withAnotherByte(letters, moves string) iter.Seq[string] {
	return func(yield func(string) bool) {
		for letter := range 256 {
			other := string([]byte{byte(letter)})
			if strings.Contains(letters, other) {
				continue
			}
			for at := range len(moves) + 1 {
				if !yield(moves[:at] + other + moves[at:]) {
					return
				}
				if at < len(moves) && !yield(moves[:at]+other+moves[at+1:]) {
					return
				}
			}
		}
	}
}

// mustRun returns the heads that moves tell, where they tell a tree.
func mustRun(t *testing.T, words int, moves string) []int {
	t.Helper()
	heads, ok := impl.RunStack(words, moves)
	if !ok || len(heads) != words {
		t.Fatalf("RunStack(%d, %q) = %v, %v", words, moves, heads, ok)
	}
	return heads
}

// mustMoves returns the moves for a flat tree.
func mustMoves(t *testing.T, heads []int) string {
	t.Helper()
	moves, ok := impl.MovesFor(heads)
	if !ok {
		t.Fatalf("MovesFor(%v) = %q, %v", heads, moves, ok)
	}
	return moves
}

// checkNoRun checks that moves tell no tree, and that no stack is the deepest one.
func checkNoRun(t *testing.T, words int, moves string) {
	t.Helper()
	if heads, ok := impl.RunStack(words, moves); ok || len(heads) != 0 {
		t.Errorf("RunStack(%d, %.40q) = %v, %v", words, moves, heads, ok)
	}
	if got := impl.DeepestStack(words, moves); got != -1 {
		t.Errorf("DeepestStack(%d, %.40q) = %d", words, moves, got)
	}
}

func TestP26EachWayTellsAFlatTree(t *testing.T) {
	for words := 1; words <= impl.MaxWords; words++ {
		for _, moves := range stackWays(words) {
			heads := mustRun(t, words, moves)
			if !impl.FlatOk(heads) || len(moves) != 2*words-1 {
				t.Fatalf("RunStack(%d, %q) = %v, which is not flat, or the moves are too many", words, moves, heads)
			}
			rule := mustMoves(t, heads)
			if again := mustRun(t, words, rule); !slices.Equal(again, heads) {
				t.Fatalf("RunStack(%d, %q) = %v, but the moves by the rule %q tell %v", words, moves, heads, rule, again)
			}
		}
	}
}

func TestP26RunStackIsToldFromTheEnd(t *testing.T) {
	for words := 1; words <= impl.MaxWords; words++ {
		for _, moves := range stackWays(words) {
			want, ok := toldFromTheEnd(words, moves)
			if got := mustRun(t, words, moves); !ok || !slices.Equal(got, want) {
				t.Fatalf("RunStack(%d, %q) = %v, but from the end it is %v", words, moves, got, want)
			}
		}
	}
}

func TestP26RunStackOfAllTexts(t *testing.T) {
	for length := range 9 {
		for _, moves := range textsOf("SLR", length) {
			for words := 1; words <= 5; words++ {
				want, wanted := toldFromTheEnd(words, moves)
				got, ok := impl.RunStack(words, moves)
				if ok != wanted || !slices.Equal(got, want) {
					t.Fatalf("RunStack(%d, %q) = %v, %v", words, moves, got, ok)
				}
			}
		}
	}
}

func TestP26AllFlatTreesAreTold(t *testing.T) {
	for words := 1; words <= 6; words++ {
		told := map[string]bool{}
		for _, moves := range stackWays(words) {
			told[mustMoves(t, mustRun(t, words, moves))] = true
		}
		if len(told) != impl.CountFlat(words) {
			t.Errorf("of %d words %d flat trees are told", words, len(told))
		}
	}
}

func TestP26RunStackExamples(t *testing.T) {
	examples := []struct {
		moves string
		heads []int
	}{
		{"S", []int{0}},
		{"SSL", []int{2, 0}},
		{"SSR", []int{0, 1}},
		{"SSLSR", []int{2, 0, 2}},
		{"SSSRL", []int{2, 0, 2}},
		{"SSSRR", []int{0, 1, 2}},
		{"SSRSR", []int{0, 1, 1}},
		{"SSLSL", []int{2, 3, 0}},
		{"SSSLL", []int{3, 3, 0}},
		{"SSSLR", []int{0, 3, 1}},
		{"SSRSL", []int{3, 1, 0}},
		{"SSSLSRRSR", []int{0, 3, 1, 3, 1}},
		{"SSSSSSSSRRRRRRR", []int{0, 1, 2, 3, 4, 5, 6, 7}},
		{"SSSSSSSSLLLLLLL", []int{8, 8, 8, 8, 8, 8, 8, 0}},
	}
	for _, e := range examples {
		if got := mustRun(t, len(e.heads), e.moves); !slices.Equal(got, e.heads) {
			t.Errorf("RunStack(%d, %q) = %v", len(e.heads), e.moves, got)
		}
	}
}

func TestP26RunStackOfOneWord(t *testing.T) {
	if got := mustRun(t, 1, "S"); got[0] != 0 {
		t.Errorf("RunStack(1, \"S\") = %v", got)
	}
	for _, moves := range []string{"", "L", "R", "D", "s", "SS", "SL", "SR", "LS", "RS", "SSL", "SSR", "SLS", "S ", " S", "S\n", "S\x00"} {
		checkNoRun(t, 1, moves)
	}
}

func TestP26RunStackOfMovesThatCannotBeDone(t *testing.T) {
	examples := map[string]string{
		"L ahead of all":             "LSSSRR",
		"R ahead of all":             "RSSSRR",
		"L on one word":              "SLSSRR",
		"R on one word":              "SRSSRR",
		"L on one word instead of S": "SLS",
		"L where one word was left":  "SSRLSR",
		"R where one word was left":  "SSLRSR",
		"S past the last word":       "SSSSRRR",
		"S behind the end":           "SSLSRS",
		"L behind the end":           "SSLSRL",
		"R behind the end":           "SSLSRR",
		"S and R behind the end":     "SSLSRSR",
	}
	for name, moves := range examples {
		t.Run(name, func(t *testing.T) { checkNoRun(t, 3, moves) })
	}
}

func TestP26RunStackOfMovesThatEndTooEarlyOrTooLate(t *testing.T) {
	for words := 1; words <= 5; words++ {
		for _, moves := range stackWays(words) {
			for end := range len(moves) {
				checkNoRun(t, words, moves[:end])
			}
			for _, behind := range []string{"S", "L", "R", "SR", "SL", moves} {
				checkNoRun(t, words, moves+behind)
			}
		}
	}
	checkNoRun(t, 3, strings.Repeat("S", 100_000))
	checkNoRun(t, 3, "SSLSR"+strings.Repeat("R", 100_000))
}

func TestP26RunStackOfOtherBytes(t *testing.T) {
	for moves := range withAnotherByte("SLR", "SSLSR") {
		checkNoRun(t, 3, moves)
	}
	for _, moves := range []string{"sslsr", "SSLŚR", "SSLSR\r\n", "ＳＳＬＳＲ", "\xffSSLSR", "SSDSR"} {
		checkNoRun(t, 3, moves)
	}
}

func TestP26RunStackOfOtherNumbersOfWords(t *testing.T) {
	for _, words := range notSentences() {
		for _, moves := range []string{"", "S", "SSR", "SSLSR", "SSSSSSSSSRRRRRRRR", "SSSSSSSSSSRRRRRRRRR", "x"} {
			checkNoRun(t, words, moves)
		}
	}
	for words := 1; words <= impl.MaxWords; words++ {
		for other := 1; other <= impl.MaxWords+1; other++ {
			if other != words {
				checkNoRun(t, words, strings.Repeat("S", other)+strings.Repeat("L", other-1))
			}
		}
	}
}

// checkNewRun checks that the heads that a machine tells are new memory, so that a change of them changes no others.
func checkNewRun(t *testing.T, run func(int, string) ([]int, bool), moves string, want []int) {
	t.Helper()
	first, _ := run(len(want), moves)
	second, _ := run(len(want), moves)
	whole := first[:cap(first)]
	for at := range whole {
		whole[at] = 99
	}
	if again, _ := run(len(want), moves); !slices.Equal(second, want) || !slices.Equal(again, want) {
		t.Errorf("%q told %v, and after a change of another one %v and %v", moves, want, second, again)
	}
}

func TestP26RunStackIsNew(t *testing.T) {
	for _, moves := range []string{"S", "SSL", "SSLSR", "SSSLSRRSR", "SSSSSSSSRRRRRRR"} {
		want, _ := toldFromTheEnd(len(moves)/2+1, moves)
		checkNewRun(t, impl.RunStack, moves, want)
	}
}

func TestP27EachFlatTreeIsToldByTheRule(t *testing.T) {
	for _, heads := range append(smallTrees(6), bigTrees()...) {
		moves, ok := impl.MovesFor(heads)
		if ok != impl.FlatOk(heads) || ok != hasRows(heads) {
			t.Fatalf("MovesFor(%v) = %q, %v, but that it is flat is %v", heads, moves, ok, hasRows(heads))
		}
		if !ok {
			if moves != "" {
				t.Fatalf("MovesFor(%v) = %q, but it is not flat", heads, moves)
			}
			continue
		}
		if told := mustRun(t, len(heads), moves); !slices.Equal(told, heads) {
			t.Fatalf("MovesFor(%v) = %q, which tell %v", heads, moves, told)
		}
		left, right := 0, 0
		for at, head := range heads {
			if head > at+1 {
				left++
			}
			if head != 0 && head < at+1 {
				right++
			}
		}
		if strings.Count(moves, "S") != len(heads) || strings.Count(moves, "L") != left || strings.Count(moves, "R") != right {
			t.Fatalf("MovesFor(%v) = %q, but %d words are to the left of their heads, and %d to the right", heads, moves, left, right)
		}
	}
}

func TestP27MovesAreThoseOfTheRule(t *testing.T) {
	for words := 1; words <= impl.MaxWords; words++ {
		for _, way := range stackWays(words) {
			heads := mustRun(t, words, way)
			if got, want := mustMoves(t, heads), movesBelow(heads, impl.RootOf(heads)); got != want {
				t.Fatalf("MovesFor(%v) = %q, but put together they are %q", heads, got, want)
			}
		}
	}
}

func TestP27MovesForExamples(t *testing.T) {
	examples := []struct {
		heads []int
		moves string
	}{
		{[]int{0}, "S"},
		{[]int{0, 1}, "SSR"},
		{[]int{2, 0}, "SSL"},
		{[]int{2, 0, 2}, "SSLSR"},
		{[]int{0, 1, 2}, "SSSRR"},
		{[]int{0, 1, 1}, "SSRSR"},
		{[]int{2, 3, 0}, "SSLSL"},
		{[]int{3, 3, 0}, "SSSLL"},
		{[]int{3, 1, 0}, "SSRSL"},
		{[]int{0, 3, 1}, "SSSLR"},
		{[]int{0, 3, 1, 3, 1}, "SSSLSRRSR"},
		{[]int{2, 4, 2, 0, 6, 4, 8, 6}, "SSLSRSLSSLSSLRR"},
	}
	for _, e := range examples {
		if got := mustMoves(t, e.heads); got != e.moves {
			t.Errorf("MovesFor(%v) = %q", e.heads, got)
		}
	}
}

func TestP27MovesForOthers(t *testing.T) {
	for name, heads := range notTrees() {
		if moves, ok := impl.MovesFor(heads); ok || moves != "" {
			t.Errorf("%s: MovesFor(%v) = %q, %v", name, heads, moves, ok)
		}
	}
	for _, heads := range notFlat() {
		if moves, ok := impl.MovesFor(heads); ok || moves != "" {
			t.Errorf("MovesFor(%v) = %q, %v, but it is not flat", heads, moves, ok)
		}
	}
}

func TestP28StacksHaveNoMoreThanAllWords(t *testing.T) {
	for words := 1; words <= impl.MaxWords; words++ {
		for _, moves := range stackWays(words) {
			deepest := impl.DeepestStack(words, moves)
			if deepest > words || deepest < min(words, 2) {
				t.Fatalf("DeepestStack(%d, %q) = %d", words, moves, deepest)
			}
			if (deepest == words) != strings.HasPrefix(moves, strings.Repeat("S", words)) {
				t.Fatalf("DeepestStack(%d, %q) = %d, but that all S come first is not just as true", words, moves, deepest)
			}
			if want := deepestPlace(moves); deepest != want {
				t.Fatalf("DeepestStack(%d, %q) = %d, but letter by letter it is %d", words, moves, deepest, want)
			}
		}
	}
}

func TestP28DeepestStackOfAllTexts(t *testing.T) {
	for length := range 8 {
		for _, moves := range textsOf("SLRx", length) {
			for words := 1; words <= 4; words++ {
				want := -1
				if _, ok := toldFromTheEnd(words, moves); ok {
					want = deepestPlace(moves)
				}
				if got := impl.DeepestStack(words, moves); got != want {
					t.Fatalf("DeepestStack(%d, %q) = %d", words, moves, got)
				}
			}
		}
	}
}

func TestP28DeepestStackExamples(t *testing.T) {
	examples := []struct {
		words   int
		moves   string
		deepest int
	}{
		{1, "S", 1},
		{2, "SSL", 2},
		{2, "SSR", 2},
		{3, "SSLSR", 2},
		{3, "SSSRR", 3},
		{5, "SSSLSRRSR", 3},
		{8, "SSRSRSRSRSRSRSR", 2},
		{8, "SSSSSSSSLRLRLRL", 8},
		{8, "SSSLLSSSSLLLLSR", 5},
		{3, "", -1},
		{3, "S", -1},
		{3, "SSS", -1},
		{3, "SSSS", -1},
		{3, "SSLSRS", -1},
		{3, "SSLSx", -1},
		{0, "", -1},
		{0, "S", -1},
		{-1, "S", -1},
		{9, "SSSSSSSSSRRRRRRRR", -1},
	}
	for _, e := range examples {
		if got := impl.DeepestStack(e.words, e.moves); got != e.deepest {
			t.Errorf("DeepestStack(%d, %q) = %d", e.words, e.moves, got)
		}
	}
}

func TestMovesForLeavesItsArgument(t *testing.T) {
	for _, heads := range append(bigTrees(), []int{0}, []int{0, 3, 1, 3, 1}, []int{2, 3, 1}, []int{3, 0, 2}) {
		argument := roomy(heads)
		impl.MovesFor(argument)
		checkApart(t, nil, argument, heads)
	}
}
