package tests

import (
	"math"
	"slices"
	"testing"

	"loop.example/headtrees/impl"
)

// sampleTrees returns all trees with at most five words, and some of MaxWords words.
func sampleTrees() [][]int {
	return append(smallTrees(5), bigTrees()...)
}

func TestP7YieldOfIsWhatLeadsToAWord(t *testing.T) {
	for _, heads := range sampleTrees() {
		for word := 1; word <= len(heads); word++ {
			var want []int
			for from := 1; from <= len(heads); from++ {
				if leadsTo(heads, from, word) {
					want = append(want, from)
				}
			}
			if got := impl.YieldOf(heads, word); !slices.Equal(got, want) {
				t.Fatalf("YieldOf(%v, %d) = %v, but these lead to it: %v", heads, word, got, want)
			}
		}
	}
}

func TestP7YieldsAreWithinEachOtherOrApart(t *testing.T) {
	for _, heads := range sampleTrees() {
		for word := 1; word <= len(heads); word++ {
			yield := impl.YieldOf(heads, word)
			if !slices.Contains(yield, word) {
				t.Fatalf("YieldOf(%v, %d) = %v", heads, word, yield)
			}
			for other := 1; other <= len(heads); other++ {
				second := impl.YieldOf(heads, other)
				if !isWithin(yield, second) && !isWithin(second, yield) && !isApartFrom(yield, second) {
					t.Fatalf("of %v, the yield of %d is %v, and that of %d is %v", heads, word, yield, other, second)
				}
			}
		}
		if yield := impl.YieldOf(heads, impl.RootOf(heads)); !slices.Equal(yield, numbersUpTo(len(heads))) {
			t.Fatalf("the yield of the root of %v is %v", heads, yield)
		}
	}
}

func TestP7YieldsHaveAsManyWordsAsDepthsAndWords(t *testing.T) {
	for _, heads := range sampleTrees() {
		inYields, inDepths := 0, 0
		for at, depth := range impl.DepthOf(heads) {
			inYields += len(impl.YieldOf(heads, at+1))
			inDepths += depth
		}
		if inYields != inDepths+len(heads) {
			t.Fatalf("all yields of %v have %d words, and all depths are %d", heads, inYields, inDepths)
		}
	}
}

func TestP7YieldOfExamples(t *testing.T) {
	examples := []struct {
		heads []int
		word  int
		yield []int
	}{
		{[]int{0}, 1, []int{1}},
		{[]int{3, 0, 2, 3, 2}, 3, []int{1, 3, 4}},
		{[]int{3, 0, 2, 3, 2}, 2, []int{1, 2, 3, 4, 5}},
		{[]int{3, 0, 2, 3, 2}, 1, []int{1}},
		{[]int{3, 0, 2, 3, 2}, 5, []int{5}},
		{[]int{0, 1, 2, 3, 4, 5, 6, 7}, 5, []int{5, 6, 7, 8}},
		{[]int{2, 3, 4, 5, 6, 7, 8, 0}, 8, []int{1, 2, 3, 4, 5, 6, 7, 8}},
		{[]int{5, 5, 5, 5, 0, 5, 5, 5}, 8, []int{8}},
		{[]int{6, 1, 6, 1, 2, 7, 0, 7}, 1, []int{1, 2, 4, 5}},
	}
	for _, e := range examples {
		if yield := impl.YieldOf(e.heads, e.word); !slices.Equal(yield, e.yield) {
			t.Errorf("YieldOf(%v, %d) = %v", e.heads, e.word, yield)
		}
	}
}

// checkNoRow checks that a function of a tree and a word has no row for heads that are no tree, and for numbers that are no words.
func checkNoRow(t *testing.T, zeroIsWord bool, result func(heads []int, word int) []int) {
	t.Helper()
	for name, heads := range notTrees() {
		for word := -1; word <= len(heads)+1; word++ {
			if row := result(heads, word); len(row) != 0 {
				t.Errorf("%s: for %v and %d it is %v", name, heads, word, row)
			}
		}
	}
	for _, heads := range sampleTrees() {
		for _, word := range notWords(len(heads)) {
			if row := result(heads, word); len(row) != 0 && !(zeroIsWord && word == 0) {
				t.Fatalf("for %v and %d it is %v", heads, word, row)
			}
		}
	}
}

func TestP7YieldOfOthers(t *testing.T) {
	checkNoRow(t, false, impl.YieldOf)
}

// checkNewRow checks that a function of a tree returns new memory, and the same row each time.
func checkNewRow(t *testing.T, heads []int, result func(heads []int) []int) {
	t.Helper()
	argument := roomy(heads)
	first, other := result(argument), result(argument)
	want := slices.Clone(first)
	checkApart(t, first, argument, heads)
	if !slices.Equal(other, want) {
		t.Errorf("for %v, %v shares memory with another result, or is another one", heads, want)
	}
	if again := result(argument); !slices.Equal(again, want) {
		t.Errorf("for %v it is %v, and then %v", heads, want, again)
	}
}

func TestP7YieldOfIsNew(t *testing.T) {
	for _, heads := range bigTrees() {
		for word := range len(heads) + 2 {
			checkNewRow(t, heads, func(heads []int) []int { return impl.YieldOf(heads, word) })
		}
	}
}

func TestP8AYieldIsPutTogetherFromYields(t *testing.T) {
	for _, heads := range sampleTrees() {
		for word := 1; word <= len(heads); word++ {
			together := []int{word}
			for _, below := range impl.DependsOf(heads, word) {
				together = append(together, impl.YieldOf(heads, below)...)
			}
			slices.Sort(together)
			if yield := impl.YieldOf(heads, word); !slices.Equal(together, yield) {
				t.Fatalf("of %v, the yield of %d is %v, but put together it is %v", heads, word, yield, together)
			}
		}
		if depends := impl.DependsOf(heads, 0); !slices.Equal(depends, []int{impl.RootOf(heads)}) {
			t.Fatalf("DependsOf(%v, 0) = %v", heads, depends)
		}
	}
}

func TestP8DependsOfIsWhatHasTheHead(t *testing.T) {
	for _, heads := range sampleTrees() {
		for word := range len(heads) + 1 {
			depends := impl.DependsOf(heads, word)
			if !slices.IsSorted(depends) {
				t.Fatalf("DependsOf(%v, %d) = %v", heads, word, depends)
			}
			for at, head := range heads {
				if slices.Contains(depends, at+1) != (head == word) {
					t.Fatalf("DependsOf(%v, %d) = %v", heads, word, depends)
				}
			}
		}
	}
}

func TestP8DependsOfExamples(t *testing.T) {
	examples := []struct {
		heads   []int
		word    int
		depends []int
	}{
		{[]int{0}, 0, []int{1}},
		{[]int{0}, 1, nil},
		{[]int{3, 0, 2, 3, 2}, 0, []int{2}},
		{[]int{3, 0, 2, 3, 2}, 2, []int{3, 5}},
		{[]int{3, 0, 2, 3, 2}, 3, []int{1, 4}},
		{[]int{3, 0, 2, 3, 2}, 5, nil},
		{[]int{5, 5, 5, 5, 0, 5, 5, 5}, 5, []int{1, 2, 3, 4, 6, 7, 8}},
		{[]int{2, 3, 4, 5, 6, 7, 8, 0}, 0, []int{8}},
	}
	for _, e := range examples {
		if depends := impl.DependsOf(e.heads, e.word); !slices.Equal(depends, e.depends) {
			t.Errorf("DependsOf(%v, %d) = %v", e.heads, e.word, depends)
		}
	}
}

func TestP8DependsOfOthers(t *testing.T) {
	checkNoRow(t, true, impl.DependsOf)
}

func TestP8DependsOfIsNew(t *testing.T) {
	for _, heads := range bigTrees() {
		for word := range len(heads) + 2 {
			checkNewRow(t, heads, func(heads []int) []int { return impl.DependsOf(heads, word) })
		}
	}
}

func TestP9UnderOkIsToBeInTheYield(t *testing.T) {
	for _, heads := range sampleTrees() {
		for a := 1; a <= len(heads); a++ {
			for b := 1; b <= len(heads); b++ {
				got := impl.UnderOk(heads, a, b)
				if got != slices.Contains(impl.YieldOf(heads, b), a) || got != leadsTo(heads, a, b) {
					t.Fatalf("UnderOk(%v, %d, %d) = %v", heads, a, b, got)
				}
			}
		}
	}
}

func TestP9UnderGoesOn(t *testing.T) {
	for _, heads := range sampleTrees() {
		root := impl.RootOf(heads)
		for at, head := range heads {
			word := at + 1
			if !impl.UnderOk(heads, word, word) || !impl.UnderOk(heads, word, root) {
				t.Fatalf("of %v, the word %d is not under itself and the root", heads, word)
			}
			if head != 0 && (!impl.UnderOk(heads, word, head) || impl.UnderOk(heads, head, word)) {
				t.Fatalf("of %v, the word %d is not under its head, or that is under it", heads, word)
			}
		}
	}
}

func TestP9UnderGoesOnFromWordToWord(t *testing.T) {
	for _, heads := range append(smallTrees(4), bigTrees()...) {
		for row := range rows(3, 1, len(heads)) {
			a, b, c := row[0], row[1], row[2]
			if a != b && impl.UnderOk(heads, a, b) && impl.UnderOk(heads, b, a) {
				t.Fatalf("of %v, the words %d and %d are under each other", heads, a, b)
			}
			if impl.UnderOk(heads, a, b) && impl.UnderOk(heads, b, c) && !impl.UnderOk(heads, a, c) {
				t.Fatalf("of %v, %d is under %d, and this under %d, but that is not under it", heads, a, b, c)
			}
		}
	}
}

func TestP9UnderOkExamples(t *testing.T) {
	heads := []int{3, 0, 2, 3, 2}
	examples := map[[2]int]bool{{1, 3}: true, {1, 2}: true, {5, 2}: true, {3, 3}: true, {2, 2}: true, {2, 1}: false, {5, 3}: false, {3, 1}: false, {1, 4}: false}
	for words, want := range examples {
		if got := impl.UnderOk(heads, words[0], words[1]); got != want {
			t.Errorf("UnderOk(%v, %d, %d) = %v", heads, words[0], words[1], got)
		}
	}
	if !impl.UnderOk([]int{0}, 1, 1) {
		t.Error("one word is not under itself")
	}
}

func TestP9UnderOkOfOthers(t *testing.T) {
	for name, heads := range notTrees() {
		for pair := range rows(2, -1, min(len(heads), 9)+1) {
			if impl.UnderOk(heads, pair[0], pair[1]) {
				t.Errorf("%s: UnderOk(%v, %d, %d) holds", name, heads, pair[0], pair[1])
			}
		}
	}
	for _, heads := range sampleTrees() {
		for _, other := range notWords(len(heads)) {
			for _, word := range append(numbersUpTo(len(heads)), other) {
				if impl.UnderOk(heads, word, other) || impl.UnderOk(heads, other, word) {
					t.Fatalf("UnderOk of %v, %d and %d holds", heads, word, other)
				}
			}
		}
	}
}

func TestP10TwoWordsMeetAtOneWord(t *testing.T) {
	for _, heads := range sampleTrees() {
		for pair := range rows(2, 1, len(heads)) {
			a, b := pair[0], pair[1]
			meet := impl.MeetOf(heads, a, b)
			if !impl.UnderOk(heads, a, meet) || !impl.UnderOk(heads, b, meet) || impl.MeetOf(heads, b, a) != meet {
				t.Fatalf("MeetOf(%v, %d, %d) = %d", heads, a, b, meet)
			}
			for word := 1; word <= len(heads); word++ {
				both := impl.UnderOk(heads, a, word) && impl.UnderOk(heads, b, word)
				if both != impl.UnderOk(heads, meet, word) {
					t.Fatalf("MeetOf(%v, %d, %d) = %d, but they are both under %d: %v", heads, a, b, meet, word, both)
				}
			}
		}
	}
}

// firstMeet goes up from a word to the first one to which another one leads, too.
func firstMeet(heads []int, a, b int) int {
	for !leadsTo(heads, b, a) {
		a = heads[a-1]
	}
	return a
}

func TestP10MeetOfIsTheDeepestWord(t *testing.T) {
	for _, heads := range sampleTrees() {
		for pair := range rows(2, 1, len(heads)) {
			if got, want := impl.MeetOf(heads, pair[0], pair[1]), firstMeet(heads, pair[0], pair[1]); got != want {
				t.Fatalf("MeetOf(%v, %d, %d) = %d, but they meet at %d", heads, pair[0], pair[1], got, want)
			}
		}
	}
}

func TestP10MeetOfOneWordTwice(t *testing.T) {
	for _, heads := range sampleTrees() {
		for at, head := range heads {
			if meet := impl.MeetOf(heads, at+1, at+1); meet != at+1 {
				t.Fatalf("MeetOf(%v, %d, %d) = %d", heads, at+1, at+1, meet)
			}
			if head != 0 && impl.MeetOf(heads, at+1, head) != head {
				t.Fatalf("the word %d of %v does not meet its head there", at+1, heads)
			}
		}
	}
}

func TestP10MeetOfExamples(t *testing.T) {
	heads := []int{6, 1, 6, 1, 2, 7, 0, 7}
	for words, want := range map[[2]int]int{{5, 4}: 1, {5, 2}: 2, {5, 3}: 6, {3, 8}: 7, {7, 7}: 7, {5, 5}: 5, {1, 3}: 6} {
		if got := impl.MeetOf(heads, words[0], words[1]); got != want {
			t.Errorf("MeetOf(%v, %d, %d) = %d", heads, words[0], words[1], got)
		}
	}
	if meet := impl.MeetOf([]int{0}, 1, 1); meet != 1 {
		t.Errorf("one word meets itself at %d", meet)
	}
}

func TestP10MeetOfOthers(t *testing.T) {
	for name, heads := range notTrees() {
		for pair := range rows(2, -1, min(len(heads), 9)+1) {
			if meet := impl.MeetOf(heads, pair[0], pair[1]); meet != -1 {
				t.Errorf("%s: MeetOf(%v, %d, %d) = %d", name, heads, pair[0], pair[1], meet)
			}
		}
	}
	for _, heads := range sampleTrees() {
		for _, other := range notWords(len(heads)) {
			for _, word := range append(numbersUpTo(len(heads)), other) {
				if impl.MeetOf(heads, word, other) != -1 || impl.MeetOf(heads, other, word) != -1 {
					t.Fatalf("MeetOf of %v, %d and %d is a word", heads, word, other)
				}
			}
		}
	}
}

func TestP11AllThatDependAreOnOneSide(t *testing.T) {
	for _, heads := range sampleTrees() {
		all := 0
		for word := 1; word <= len(heads); word++ {
			left, right, ok := impl.SidesOf(heads, word)
			if !ok || left+right != len(impl.DependsOf(heads, word)) {
				t.Fatalf("SidesOf(%v, %d) = %d, %d, %v", heads, word, left, right, ok)
			}
			all += left + right
		}
		if all != len(heads)-1 {
			t.Fatalf("of %v, %d words depend on words", heads, all)
		}
	}
}

func TestP11SidesOfIsCountedOneByOne(t *testing.T) {
	for _, heads := range sampleTrees() {
		for word := 1; word <= len(heads); word++ {
			lefts, rights := 0, 0
			for at, head := range heads {
				if head == word && at+1 < word {
					lefts++
				}
				if head == word && at+1 > word {
					rights++
				}
			}
			if left, right, ok := impl.SidesOf(heads, word); left != lefts || right != rights || !ok {
				t.Fatalf("SidesOf(%v, %d) = %d, %d, %v", heads, word, left, right, ok)
			}
		}
	}
}

func TestP11SidesOfExamples(t *testing.T) {
	examples := []struct {
		heads             []int
		word, left, right int
	}{
		{[]int{0}, 1, 0, 0},
		{[]int{3, 0, 2, 3, 2}, 3, 1, 1},
		{[]int{3, 0, 2, 3, 2}, 2, 0, 2},
		{[]int{3, 0, 2, 3, 2}, 1, 0, 0},
		{[]int{5, 5, 5, 5, 0, 5, 5, 5}, 5, 4, 3},
		{[]int{2, 3, 4, 5, 6, 7, 8, 0}, 8, 1, 0},
		{[]int{0, 1, 2, 3, 4, 5, 6, 7}, 1, 0, 1},
	}
	for _, e := range examples {
		if left, right, ok := impl.SidesOf(e.heads, e.word); left != e.left || right != e.right || !ok {
			t.Errorf("SidesOf(%v, %d) = %d, %d, %v", e.heads, e.word, left, right, ok)
		}
	}
}

func checkNoSides(t *testing.T, heads []int, word int) {
	t.Helper()
	if left, right, ok := impl.SidesOf(heads, word); left != -1 || right != -1 || ok {
		t.Errorf("SidesOf(%v, %d) = %d, %d, %v", heads, word, left, right, ok)
	}
}

func TestP11SidesOfOthers(t *testing.T) {
	for _, heads := range notTrees() {
		for word := -1; word <= len(heads)+1; word++ {
			checkNoSides(t, heads, word)
		}
		checkNoSides(t, heads, math.MaxInt)
	}
	for _, heads := range sampleTrees() {
		for _, word := range notWords(len(heads)) {
			checkNoSides(t, heads, word)
		}
	}
}

func TestYieldsLeaveTheirArguments(t *testing.T) {
	for _, heads := range append(bigTrees(), []int{2, 3, 1}, []int{0, 0}) {
		argument := roomy(heads)
		for word := range len(heads) + 2 {
			impl.YieldOf(argument, word)
			impl.DependsOf(argument, word)
			impl.UnderOk(argument, word, 1)
			impl.MeetOf(argument, word, 1)
			impl.SidesOf(argument, word)
		}
		checkApart(t, nil, argument, heads)
	}
}
