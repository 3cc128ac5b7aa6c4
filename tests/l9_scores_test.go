package tests

import (
	"math"
	"slices"
	"testing"

	"loop.example/headtrees/impl"
)

// evenScores returns the same score for so many words and all their heads.
func evenScores(words, score int) [][]int {
	scores := make([][]int, words)
	for at := range scores {
		scores[at] = slices.Repeat([]int{score}, words+1)
	}
	return scores
}

// scoresFor returns one score for each word and the head that it has, and another one for all others.
func scoresFor(heads []int, has, others int) [][]int {
	scores := evenScores(len(heads), others)
	for at, head := range heads {
		scores[at][head] = has
	}
	return scores
}

// cloneScores returns a copy of scores that shares no memory with them.
func cloneScores(scores [][]int) [][]int {
	clone := make([][]int, len(scores))
	for at, row := range scores {
		clone[at] = slices.Clone(row)
	}
	return clone
}

// withScore returns scores of which that of one word, from 1 on, for a head is another one.
func withScore(scores [][]int, word, head, score int) [][]int {
	changed := cloneScores(scores)
	changed[word-1][head] = score
	return changed
}

// cutScores returns the numbers of a row as the scores of so many words.
func cutScores(row []int, words int) [][]int {
	return slices.Collect(slices.Chunk(row, words+1))
}

// mixedScores returns so many scores of so many words, from 0 up to a greatest one, which follow no plain rule but are always the same.
func mixedScores(words, greatest, many int) [][][]int {
	var all [][][]int
	state := uint32(words*100 + greatest)
	for range many {
		scores := evenScores(words, 0)
		for _, row := range scores {
			for head := range row {
				state = state*1664525 + 1013904223
				row[head] = int(state>>16) % (greatest + 1)
			}
		}
		all = append(all, scores)
	}
	return all
}

// temptingScores returns scores of so many words that are best for heads that are no tree: for each word itself, for many roots, and for rings.
func temptingScores(words int) [][][]int {
	own, roots, next, before := evenScores(words, 1), evenScores(words, 1), evenScores(words, 1), evenScores(words, 1)
	for at := range words {
		own[at][at+1] = impl.MaxScore
		roots[at][0] = impl.MaxScore
		next[at][(at+1)%words+1] = impl.MaxScore
		before[at][(at+words-1)%words+1] = impl.MaxScore
	}
	return [][][]int{own, roots, next, before}
}

// sampleScores returns scores of so many words: equal ones, those that are best for no tree, those that are best or worst for one of all trees, and mixed ones, many of them equal or few.
func sampleScores(words int) [][][]int {
	all := temptingScores(words)
	for _, score := range []int{0, 1, impl.MaxScore} {
		all = append(all, evenScores(words, score))
	}
	for _, heads := range allTrees(words) {
		all = append(all, scoresFor(heads, 1, 0), scoresFor(heads, 0, impl.MaxScore))
	}
	for _, greatest := range []int{1, 2, 5, impl.MaxScore} {
		all = append(all, mixedScores(words, greatest, 150)...)
	}
	return all
}

// smallScores returns all scores of one word, those of two words that are 0, 1 or MaxScore, and those of three words that are 0 or 1.
func smallScores() [][][]int {
	var all [][][]int
	for row := range rows(2, 0, impl.MaxScore) {
		all = append(all, cutScores(row, 1))
	}
	for row := range rows(6, 0, 2) {
		for at, number := range row {
			row[at] = []int{0, 1, impl.MaxScore}[number]
		}
		all = append(all, cutScores(row, 2))
	}
	for row := range rows(12, 0, 1) {
		all = append(all, cutScores(row, 3))
	}
	return all
}

// eachScores goes over all samples with what their words have: all trees, and of these the flat ones.
func eachScores(check func(scores, trees, flat [][]int)) {
	for words := 1; words <= impl.MaxScored; words++ {
		trees, flat := allTrees(words), flatTrees(words)
		for _, scores := range sampleScores(words) {
			check(scores, trees, flat)
		}
		for _, scores := range smallScores() {
			if len(scores) == words {
				check(scores, trees, flat)
			}
		}
	}
}

// notScores returns what are no scores, at least one for each reason that the document names.
func notScores() map[string][][]int {
	two := [][]int{{1, 0, 5}, {2, 4, 0}}
	return map[string][][]int{
		"nil":                       nil,
		"no rows":                   {},
		"a row that is nil":         {nil},
		"a row without scores":      {{}},
		"a row with one score":      {{0}},
		"one word, three heads":     {{0, 0, 0}},
		"six rows":                  evenScores(6, 0),
		"nine rows":                 evenScores(9, 0),
		"many rows":                 evenScores(100, 0),
		"many rows that are nil":    make([][]int, 1000),
		"six rows for five words":   slices.Repeat([][]int{make([]int, 6)}, 6),
		"three rows for two words":  slices.Repeat([][]int{make([]int, 3)}, 3),
		"two rows for three words":  slices.Repeat([][]int{make([]int, 4)}, 2),
		"no score for the head 0":   {{0, 0}, {0, 0}},
		"the first row is nil":      {nil, {2, 4, 0}},
		"the last row is nil":       {{1, 0, 5}, nil},
		"the first row is short":    {{1, 0}, {2, 4, 0}},
		"the last row is short":     {{1, 0, 5}, {2, 4}},
		"the first row is long":     {{1, 0, 5, 0}, {2, 4, 0}},
		"the last row is long":      {{1, 0, 5}, {2, 4, 0, 0}},
		"one short and one long":    {{1, 0}, {2, 4, 0, 0}},
		"one word below 0":          {{-1, 0}},
		"one word above MaxScore":   {{21, 0}},
		"on itself above MaxScore":  {{0, 21}},
		"on itself below 0":         withScore(two, 2, 2, -1),
		"below 0":                   withScore(two, 1, 2, -1),
		"above MaxScore":            withScore(two, 2, 0, 21),
		"the least number":          withScore(two, 2, 1, math.MinInt),
		"the greatest number":       withScore(two, 1, 0, math.MaxInt),
		"the last one is below 0":   withScore(evenScores(5, 20), 5, 5, -1),
		"the last one is too great": withScore(evenScores(5, 20), 5, 5, 21),
	}
}

func TestMaxScoredAndMaxScore(t *testing.T) {
	if impl.MaxScored != 5 || impl.MaxScore != 20 {
		t.Errorf("MaxScored is %d, and MaxScore is %d", impl.MaxScored, impl.MaxScore)
	}
}

func TestP36OneWordMayHaveScores(t *testing.T) {
	if !impl.ScoresOk([][]int{{0, 0}}) || impl.ScoresOk(nil) || impl.ScoresOk([][]int{}) {
		t.Error("ScoresOk of two scores 0, or without rows")
	}
	for row := range rows(2, -2, 22) {
		want := slices.Min(row) >= 0 && slices.Max(row) <= 20
		if impl.ScoresOk([][]int{row}) != want {
			t.Errorf("ScoresOk(%v) is not %v", [][]int{row}, want)
		}
	}
}

func TestP36ScoresOkOfAllSamples(t *testing.T) {
	eachScores(func(scores, _, _ [][]int) {
		if !impl.ScoresOk(scores) {
			t.Fatalf("ScoresOk(%v) does not hold", scores)
		}
	})
}

// checkScoreAt checks that a word may have some scores for a head, and others not.
func checkScoreAt(t *testing.T, scores [][]int, word, head int) {
	t.Helper()
	for _, score := range []int{0, 1, 19, 20} {
		if changed := withScore(scores, word, head, score); !impl.ScoresOk(changed) {
			t.Errorf("ScoresOk(%v) does not hold", changed)
		}
	}
	for _, score := range []int{-1, -2, -20, math.MinInt, 21, 22, 64, 1000, math.MaxInt} {
		if changed := withScore(scores, word, head, score); impl.ScoresOk(changed) {
			t.Errorf("ScoresOk(%v) holds", changed)
		}
	}
}

func TestP36ScoresOkOfEachScore(t *testing.T) {
	for words := 1; words <= impl.MaxScored; words++ {
		for word := 1; word <= words; word++ {
			for head := range words + 1 {
				checkScoreAt(t, evenScores(words, 0), word, head)
				checkScoreAt(t, evenScores(words, 20), word, head)
			}
		}
	}
}

func TestP36ScoresOkOfEachLength(t *testing.T) {
	for words := 1; words <= impl.MaxScored; words++ {
		for word := range words {
			for length := range words + 4 {
				scores := evenScores(words, 3)
				scores[word] = slices.Repeat([]int{3}, length)
				if impl.ScoresOk(scores) != (length == words+1) {
					t.Errorf("ScoresOk(%v) is not %v", scores, length == words+1)
				}
			}
		}
	}
}

func TestP36ScoresOkOfOthers(t *testing.T) {
	for name, scores := range notScores() {
		if impl.ScoresOk(scores) {
			t.Errorf("%s: ScoresOk(%v) holds", name, scores)
		}
	}
}

// scoreOneByOne returns the sum of the scores of the heads of all words, head by head.
func scoreOneByOne(scores [][]int, heads []int) int {
	sum := 0
	for head := range len(heads) + 1 {
		for at := range heads {
			if heads[at] == head {
				sum += scores[at][head]
			}
		}
	}
	return sum
}

// bestOneByOne returns the greatest score of some trees.
func bestOneByOne(scores, trees [][]int) int {
	best := -1
	for _, heads := range trees {
		best = max(best, scoreOneByOne(scores, heads))
	}
	return best
}

func TestP37NoTreeIsBetterThanTheBestOne(t *testing.T) {
	eachScores(func(scores, trees, flat [][]int) {
		best, bestFlat := impl.BestScore(scores), impl.BestFlat(scores)
		for _, heads := range trees {
			score := impl.ScoreOf(scores, heads)
			if score < 0 || score > best || score > impl.MaxScore*len(heads) {
				t.Fatalf("ScoreOf(%v, %v) = %d, but the best one is %d", scores, heads, score, best)
			}
		}
		for _, heads := range flat {
			if score := impl.ScoreOf(scores, heads); !impl.FlatOk(heads) || score > bestFlat {
				t.Fatalf("ScoreOf(%v, %v) = %d, but the best flat one is %d", scores, heads, score, bestFlat)
			}
		}
	})
}

func TestP37ScoreOfIsAddedOneByOne(t *testing.T) {
	eachScores(func(scores, trees, _ [][]int) {
		for _, heads := range trees {
			if got, want := impl.ScoreOf(scores, heads), scoreOneByOne(scores, heads); got != want {
				t.Fatalf("ScoreOf(%v, %v) = %d, but one by one it is %d", scores, heads, got, want)
			}
		}
	})
}

func TestP37ScoreOfExamples(t *testing.T) {
	two := [][]int{{1, 0, 5}, {2, 4, 0}}
	three := [][]int{{1, 2, 3, 4}, {5, 6, 7, 8}, {9, 10, 11, 12}}
	examples := []struct {
		scores [][]int
		heads  []int
		score  int
	}{
		{[][]int{{0, 0}}, []int{0}, 0},
		{[][]int{{20, 0}}, []int{0}, 20},
		{[][]int{{0, 20}}, []int{0}, 0},
		{two, []int{2, 0}, 7},
		{two, []int{0, 1}, 5},
		{three, []int{0, 1, 1}, 17},
		{three, []int{3, 0, 2}, 20},
		{three, []int{2, 3, 0}, 20},
		{evenScores(5, 20), []int{0, 1, 1, 2, 3}, 100},
		{evenScores(5, 0), []int{0, 1, 1, 2, 3}, 0},
	}
	for _, e := range examples {
		if score := impl.ScoreOf(e.scores, e.heads); score != e.score {
			t.Errorf("ScoreOf(%v, %v) = %d", e.scores, e.heads, score)
		}
	}
}

func TestP37ScoreOfOthers(t *testing.T) {
	for name, scores := range notScores() {
		for _, heads := range append(sampleTrees(), []int{}, nil) {
			if score := impl.ScoreOf(scores, heads); score != -1 {
				t.Fatalf("%s: ScoreOf(%v, %v) = %d", name, scores, heads, score)
			}
		}
	}
	for name, heads := range notTrees() {
		for words := 1; words <= impl.MaxScored; words++ {
			if score := impl.ScoreOf(evenScores(words, 1), heads); score != -1 {
				t.Errorf("%s: ScoreOf of %d words and %v = %d", name, words, heads, score)
			}
		}
	}
}

func TestP37ScoreOfTreesOfAnotherNumberOfWords(t *testing.T) {
	for words := 1; words <= impl.MaxScored; words++ {
		scores := evenScores(words, 1)
		for _, heads := range sampleTrees() {
			score := impl.ScoreOf(scores, heads)
			if len(heads) == words && score != words || len(heads) != words && score != -1 {
				t.Fatalf("ScoreOf(%v, %v) = %d", scores, heads, score)
			}
		}
	}
}

func TestP38TheBestOfAllIsAtLeastTheBestFlatOne(t *testing.T) {
	eachScores(func(scores, _, _ [][]int) {
		best, flat := impl.BestScore(scores), impl.BestFlat(scores)
		if best < flat || flat < 0 || len(scores) <= 2 && best != flat {
			t.Fatalf("BestScore(%v) = %d, and BestFlat is %d", scores, best, flat)
		}
	})
}

func TestP38BestScoreIsFoundOneByOne(t *testing.T) {
	eachScores(func(scores, trees, _ [][]int) {
		if got, want := impl.BestScore(scores), bestOneByOne(scores, trees); got != want {
			t.Fatalf("BestScore(%v) = %d, but one by one it is %d", scores, got, want)
		}
	})
}

// bestExample is scores with the best score of all trees, and of all flat ones.
type bestExample struct {
	scores [][]int
	best   int
	flat   int
}

// bestExamples returns scores of one word and more, equal ones, those that would be better for heads that are no tree, and those that are best for a tree that is not flat, worked out by hand.
func bestExamples() []bestExample {
	return []bestExample{
		{[][]int{{0, 0}}, 0, 0},
		{[][]int{{7, 0}}, 7, 7},
		{[][]int{{7, 20}}, 7, 7},
		{[][]int{{20, 20}}, 20, 20},
		{[][]int{{1, 0, 5}, {2, 4, 0}}, 7, 7},
		{[][]int{{20, 0, 0}, {20, 0, 0}}, 20, 20},
		{[][]int{{0, 0, 20}, {0, 20, 0}}, 20, 20},
		{[][]int{{3, 20, 4}, {3, 4, 20}}, 7, 7},
		{evenScores(2, 20), 40, 40},
		{[][]int{{0, 0, 0, 20}, {20, 0, 0, 0}, {0, 0, 20, 0}}, 60, 40},
		{[][]int{{0, 0, 20, 0}, {20, 0, 0, 0}, {20, 0, 0, 0}}, 40, 40},
		{[][]int{{0, 0, 0, 9, 0}, {0, 0, 0, 0, 9}, {9, 0, 0, 0, 0}, {0, 0, 0, 9, 0}}, 36, 27},
		{scoresFor([]int{0, 1, 1, 2, 3}, 1, 0), 5, 4},
		{scoresFor([]int{2, 3, 4, 5, 0}, 20, 0), 100, 100},
		{scoresFor([]int{2, 0, 4, 2, 4}, 20, 19), 100, 100},
		{scoresFor([]int{2, 3, 4, 5, 1}, 20, 0), 80, 80},
		{evenScores(5, 0), 0, 0},
		{evenScores(5, 1), 5, 5},
		{evenScores(5, 20), 100, 100},
	}
}

func TestP38BestScoreExamples(t *testing.T) {
	for _, e := range bestExamples() {
		if best := impl.BestScore(e.scores); best != e.best {
			t.Errorf("BestScore(%v) = %d", e.scores, best)
		}
	}
}

func TestP38BestScoreOfEqualScores(t *testing.T) {
	for words := 1; words <= impl.MaxScored; words++ {
		for score := range impl.MaxScore + 1 {
			scores := evenScores(words, score)
			if best, flat := impl.BestScore(scores), impl.BestFlat(scores); best != words*score || flat != best {
				t.Errorf("BestScore(%v) = %d, and BestFlat is %d", scores, best, flat)
			}
		}
	}
}

func TestP38BestScoreOfOthers(t *testing.T) {
	for name, scores := range notScores() {
		if best := impl.BestScore(scores); best != -1 {
			t.Errorf("%s: BestScore(%v) = %d", name, scores, best)
		}
	}
}

func TestP39TheBestFlatTreeIsPutTogetherFromBestParts(t *testing.T) {
	for words := 1; words <= impl.MaxScored; words++ {
		var told [][]int
		for at := range impl.CountFlat(words) {
			told = append(told, mustFlatAt(t, words, at))
		}
		for _, scores := range sampleScores(words) {
			want := -1
			for _, heads := range told {
				want = max(want, impl.ScoreOf(scores, heads))
			}
			if best := impl.BestFlat(scores); best != want {
				t.Fatalf("BestFlat(%v) = %d, but of all flat trees by their numbers it is %d", scores, best, want)
			}
		}
	}
}

func TestP39BestFlatIsFoundOneByOne(t *testing.T) {
	eachScores(func(scores, _, flat [][]int) {
		if got, want := impl.BestFlat(scores), bestOneByOne(scores, flat); got != want {
			t.Fatalf("BestFlat(%v) = %d, but one by one it is %d", scores, got, want)
		}
	})
}

func TestP39JustFlatTreesHaveTheBestScore(t *testing.T) {
	for words := 1; words <= impl.MaxScored; words++ {
		for _, heads := range allTrees(words) {
			scores := scoresFor(heads, impl.MaxScore, impl.MaxScore-1)
			if best := impl.BestScore(scores); best != words*impl.MaxScore {
				t.Fatalf("BestScore(%v) = %d, but there is %v", scores, best, heads)
			}
			if flat := impl.BestFlat(scores); (flat == words*impl.MaxScore) != hasRows(heads) {
				t.Fatalf("BestFlat(%v) = %d, but that %v is flat is %v", scores, flat, heads, hasRows(heads))
			}
		}
	}
}

func TestP39BestFlatExamples(t *testing.T) {
	for _, e := range bestExamples() {
		if best := impl.BestFlat(e.scores); best != e.flat {
			t.Errorf("BestFlat(%v) = %d", e.scores, best)
		}
	}
}

func TestP39BestFlatOfOthers(t *testing.T) {
	for name, scores := range notScores() {
		if best := impl.BestFlat(scores); best != -1 {
			t.Errorf("%s: BestFlat(%v) = %d", name, scores, best)
		}
	}
}

// raisedOneByOne returns scores of which all of a word, from 1 on, are one more.
func raisedOneByOne(scores [][]int, word int) [][]int {
	raised := cloneScores(scores)
	for head, score := range scores[word-1] {
		raised[word-1][head] = score + 1
	}
	return raised
}

// checkNotRaised checks that scores cannot be raised for a word.
func checkNotRaised(t *testing.T, scores [][]int, word int) {
	t.Helper()
	if raised, ok := impl.RaisedBy(scores, word); ok || len(raised) != 0 {
		t.Fatalf("RaisedBy(%v, %d) = %v, %v", scores, word, raised, ok)
	}
}

// checkRaised checks what is promised of scores of which those of a word are raised.
func checkRaised(t *testing.T, scores [][]int, word int) {
	t.Helper()
	raised, ok := impl.RaisedBy(scores, word)
	if want := raisedOneByOne(scores, word); !ok || !equalRows(raised, want) {
		t.Fatalf("RaisedBy(%v, %d) = %v, %v", scores, word, raised, ok)
	}
	if best, after := impl.BestScore(scores), impl.BestScore(raised); after != best+1 {
		t.Fatalf("BestScore(%v) = %d, and raised for %d it is %d", scores, best, word, after)
	}
	if best, after := impl.BestFlat(scores), impl.BestFlat(raised); after != best+1 {
		t.Fatalf("BestFlat(%v) = %d, and raised for %d it is %d", scores, best, word, after)
	}
}

func TestP40RaisedByOneTheBestIsRaisedByOne(t *testing.T) {
	eachScores(func(scores, _, _ [][]int) {
		for at, row := range scores {
			if slices.Contains(row, impl.MaxScore) {
				checkNotRaised(t, scores, at+1)
			} else {
				checkRaised(t, scores, at+1)
			}
		}
	})
}

func TestP40RaisedByExamples(t *testing.T) {
	examples := []struct {
		scores [][]int
		word   int
		raised [][]int
	}{
		{[][]int{{0, 0}}, 1, [][]int{{1, 1}}},
		{[][]int{{19, 7}}, 1, [][]int{{20, 8}}},
		{[][]int{{1, 0, 5}, {2, 4, 0}}, 1, [][]int{{2, 1, 6}, {2, 4, 0}}},
		{[][]int{{1, 0, 5}, {2, 4, 0}}, 2, [][]int{{1, 0, 5}, {3, 5, 1}}},
		{[][]int{{20, 20, 20}, {2, 19, 0}}, 2, [][]int{{20, 20, 20}, {3, 20, 1}}},
	}
	for _, e := range examples {
		if raised, ok := impl.RaisedBy(e.scores, e.word); !ok || !equalRows(raised, e.raised) {
			t.Errorf("RaisedBy(%v, %d) = %v, %v", e.scores, e.word, raised, ok)
		}
	}
}

func TestP40RaisedByOfMaxScore(t *testing.T) {
	for words := 1; words <= impl.MaxScored; words++ {
		for word := 1; word <= words; word++ {
			for head := range words + 1 {
				scores := withScore(evenScores(words, 2), word, head, impl.MaxScore)
				for other := 1; other <= words; other++ {
					if other == word {
						checkNotRaised(t, scores, other)
					} else {
						checkRaised(t, scores, other)
					}
				}
				checkRaised(t, withScore(scores, word, head, impl.MaxScore-1), word)
			}
		}
	}
}

func TestP40RaisedUpToMaxScore(t *testing.T) {
	for words := 1; words <= impl.MaxScored; words++ {
		scores := evenScores(words, 0)
		for word := 1; word <= words; word++ {
			for range impl.MaxScore {
				checkRaised(t, scores, word)
				scores, _ = impl.RaisedBy(scores, word)
			}
			checkNotRaised(t, scores, word)
		}
		if !equalRows(scores, evenScores(words, impl.MaxScore)) {
			t.Errorf("raised up to MaxScore the scores of %d words are %v", words, scores)
		}
	}
}

func TestP40RaisedByOfOthers(t *testing.T) {
	for name, scores := range notScores() {
		for _, word := range append(notWords(len(scores)), numbersUpTo(len(scores))...) {
			if raised, ok := impl.RaisedBy(scores, word); ok || len(raised) != 0 {
				t.Errorf("%s: RaisedBy(%v, %d) = %v, %v", name, scores, word, raised, ok)
			}
		}
	}
	for words := 1; words <= impl.MaxScored; words++ {
		for _, word := range notWords(words) {
			checkNotRaised(t, evenScores(words, 1), word)
		}
	}
}

// roomyScores returns a copy of scores, in which they and each row have spare capacity that is filled, so that writing to it shows.
func roomyScores(scores [][]int) [][]int {
	room := make([][]int, 0, len(scores)+2)
	for _, row := range scores {
		room = append(room, roomy(row))
	}
	return append(room, roomy(nil), roomy(nil))[:len(scores)]
}

// checkScoresStay checks that scores made by roomyScores, and their spare capacity, are as they were.
func checkScoresStay(t *testing.T, argument, before [][]int) {
	t.Helper()
	if !equalRows(argument, before) {
		t.Fatalf("scores %v became %v", before, argument)
	}
	for _, row := range argument[:cap(argument)] {
		checkApart(t, nil, row, slices.Clone(row))
	}
	for _, row := range argument[len(argument):cap(argument)] {
		if len(row) != 0 || cap(row) == 0 {
			t.Fatalf("behind scores %v there is %v", before, row)
		}
	}
}

// wipe overwrites all rows, with their spare capacity, and then what holds them.
func wipe(all [][]int) {
	for _, row := range all {
		for at := range row[:cap(row)] {
			row[:cap(row)][at] = 99
		}
	}
	clear(all[:cap(all)])
}

func TestP40RaisedByIsNew(t *testing.T) {
	for _, scores := range [][][]int{{{0, 0}}, {{1, 0, 5}, {2, 4, 0}}, evenScores(5, 7)} {
		for word := 1; word <= len(scores); word++ {
			argument, want := roomyScores(scores), raisedOneByOne(scores, word)
			result, _ := impl.RaisedBy(argument, word)
			other, _ := impl.RaisedBy(argument, word)
			for at := range result {
				wipe(result[at : at+1 : at+1])
				if !equalRows(result[at+1:], want[at+1:]) {
					t.Fatalf("row %d of RaisedBy(%v, %d) shares memory with one behind it", at, scores, word)
				}
			}
			wipe(result)
			checkScoresStay(t, argument, scores)
			if !equalRows(other, want) {
				t.Fatalf("RaisedBy(%v, %d) = %v, or it shares memory with another result", scores, word, other)
			}
			if again, _ := impl.RaisedBy(argument, word); !equalRows(again, want) {
				t.Fatalf("RaisedBy(%v, %d) = %v, and then %v", scores, word, want, again)
			}
		}
	}
}

func TestScoresLeaveTheirArguments(t *testing.T) {
	for _, scores := range [][][]int{{{0, 0}}, {{20, 3}}, {{1, 0, 5}, {2, 4, 0}}, {{1, 0, 5}, {2, 4, 21}}, {{1, 0, 5}, {2, 4}}, evenScores(5, 20), mixedScores(5, 20, 1)[0], evenScores(6, 1), {}} {
		argument := roomyScores(scores)
		for _, heads := range [][]int{{0}, {2, 0}, {0, 1, 1, 2, 3}, {0, 0}, {2, 1}} {
			tree := roomy(heads)
			impl.ScoreOf(argument, tree)
			checkApart(t, nil, tree, heads)
		}
		impl.ScoresOk(argument)
		impl.BestScore(argument)
		impl.BestFlat(argument)
		for word := range len(scores) + 2 {
			impl.RaisedBy(argument, word)
		}
		checkScoresStay(t, argument, scores)
	}
}
