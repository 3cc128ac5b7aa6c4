package tests

import (
	"fmt"
	"math"
	"math/rand/v2"
	"slices"
	"strconv"
	"strings"
	"testing"

	"loop.example/headtrees/impl"
)

// pastOf returns so many trees of before, all different.
func pastOf(many int) [][]int {
	return smallTrees(3)[1 : many+1]
}

// deskTrees returns all trees with at most four words, some of five, and the big ones.
func deskTrees() [][]int {
	return slices.Concat(smallTrees(4), [][]int{{3, 0, 2, 3, 2}, {0, 1, 1, 2, 3}, {2, 3, 0, 3, 4}}, bigTrees())
}

// sampleDesks returns desks with no trees of before, and with others with as many as may be and nearly so.
func sampleDesks() []impl.Desk {
	var desks []impl.Desk
	for at, heads := range deskTrees() {
		desks = append(desks, impl.Desk{Now: heads})
		many := []int{1, impl.MaxPast - 1, impl.MaxPast}[at%3]
		desks = append(desks, impl.Desk{Now: heads, Past: pastOf(many)})
	}
	return desks
}

// notDesks returns desks that are none, with the reasons.
func notDesks() map[string]impl.Desk {
	tree, others := []int{2, 0, 2}, map[string]impl.Desk{}
	others["nothing"] = impl.Desk{}
	others["nothing but what was before"] = impl.Desk{Past: pastOf(2)}
	others["one tree of before too many"] = impl.Desk{Now: tree, Past: pastOf(impl.MaxPast + 1)}
	others["many trees of before"] = impl.Desk{Now: tree, Past: slices.Repeat([][]int{tree}, 1000)}
	for name, heads := range notTrees() {
		others["now "+name] = impl.Desk{Now: heads}
		others["now "+name+", with trees of before"] = impl.Desk{Now: heads, Past: pastOf(3)}
		others["first "+name] = impl.Desk{Now: tree, Past: slices.Insert(slices.Clone(pastOf(3)), 0, heads)}
		others["last "+name] = impl.Desk{Now: tree, Past: append(slices.Clone(pastOf(impl.MaxPast-1)), heads)}
	}
	return others
}

// kinds returns all kinds of deeds, and others.
func kinds() (known, others []int) {
	return []int{impl.DkHead, impl.DkAdd, impl.DkDrop, impl.DkTurn, impl.DkFlat, impl.DkBack}, []int{-1, 6, 7, 100, math.MinInt, math.MaxInt}
}

// allDeeds returns deeds of all kinds, and of others, with all numbers that may say something, and with others.
func allDeeds() []impl.Deed {
	var deeds []impl.Deed
	known, others := kinds()
	numbers := []int{-1, 0, 1, 2, 3, 4, 5, 7, 8, 9, 10, 99, 100, math.MinInt, math.MaxInt}
	for _, kind := range slices.Concat(known, others) {
		for _, a := range numbers {
			for _, b := range numbers {
				deeds = append(deeds, impl.Deed{Kind: kind, A: a, B: b})
			}
		}
	}
	return deeds
}

// mixedDeeds returns so many deeds of which many can be done; each seed has others.
func mixedDeeds(many int, seed uint64) []impl.Deed {
	source := rand.New(rand.NewPCG(seed, 12))
	deeds := make([]impl.Deed, many)
	for at := range deeds {
		switch kind := source.IntN(8); kind {
		case 0, 1:
			deeds[at] = impl.Deed{Kind: impl.DkHead, A: 1 + source.IntN(6), B: source.IntN(6)}
		case 2, 3:
			deeds[at] = impl.Deed{Kind: impl.DkAdd, A: 1 + source.IntN(6)}
		default:
			deeds[at] = impl.Deed{Kind: kind - 2}
		}
	}
	return deeds
}

// backOneByOne returns heads read from the last word.
func backOneByOne(heads []int) []int {
	back := make([]int, len(heads))
	for at, head := range heads {
		if head != 0 {
			back[len(heads)-1-at] = len(heads) + 1 - head
		}
	}
	return back
}

// headsAfter returns the heads after a deed that is not to put back, a tree or not.
func headsAfter(heads []int, a impl.Deed) []int {
	next := slices.Clone(heads)
	switch {
	case a.Kind == impl.DkHead && a.A >= 1 && a.A <= len(heads):
		return slices.Concat(next[:a.A-1], []int{a.B}, next[a.A:])
	case a.Kind == impl.DkAdd && a.B == 0:
		return append(next, a.A)
	case a.Kind == impl.DkDrop && a.A == 0 && a.B == 0:
		return next[:len(next)-1]
	case a.Kind == impl.DkTurn && a.A == 0 && a.B == 0:
		return backOneByOne(next)
	case a.Kind == impl.DkFlat && a.A == 0 && a.B == 0:
		return impl.MadeFlat(next)
	}
	return nil
}

// deskAfter returns a desk after a deed, and whether it can be done, other than DeskDo with what isTree says.
func deskAfter(d impl.Desk, a impl.Deed) (impl.Desk, bool) {
	many := len(d.Past)
	if a == (impl.Deed{Kind: impl.DkBack}) && many > 0 {
		return impl.Desk{Now: d.Past[many-1], Past: d.Past[:many-1]}, true
	}
	next := headsAfter(d.Now, a)
	if len(next) > impl.MaxWords || !isTree(next) || slices.Equal(next, d.Now) {
		return d, false
	}
	past := slices.Concat(d.Past, [][]int{d.Now})
	if many == impl.MaxPast {
		past = past[1:]
	}
	return impl.Desk{Now: next, Past: past}, true
}

// equalDesks reports whether two desks have the same trees.
func equalDesks(a, b impl.Desk) bool {
	return slices.Equal(a.Now, b.Now) && equalRows(a.Past, b.Past)
}

// isNothing reports whether a desk has no tree and none of before.
func isNothing(d impl.Desk) bool {
	return equalDesks(d, impl.Desk{})
}

// mustDesk returns the desk of a tree.
func mustDesk(t *testing.T, heads []int) impl.Desk {
	t.Helper()
	d, ok := impl.DeskNew(heads)
	if !ok || !slices.Equal(d.Now, heads) {
		t.Fatalf("DeskNew(%v) = %v, %v", heads, d, ok)
	}
	return d
}

// mustDo returns a desk after a deed that can be done.
func mustDo(t *testing.T, d impl.Desk, a impl.Deed) impl.Desk {
	t.Helper()
	after, ok := impl.DeskDo(d, a)
	if !ok {
		t.Fatalf("DeskDo(%v, %v) = %v, %v", d, a, after, ok)
	}
	return after
}

// checkNotDone checks that a deed cannot be done, and changes nothing.
func checkNotDone(t *testing.T, d impl.Desk, a impl.Deed) {
	t.Helper()
	if after, ok := impl.DeskDo(d, a); ok || !equalDesks(after, d) {
		t.Errorf("DeskDo(%v, %v) = %v, %v", d, a, after, ok)
	}
}

// checkDone checks what is promised of a desk behind a deed that was done.
func checkDone(t *testing.T, before impl.Desk, a impl.Deed, after impl.Desk) {
	t.Helper()
	if !impl.DeskOk(after) {
		t.Fatalf("DeskDo(%v, %v) = %v, which is no desk", before, a, after)
	}
	switch a.Kind {
	case impl.DkBack:
		return
	case impl.DkFlat:
		if !impl.FlatOk(after.Now) {
			t.Fatalf("DeskDo(%v, %v) = %v, which is not flat", before, a, after)
		}
	case impl.DkTurn:
		if impl.CrossingsOf(after.Now) != impl.CrossingsOf(before.Now) {
			t.Fatalf("DeskDo(%v, %v) = %v with other crossings", before, a, after)
		}
	}
	want := before
	if len(before.Past) == impl.MaxPast {
		want.Past = before.Past[1:]
	}
	if back, ok := impl.DeskDo(after, impl.Deed{Kind: impl.DkBack}); !ok || !equalDesks(back, want) {
		t.Fatalf("behind DeskDo(%v, %v) = %v back leads to %v, %v", before, a, after, back, ok)
	}
}

func TestP50WhatWasDoneCanBeUndone(t *testing.T) {
	done := map[int]int{}
	for _, d := range sampleDesks() {
		for _, a := range allDeeds() {
			after, ok := impl.DeskDo(d, a)
			if !ok {
				checkNotDone(t, d, a)
				continue
			}
			done[a.Kind]++
			checkDone(t, d, a, after)
		}
	}
	if len(done) != 6 {
		t.Errorf("of these kinds so many deeds were done: %v", done)
	}
}

func TestP50DeskDoIsWhatDeedsSay(t *testing.T) {
	for _, d := range sampleDesks() {
		for _, a := range allDeeds() {
			want, wantOk := deskAfter(d, a)
			if after, ok := impl.DeskDo(d, a); ok != wantOk || !equalDesks(after, want) {
				t.Fatalf("DeskDo(%v, %v) = %v, %v, but it is %v, %v", d, a, after, ok, want, wantOk)
			}
		}
	}
}

func TestP50DeskDoExamples(t *testing.T) {
	for _, e := range []struct {
		name  string
		heads []int
		deed  impl.Deed
		after []int
	}{
		{"another head", []int{3, 0, 2, 3, 2}, impl.Deed{Kind: impl.DkHead, A: 5, B: 3}, []int{3, 0, 2, 3, 3}},
		{"another head for the first word", []int{3, 0, 2, 3, 2}, impl.Deed{Kind: impl.DkHead, A: 1, B: 5}, []int{5, 0, 2, 3, 2}},
		{"the same head", []int{3, 0, 2, 3, 2}, impl.Deed{Kind: impl.DkHead, A: 5, B: 2}, nil},
		{"the root stays the root", []int{3, 0, 2, 3, 2}, impl.Deed{Kind: impl.DkHead, A: 2}, nil},
		{"a ring", []int{3, 0, 2, 3, 2}, impl.Deed{Kind: impl.DkHead, A: 2, B: 3}, nil},
		{"a ring and the root", []int{3, 0, 2, 3, 2}, impl.Deed{Kind: impl.DkHead, A: 3, B: 4}, nil},
		{"two roots", []int{3, 0, 2, 3, 2}, impl.Deed{Kind: impl.DkHead, A: 5}, nil},
		{"a word on itself", []int{3, 0, 2, 3, 2}, impl.Deed{Kind: impl.DkHead, A: 5, B: 5}, nil},
		{"the word before the first one", []int{3, 0, 2, 3, 2}, impl.Deed{Kind: impl.DkHead, B: 2}, nil},
		{"the word behind the last one", []int{3, 0, 2, 3, 2}, impl.Deed{Kind: impl.DkHead, A: 6, B: 2}, nil},
		{"a head behind the last word", []int{3, 0, 2, 3, 2}, impl.Deed{Kind: impl.DkHead, A: 5, B: 6}, nil},
		{"a word behind", []int{3, 0, 2, 3, 2}, impl.Deed{Kind: impl.DkAdd, A: 5}, []int{3, 0, 2, 3, 2, 5}},
		{"a further root", []int{3, 0, 2, 3, 2}, impl.Deed{Kind: impl.DkAdd}, nil},
		{"a word behind, on itself", []int{3, 0, 2, 3, 2}, impl.Deed{Kind: impl.DkAdd, A: 6}, nil},
		{"a word behind, and two numbers", []int{3, 0, 2, 3, 2}, impl.Deed{Kind: impl.DkAdd, A: 5, B: 5}, nil},
		{"a word behind one word", []int{0}, impl.Deed{Kind: impl.DkAdd, A: 1}, []int{0, 1}},
		{"the last one of MaxWords words", []int{0, 1, 2, 3, 4, 5, 6}, impl.Deed{Kind: impl.DkAdd, A: 7}, []int{0, 1, 2, 3, 4, 5, 6, 7}},
		{"a word behind MaxWords words", []int{0, 1, 2, 3, 4, 5, 6, 7}, impl.Deed{Kind: impl.DkAdd, A: 7}, nil},
		{"without the last word", []int{3, 0, 2, 3, 2}, impl.Deed{Kind: impl.DkDrop}, []int{3, 0, 2, 3}},
		{"a last word that is a head", []int{2, 0, 4, 2}, impl.Deed{Kind: impl.DkDrop}, nil},
		{"a last word that is the root", []int{2, 0}, impl.Deed{Kind: impl.DkDrop}, nil},
		{"no last word but one", []int{0}, impl.Deed{Kind: impl.DkDrop}, nil},
		{"without the last one of MaxWords words", []int{0, 1, 2, 3, 4, 5, 6, 7}, impl.Deed{Kind: impl.DkDrop}, []int{0, 1, 2, 3, 4, 5, 6}},
		{"without the last word, and a number", []int{0, 1}, impl.Deed{Kind: impl.DkDrop, A: 2}, nil},
		{"turned", []int{0, 3, 1, 3, 1}, impl.Deed{Kind: impl.DkTurn}, []int{5, 3, 5, 3, 0}},
		{"turned it is the same", []int{2, 0, 2}, impl.Deed{Kind: impl.DkTurn}, nil},
		{"one word turned", []int{0}, impl.Deed{Kind: impl.DkTurn}, nil},
		{"turned, and a number", []int{0, 1}, impl.Deed{Kind: impl.DkTurn, B: 1}, nil},
		{"made flat", []int{3, 0, 2, 3, 2}, impl.Deed{Kind: impl.DkFlat}, []int{0, 3, 1, 3, 1}},
		{"flat", []int{0, 3, 1, 3, 1}, impl.Deed{Kind: impl.DkFlat}, nil},
		{"one word is flat", []int{0}, impl.Deed{Kind: impl.DkFlat}, nil},
		{"made flat, and a number", []int{3, 0, 2, 3, 2}, impl.Deed{Kind: impl.DkFlat, A: 1}, nil},
		{"nothing is back", []int{3, 0, 2, 3, 2}, impl.Deed{Kind: impl.DkBack}, nil},
	} {
		d, want := mustDesk(t, e.heads), impl.Desk{Now: e.after, Past: [][]int{e.heads}}
		if e.after == nil {
			want = d
		}
		if after, ok := impl.DeskDo(d, e.deed); ok != (e.after != nil) || !equalDesks(after, want) {
			t.Errorf("%s: DeskDo(%v, %v) = %v, %v", e.name, d, e.deed, after, ok)
		}
	}
}

func TestP50DeedsWithNumbersThatAreToBeNoneAreNotDone(t *testing.T) {
	d := impl.Desk{Now: []int{3, 0, 2, 3, 2}, Past: pastOf(3)}
	for _, number := range []int{-1, 1, 2, 5, math.MinInt, math.MaxInt} {
		checkNotDone(t, d, impl.Deed{Kind: impl.DkAdd, A: 5, B: number})
		for kind := impl.DkDrop; kind <= impl.DkBack; kind++ {
			mustDo(t, d, impl.Deed{Kind: kind})
			checkNotDone(t, d, impl.Deed{Kind: kind, A: number})
			checkNotDone(t, d, impl.Deed{Kind: kind, B: number})
			checkNotDone(t, d, impl.Deed{Kind: kind, A: number, B: -number})
		}
	}
	_, others := kinds()
	for _, kind := range others {
		checkNotDone(t, d, impl.Deed{Kind: kind})
		checkNotDone(t, d, impl.Deed{Kind: kind, A: 5, B: 3})
	}
}

func TestP50BackUntilNoneIsLeft(t *testing.T) {
	for _, many := range []int{1, impl.MaxPast - 1, impl.MaxPast, impl.MaxPast + 1, 2*impl.MaxPast + 3} {
		d := mustDesk(t, []int{3, 0, 2, 3, 2})
		desks := []impl.Desk{d}
		for at := range many {
			d = mustDo(t, d, impl.Deed{Kind: impl.DkHead, A: 5, B: []int{3, 4, 1, 2}[at%4]})
			desks = append(desks, d)
		}
		kept := min(many, impl.MaxPast)
		if len(d.Past) != kept {
			t.Fatalf("after %d deeds there are %d trees of before", many, len(d.Past))
		}
		for step := range kept {
			d = mustDo(t, d, impl.Deed{Kind: impl.DkBack})
			if want := desks[many-1-step]; !slices.Equal(d.Now, want.Now) || len(d.Past) != kept-1-step {
				t.Fatalf("after %d deeds, %d back lead to %v, but it was %v", many, step+1, d, want)
			}
		}
		checkNotDone(t, d, impl.Deed{Kind: impl.DkBack})
	}
}

func TestP50DeskDoOfOthers(t *testing.T) {
	known, others := kinds()
	for name, d := range notDesks() {
		for _, kind := range slices.Concat(known, others) {
			for _, a := range []impl.Deed{{Kind: kind}, {Kind: kind, A: 1}, {Kind: kind, A: 3, B: 2}} {
				if after, ok := impl.DeskDo(d, a); ok || !isNothing(after) {
					t.Errorf("%s: DeskDo(%v, %v) = %v, %v", name, d, a, after, ok)
				}
			}
		}
	}
}

func TestP51WhateverIsDoneItIsATree(t *testing.T) {
	for seed, heads := range deskTrees() {
		d := mustDesk(t, heads)
		list := mixedDeeds(impl.MaxLines, uint64(seed))
		after, done := impl.DeskRun(d, list)
		if !impl.DeskOk(after) {
			t.Fatalf("DeskRun(%v, %v) = %v", d, list, after)
		}
		for at := range len(list) + 1 {
			first, doneFirst := impl.DeskRun(d, list[:at])
			second, doneSecond := impl.DeskRun(first, list[at:])
			if !equalDesks(second, after) || doneFirst+doneSecond != done {
				t.Fatalf("DeskRun(%v, %v) = %v, %d, but in two parts, after %d deeds, %v, %d", d, list, after, done, at, second, doneFirst+doneSecond)
			}
		}
	}
}

func TestP51DeskRunIsOneDeedAfterTheOther(t *testing.T) {
	all := 0
	for seed, d := range sampleDesks() {
		list := mixedDeeds(impl.MaxLines, uint64(seed))
		want, count := d, 0
		for _, a := range list {
			next, ok := deskAfter(want, a)
			if ok {
				count++
			}
			want = next
		}
		if after, done := impl.DeskRun(d, list); done != count || !equalDesks(after, want) {
			t.Fatalf("DeskRun(%v, %v) = %v, %d, but one by one it is %v, %d", d, list, after, done, want, count)
		}
		all += count
	}
	if all < 1000 {
		t.Errorf("only %d deeds were done", all)
	}
}

func TestP51DeskRunExamples(t *testing.T) {
	d := mustDesk(t, []int{3, 0, 2, 3, 3})
	for _, e := range []struct {
		list []impl.Deed
		done int
		want impl.Desk
	}{
		{nil, 0, d},
		{[]impl.Deed{{Kind: impl.DkDrop}}, 1, impl.Desk{Now: []int{3, 0, 2, 3}, Past: [][]int{d.Now}}},
		{[]impl.Deed{{Kind: impl.DkDrop, B: 1}, {Kind: impl.DkBack}, {Kind: -1}}, 0, d},
		{[]impl.Deed{{Kind: impl.DkDrop}, {Kind: impl.DkBack}}, 2, d},
		{[]impl.Deed{{Kind: impl.DkAdd, A: 7}, {Kind: impl.DkDrop}, {Kind: impl.DkHead, A: 4, B: 1}, {Kind: impl.DkFlat}, {Kind: impl.DkFlat}}, 3, impl.Desk{Now: []int{0, 4, 2, 1}, Past: [][]int{d.Now, {3, 0, 2, 3}, {3, 0, 2, 1}}}},
	} {
		if after, done := impl.DeskRun(d, e.list); done != e.done || !equalDesks(after, e.want) {
			t.Errorf("DeskRun(%v, %v) = %v, %d", d, e.list, after, done)
		}
	}
}

func TestP51DeskRunOfManyDeeds(t *testing.T) {
	d := mustDesk(t, []int{0, 1})
	for _, a := range []impl.Deed{{Kind: impl.DkTurn}, {Kind: impl.DkBack}} {
		list := slices.Repeat([]impl.Deed{a}, impl.MaxLines+1)
		done := 0
		if a.Kind == impl.DkTurn {
			done = impl.MaxLines
		}
		if after, got := impl.DeskRun(d, list[1:]); got != done || !slices.Equal(after.Now, d.Now) || len(after.Past) != min(done, impl.MaxPast) {
			t.Errorf("DeskRun(%v) of %d times %v = %v, %d", d, impl.MaxLines, a, after, got)
		}
		if after, got := impl.DeskRun(d, list); got != 0 || !isNothing(after) {
			t.Errorf("DeskRun(%v) of %d times %v = %v, %d", d, len(list), a, after, got)
		}
	}
}

func TestP51DeskRunOfOthers(t *testing.T) {
	for name, d := range notDesks() {
		for _, list := range [][]impl.Deed{nil, {{Kind: impl.DkBack}}, {{Kind: impl.DkTurn}, {Kind: impl.DkFlat}, {Kind: impl.DkAdd, A: 1}}} {
			if after, done := impl.DeskRun(d, list); done != 0 || !isNothing(after) {
				t.Errorf("%s: DeskRun(%v, %v) = %v, %d", name, d, list, after, done)
			}
		}
	}
}

func TestP52WhereverAJournalIsCutADeskOfBeforeIsFound(t *testing.T) {
	for seed, d := range sampleDesks() {
		list := mixedDeeds(seed%(impl.MaxLines+1), uint64(seed))
		text := impl.JournalText(list)
		for cut := range len(text) + 1 {
			whole := strings.Count(text[:cut], "\n")
			deeds, read := impl.ReadJournal(text[:cut])
			if !slices.Equal(deeds, list[:whole]) || read != strings.LastIndexByte(text[:cut], '\n')+1 {
				t.Fatalf("ReadJournal(%q) = %v, %d", text[:cut], deeds, read)
			}
			if again := impl.JournalText(deeds); again != text[:read] {
				t.Fatalf("of %q this was read: %q", text[:cut], again)
			}
		}
		checkSaidAsDone(t, d, list)
	}
}

// checkSaidAsDone checks that deeds that are said line by line lead to the desk to which they lead when they are done, also if just the first ones are, and that those that are done are answered by ok.
func checkSaidAsDone(t *testing.T, d impl.Desk, list []impl.Deed) {
	t.Helper()
	lines := strings.SplitAfter(impl.JournalText(list), "\n")
	for at := range list {
		lines[at] = strings.TrimSuffix(lines[at], "\n")
	}
	for many := range len(list) + 1 {
		after, done := impl.DeskRun(d, list[:many])
		said, answers := impl.DeskSay(d, lines[:many])
		ok := 0
		for _, answer := range answers {
			if answer == "ok" {
				ok++
			} else if answer != "not" {
				t.Fatalf("of %q the answers are %q", lines[:many], answers)
			}
		}
		if !equalDesks(after, said) || ok != done || len(answers) != many {
			t.Fatalf("DeskRun(%v, %v) = %v, %d, but said it is %v, %q", d, list[:many], after, done, said, answers)
		}
	}
}

func TestP52NothingIsReadBehindWhatIsNoDeed(t *testing.T) {
	good := "head 5 3\nadd 5\ndrop\n"
	for _, bad := range append(notDeedTexts(), "turn\r", "drop\x00", "back back") {
		if strings.HasSuffix(bad, "\n") {
			continue
		}
		for _, behind := range []string{"", "\n", "\n\n", "\nturn\n"} {
			if deeds, read := impl.ReadJournal(good + bad + behind); len(deeds) != 3 || read != len(good) {
				t.Errorf("ReadJournal(%.60q) = %v, %d", good+bad+behind, deeds, read)
			}
		}
		if deeds, read := impl.ReadJournal(bad + "\n" + good); len(deeds) != 0 || read != 0 {
			t.Errorf("ReadJournal(%.60q) = %v, %d", bad+"\n"+good, deeds, read)
		}
	}
}

func TestP52ReadJournalExamples(t *testing.T) {
	for _, e := range []struct {
		text string
		many int
		read int
	}{
		{"", 0, 0},
		{"\n", 0, 0},
		{"\nback\n", 0, 0},
		{"back", 0, 0},
		{"back\n", 1, 5},
		{"back\n\n", 1, 5},
		{"back\n\nback\n", 1, 5},
		{"back\nback", 1, 5},
		{"back\nback\n", 2, 10},
		{"back\r\nback\n", 0, 0},
		{"add 5\nback\ndro", 2, 11},
		{"add 5\nback\ndrop", 2, 11},
		{"add 5\nback\ndrop\n", 3, 16},
		{"add 5\nback \ndrop\n", 1, 6},
		{"add 05\nback\ndrop\n", 0, 0},
		{"head 0 0\nhead 9 10\nhead 99 99\nadd 99\nadd 100\nturn\n", 4, 37},
		{strings.Repeat("flat\n", 1000), 1000, 5000},
	} {
		if deeds, read := impl.ReadJournal(e.text); len(deeds) != e.many || read != e.read {
			t.Errorf("ReadJournal(%.60q) = %v, %d", e.text, deeds, read)
		}
	}
}

// linesOf returns lines of all sorts: of the deeds, and behind each a question, or a line that is none; how many deeds there are makes them others.
func linesOf(list []impl.Deed) []string {
	var lines []string
	others := append(questionWords(), "yield 1", "yield 3", "yield 8", "yield 9", "yield 03", "yield", "", "what", "ok", "head 0 0", "add 99", "\xff")
	for at, a := range list {
		lines = append(lines, impl.DeedText(a), others[(at*7+len(list))%len(others)])
	}
	return lines
}

// questionWords returns the words of all questions that are one word.
func questionWords() []string {
	return []string{"heads", "depths", "order", "root", "crossings", "gaps", "exchanges", "length", "least", "apart", "projective", "nested", "moves", "eager", "place"}
}

func TestP53WhateverIsSaidBothMachinesTellTheSameTrees(t *testing.T) {
	none, told := 0, 0
	for seed, d := range sampleDesks() {
		lines := linesOf(mixedDeeds(14+seed%7, uint64(seed)))
		whole, answers := impl.DeskSay(d, lines)
		if len(answers) != len(lines) || slices.Contains(answers, "") || !impl.DeskOk(whole) {
			t.Fatalf("DeskSay(%v, %q) = %v, %q", d, lines, whole, answers)
		}
		for at := range len(lines) + 1 {
			first, ahead := impl.DeskSay(d, lines[:at])
			second, behind := impl.DeskSay(first, lines[at:])
			if !equalDesks(second, whole) || !slices.Equal(slices.Concat(ahead, behind), answers) {
				t.Fatalf("DeskSay(%v, %q) = %v, %q, but in two parts, after %d lines, %v, %q, %q", d, lines, whole, answers, at, second, ahead, behind)
			}
			_, both := impl.DeskSay(first, []string{"moves", "eager"})
			if len(both) != 2 || (both[0] == "none") != (both[1] == "none") {
				t.Fatalf("behind %q of %v both machines tell %q", lines[:at], d, both)
			}
			if both[0] == "none" {
				none++
			} else {
				told++
			}
		}
	}
	if none < 100 || told < 100 {
		t.Errorf("both were none %d times, and both not %d times", none, told)
	}
}

func TestP53DeskSayIsOneLineAfterTheOther(t *testing.T) {
	for seed, d := range sampleDesks() {
		lines := linesOf(mixedDeeds(14+seed%7, uint64(seed)))
		after, answers := impl.DeskSay(d, lines)
		want := d
		for at, line := range lines {
			next, answer := impl.DeskLine(want, line)
			if answer != answers[at] {
				t.Fatalf("DeskSay(%v, %q) = %q, but line %d is answered by %q", d, lines, answers, at+1, answer)
			}
			want = next
		}
		if !equalDesks(after, want) {
			t.Fatalf("DeskSay(%v, %q) = %v, but line by line it is %v", d, lines, after, want)
		}
	}
}

// checkSaid checks the answers to lines, each with its answer behind a tab, and returns the desk behind them.
func checkSaid(t *testing.T, heads []int, said []string) impl.Desk {
	t.Helper()
	var lines, want []string
	for _, each := range said {
		line, answer, _ := strings.Cut(each, "\t")
		lines, want = append(lines, line), append(want, answer)
	}
	d, answers := impl.DeskSay(mustDesk(t, heads), lines)
	if len(answers) != len(want) {
		t.Fatalf("to %d lines there are these answers: %q", len(want), answers)
	}
	for at, line := range lines {
		if answers[at] != want[at] {
			t.Errorf("of %v, %q is answered by %q, not by %q", heads, line, answers[at], want[at])
		}
	}
	return d
}

func TestP53DeskSayAsInTheDocument(t *testing.T) {
	d := checkSaid(t, []int{3, 0, 2, 3, 2}, []string{
		"depths\t2,0,1,2,1", "crossings\t1", "gaps\t1", "projective\tno", "order\t2,1,3,4,5", "length\t7", "least\t5", "yield 3\t1,3,4",
		"flat\tok", "heads\t0,3,1,3,1", "moves\tSSSLSRRSR", "eager\tSSLRRDDR", "place\t21", "turn\tok", "heads\t5,3,5,3,0",
	})
	if want := (impl.Desk{Now: []int{5, 3, 5, 3, 0}, Past: [][]int{{3, 0, 2, 3, 2}, {0, 3, 1, 3, 1}}}); !equalDesks(d, want) {
		t.Errorf("the desk is %v", d)
	}
}

func TestP53DeskSayOfOneWord(t *testing.T) {
	d := checkSaid(t, []int{0}, []string{
		"heads\t0", "depths\t0", "order\t1", "root\t1", "crossings\t0", "gaps\t0", "exchanges\t0", "length\t0", "least\t0", "apart\t0",
		"projective\tyes", "nested\tyes", "moves\tS", "eager\tS", "place\t0", "yield 1\t1", "yield 0\tnone", "yield 2\tnone",
		"drop\tnot", "turn\tnot", "flat\tnot", "back\tnot", "head 1 0\tnot", "head 1 1\tnot", "head 0 0\tnot", "head 2 1\tnot", "add 0\tnot", "add 2\tnot",
		"heads\t0", "add 1\tok", "heads\t0,1", "drop\tok", "drop\tnot", "back\tok", "back\tok", "back\tnot", "heads\t0",
	})
	if !equalDesks(d, impl.Desk{Now: []int{0}}) {
		t.Errorf("the desk is %v", d)
	}
}

func TestP53DeskSayOfATreeByTurns(t *testing.T) {
	checkSaid(t, []int{0, 1, 1, 2, 3}, []string{
		"heads\t0,1,1,2,3", "depths\t0,1,1,2,2", "order\t1,2,4,3,5", "root\t1", "crossings\t2", "gaps\t1", "exchanges\t1", "length\t7", "least\t4", "apart\t3",
		"projective\tno", "nested\tno", "moves\tnone", "eager\tnone", "place\tnone", "yield 2\t2,4", "yield 1\t1,2,3,4,5",
		"flat\tok", "heads\t0,1,2,1,4", "nested\tyes", "projective\tyes", "exchanges\t0", "length\t6", "root\t1", "flat\tnot", "turn\tok", "root\t5", "turn\tok", "heads\t0,1,2,1,4",
		"back\tok", "back\tok", "back\tok", "heads\t0,1,1,2,3", "back\tnot",
	})
}

func TestP53DeskSayOfMaxWordsWords(t *testing.T) {
	checkSaid(t, []int{0, 1, 2, 3, 4, 5, 6}, []string{
		"add 7\tok", "add 8\tnot", "add 1\tnot", "heads\t0,1,2,3,4,5,6,7", "depths\t0,1,2,3,4,5,6,7", "order\t1,2,3,4,5,6,7,8", "length\t7", "least\t7", "apart\t15",
		"moves\tSSSSSSSSRRRRRRR", "yield 8\t8", "yield 9\tnone", "head 8 9\tnot", "head 8 1\tok", "length\t13", "depths\t0,1,2,3,4,5,6,1",
		"drop\tok", "yield 8\tnone", "turn\tok", "heads\t2,3,4,5,6,7,0", "drop\tnot",
	})
}

func TestP53DeskSayOfManyLines(t *testing.T) {
	d := mustDesk(t, []int{3, 0, 2, 3, 2})
	lines := slices.Repeat([]string{"turn", "heads", ""}, impl.MaxLines)
	if after, answers := impl.DeskSay(d, lines[:impl.MaxLines]); len(answers) != impl.MaxLines || answers[impl.MaxLines-1] != "ok" || len(after.Past) != impl.MaxPast {
		t.Errorf("DeskSay of MaxLines lines = %v, %q", after, answers)
	}
	for _, many := range []int{impl.MaxLines + 1, len(lines)} {
		if after, answers := impl.DeskSay(d, lines[:many]); len(answers) != 0 || !isNothing(after) {
			t.Errorf("DeskSay of %d lines = %v, %q", many, after, answers)
		}
	}
	for _, none := range [][]string{nil, {}} {
		if after, answers := impl.DeskSay(d, none); len(answers) != 0 || !equalDesks(after, d) {
			t.Errorf("DeskSay of no lines = %v, %q", after, answers)
		}
	}
}

func TestP53DeskSayOfOthers(t *testing.T) {
	for name, d := range notDesks() {
		for _, lines := range [][]string{nil, {"heads"}, {"turn", "flat", "back", "", "yield 1"}} {
			if after, answers := impl.DeskSay(d, lines); len(answers) != 0 || !isNothing(after) {
				t.Errorf("%s: DeskSay(%v, %q) = %v, %q", name, d, lines, after, answers)
			}
		}
	}
}

func TestP54DesksCanForget(t *testing.T) {
	for _, d := range sampleDesks() {
		if !impl.DeskOk(d) {
			t.Errorf("DeskOk(%v) does not hold", d)
		}
		for _, past := range [][][]int{nil, {}} {
			if forgotten := (impl.Desk{Now: d.Now, Past: past}); !impl.DeskOk(forgotten) {
				t.Errorf("DeskOk(%v) does not hold", forgotten)
			}
		}
	}
}

func TestP54DesksHaveATreeAndAtMostMaxPastOfBefore(t *testing.T) {
	for _, heads := range append(bigTrees(), []int{0}) {
		for many := range impl.MaxPast + 3 {
			if d := (impl.Desk{Now: heads, Past: slices.Repeat([][]int{heads}, many)}); impl.DeskOk(d) != (many <= impl.MaxPast) {
				t.Errorf("DeskOk(%v) = %v", d, impl.DeskOk(d))
			}
		}
	}
}

func TestP54DeskOkOfOthers(t *testing.T) {
	for name, d := range notDesks() {
		if impl.DeskOk(d) {
			t.Errorf("%s: DeskOk(%v) holds", name, d)
		}
	}
	for at := range impl.MaxPast {
		d := impl.Desk{Now: []int{0}, Past: slices.Clone(pastOf(impl.MaxPast))}
		d.Past[at] = []int{2, 1}
		if impl.DeskOk(d) {
			t.Errorf("DeskOk(%v) holds", d)
		}
	}
}

func TestP55NewDesksHaveOneTree(t *testing.T) {
	for _, heads := range sampleTrees() {
		if d, ok := impl.DeskNew(heads); !ok || !slices.Equal(d.Now, heads) || len(d.Past) != 0 || !impl.DeskOk(d) {
			t.Errorf("DeskNew(%v) = %v, %v", heads, d, ok)
		}
	}
}

func TestP55DeskNewOfOthers(t *testing.T) {
	for name, heads := range notTrees() {
		if d, ok := impl.DeskNew(heads); ok || !isNothing(d) {
			t.Errorf("%s: DeskNew(%v) = %v, %v", name, heads, d, ok)
		}
	}
}

func TestP55DeskNewIsNew(t *testing.T) {
	for _, heads := range append(bigTrees(), []int{0}, []int{2, 0, 2}) {
		checkNewRow(t, heads, func(heads []int) []int { return mustDesk(t, heads).Now })
	}
}

func TestP56TextsOfDeedsAreRead(t *testing.T) {
	texts := 0
	for _, a := range allDeeds() {
		text := impl.DeedText(a)
		if text == "" {
			continue
		}
		texts++
		if read, ok := impl.ReadDeed(text); !ok || read != a {
			t.Errorf("DeedText(%v) = %q, which is read as %v, %v", a, text, read, ok)
		}
	}
	// Of the numbers 11 are in 0..99, and four kinds have none.
	if want := 11*11 + 11 + 4; texts != want {
		t.Errorf("%d deeds have a text, not %d", texts, want)
	}
}

// deedTexts returns all deeds that have a text, by their texts.
func deedTexts() map[string]impl.Deed {
	all := map[string]impl.Deed{
		"drop": {Kind: impl.DkDrop},
		"turn": {Kind: impl.DkTurn},
		"flat": {Kind: impl.DkFlat},
		"back": {Kind: impl.DkBack},
	}
	for a := range 100 {
		all[fmt.Sprintf("add %d", a)] = impl.Deed{Kind: impl.DkAdd, A: a}
		for b := range 100 {
			all[fmt.Sprintf("head %d %d", a, b)] = impl.Deed{Kind: impl.DkHead, A: a, B: b}
		}
	}
	return all
}

func TestP56EachDeedHasItsText(t *testing.T) {
	for text, a := range deedTexts() {
		if got := impl.DeedText(a); got != text {
			t.Errorf("DeedText(%v) = %q", a, got)
		}
		if read, ok := impl.ReadDeed(text); !ok || read != a {
			t.Errorf("ReadDeed(%q) = %v, %v", text, read, ok)
		}
	}
}

func TestP56DeedTextExamples(t *testing.T) {
	for _, e := range []struct {
		deed impl.Deed
		text string
	}{
		{impl.Deed{}, "head 0 0"},
		{impl.Deed{Kind: impl.DkHead, A: 5, B: 3}, "head 5 3"},
		{impl.Deed{Kind: impl.DkHead, A: 9, B: 10}, "head 9 10"},
		{impl.Deed{Kind: impl.DkHead, A: 10, B: 9}, "head 10 9"},
		{impl.Deed{Kind: impl.DkHead, A: 99, B: 99}, "head 99 99"},
		{impl.Deed{Kind: impl.DkHead, A: 100, B: 99}, ""},
		{impl.Deed{Kind: impl.DkHead, A: 99, B: 100}, ""},
		{impl.Deed{Kind: impl.DkHead, A: -1}, ""},
		{impl.Deed{Kind: impl.DkHead, B: -1}, ""},
		{impl.Deed{Kind: impl.DkAdd}, "add 0"},
		{impl.Deed{Kind: impl.DkAdd, A: 9}, "add 9"},
		{impl.Deed{Kind: impl.DkAdd, A: 10}, "add 10"},
		{impl.Deed{Kind: impl.DkAdd, A: 99}, "add 99"},
		{impl.Deed{Kind: impl.DkAdd, A: 100}, ""},
		{impl.Deed{Kind: impl.DkAdd, A: -1}, ""},
		{impl.Deed{Kind: impl.DkAdd, A: 5, B: 1}, ""},
		{impl.Deed{Kind: impl.DkAdd, B: -1}, ""},
		{impl.Deed{Kind: impl.DkDrop}, "drop"},
		{impl.Deed{Kind: impl.DkDrop, A: 1}, ""},
		{impl.Deed{Kind: impl.DkTurn}, "turn"},
		{impl.Deed{Kind: impl.DkTurn, B: 1}, ""},
		{impl.Deed{Kind: impl.DkFlat}, "flat"},
		{impl.Deed{Kind: impl.DkFlat, A: -1}, ""},
		{impl.Deed{Kind: impl.DkBack}, "back"},
		{impl.Deed{Kind: impl.DkBack, B: -1}, ""},
		{impl.Deed{Kind: 6}, ""},
		{impl.Deed{Kind: -1}, ""},
		{impl.Deed{Kind: math.MinInt, A: math.MinInt, B: math.MinInt}, ""},
		{impl.Deed{Kind: math.MaxInt, A: math.MaxInt, B: math.MaxInt}, ""},
	} {
		if got := impl.DeedText(e.deed); got != e.text {
			t.Errorf("DeedText(%v) = %q, not %q", e.deed, got, e.text)
		}
	}
}

// notDeedTexts returns texts that are near to texts of deeds, and others, but are none.
func notDeedTexts() []string {
	texts := []string{
		"", " ", "  ", "\n", "0", "5 3", "head", "head ", "head 5", "head 5 ", "head  5", "head 5  3", "head  5 3", "head 5 3 ", " head 5 3", "head 5 3 1", "head 5 3 0",
		"head 05 3", "head 5 03", "head 00 0", "head 0 00", "head +5 3", "head 5 +3", "head -5 3", "head 5 -3", "head -0 3", "head 5 -0", "head 100 3", "head 5 100", "head 1000 1",
		"head 5,3", "head 5\t3", "head\t5 3", "head 5 3\n", "head 5 3\r", "\nhead 5 3", "Head 5 3", "HEAD 5 3", "heads 5 3", "hea 5 3", "head5 3", "head 53", "head a b", "head 5 b", "head a 3", "head 0x5 3", "head 5 3.", "head 1_0 3", "head ５ 3", "head 18446744073709551621 3", "head 5 18446744073709551619", "head 4294967301 3",
		"add", "add ", "add  5", " add 5", "add 5 ", "add 5 0", "add 5 3", "add 05", "add 00", "add +5", "add -5", "add -0", "add 100", "add 1e1", "Add 5", "ADD 5", "adds 5", "ad 5", "add5", "add five", "add 5\n", "add\n5", "add 18446744073709551621", "add 1 8", "add 5,", "add \x005", "add 5\x00",
		"ok", "not", "what", "none", "dropturn", "drop turn", "drop\n", "drop,", "\xff", "\x00", "drop\xff", "head \xff 3",
		strings.Repeat(" ", 1000), strings.Repeat("9", 1000), "add " + strings.Repeat("9", 1000), "head " + strings.Repeat("0", 1000) + " 3", "head 5 " + strings.Repeat("0", 1000) + "3", strings.Repeat("drop ", 1000),
	}
	for _, word := range []string{"drop", "turn", "flat", "back"} {
		texts = append(texts, word+" ", " "+word, word+" 0", word+" 0 0", word+" 1", word+"s", word[:3], word[1:], strings.ToUpper(word), strings.ToUpper(word[:1])+word[1:], word+word, word+"\t", word+"\r", word+"0")
	}
	return texts
}

func TestP57ReadTextsAreCanonical(t *testing.T) {
	all := deedTexts()
	for _, text := range []string{"drop", "turn", "flat", "back", "add 0", "add 10", "add 99", "head 0 0", "head 9 10", "head 99 99"} {
		for other := range withAnotherByte("", text) {
			a, ok := impl.ReadDeed(other)
			want, wantOk := all[other]
			if ok != wantOk || a != want {
				t.Errorf("ReadDeed(%q) = %v, %v", other, a, ok)
			}
			if ok && impl.DeedText(a) != other {
				t.Errorf("ReadDeed(%q) = %v, whose text is %q", other, a, impl.DeedText(a))
			}
		}
		for at := range text {
			without := text[:at] + text[at+1:]
			want, wantOk := all[without]
			if a, ok := impl.ReadDeed(without); ok != wantOk || a != want {
				t.Errorf("ReadDeed(%q) = %v, %v", without, a, ok)
			}
		}
	}
}

func TestP57WithASpaceATextIsRefused(t *testing.T) {
	for text := range deedTexts() {
		for _, other := range []string{text + " ", " " + text, text + "\n", strings.Replace(text, " ", "  ", 1) + " "} {
			if a, ok := impl.ReadDeed(other); ok || a != (impl.Deed{}) {
				t.Errorf("ReadDeed(%q) = %v, %v", other, a, ok)
			}
		}
	}
}

func TestP57ReadDeedOfOthers(t *testing.T) {
	for _, text := range notDeedTexts() {
		if a, ok := impl.ReadDeed(text); ok || a != (impl.Deed{}) {
			t.Errorf("ReadDeed(%.60q) = %v, %v", text, a, ok)
		}
	}
}

func TestP57ReadDeedOfAllSmallNumbers(t *testing.T) {
	all := deedTexts()
	for a := -1; a <= 120; a++ {
		for _, b := range []int{-1, 0, 1, 9, 10, 11, 98, 99, 100, 101, 109, 110, 999, 1000} {
			text := fmt.Sprintf("head %d %d", a, b)
			want, wantOk := all[text]
			if got, ok := impl.ReadDeed(text); ok != wantOk || got != want {
				t.Errorf("ReadDeed(%q) = %v, %v", text, got, ok)
			}
		}
	}
}

func TestP58JournalsAreRead(t *testing.T) {
	for seed := range 60 {
		list := mixedDeeds(seed, uint64(seed))
		text := impl.JournalText(list)
		if (text == "") != (len(list) == 0) || strings.Count(text, "\n") != len(list) {
			t.Fatalf("JournalText(%v) = %q", list, text)
		}
		if read, bytes := impl.ReadJournal(text); !slices.Equal(read, list) || bytes != len(text) {
			t.Fatalf("ReadJournal(%q) = %v, %d", text, read, bytes)
		}
	}
}

func TestP58JournalOfAllDeeds(t *testing.T) {
	var list []impl.Deed
	want := ""
	for text, a := range deedTexts() {
		list, want = append(list, a), want+text+"\n"
	}
	if got := impl.JournalText(list); got != want {
		t.Errorf("the journal of all deeds has %d bytes, not %d", len(got), len(want))
	}
	if read, bytes := impl.ReadJournal(want); !slices.Equal(read, list) || bytes != len(want) {
		t.Errorf("of the journal of all deeds %d are read, and %d bytes", len(read), bytes)
	}
}

func TestP58JournalTextExamples(t *testing.T) {
	add, back, none := impl.Deed{Kind: impl.DkAdd, A: 5}, impl.Deed{Kind: impl.DkBack}, impl.Deed{Kind: impl.DkBack, A: 1}
	for _, e := range []struct {
		list []impl.Deed
		text string
	}{
		{nil, ""},
		{[]impl.Deed{}, ""},
		{[]impl.Deed{back}, "back\n"},
		{[]impl.Deed{add, back}, "add 5\nback\n"},
		{[]impl.Deed{{}, {}}, "head 0 0\nhead 0 0\n"},
		{[]impl.Deed{none}, ""},
		{[]impl.Deed{none, add, back}, ""},
		{[]impl.Deed{add, none, back}, ""},
		{[]impl.Deed{add, back, none}, ""},
		{[]impl.Deed{add, back, {Kind: 6}}, ""},
		{[]impl.Deed{add, back, {Kind: impl.DkAdd, A: 100}}, ""},
		{slices.Repeat([]impl.Deed{back}, 1000), strings.Repeat("back\n", 1000)},
	} {
		if got := impl.JournalText(e.list); got != e.text {
			t.Errorf("JournalText(%v) = %.60q", e.list, got)
		}
	}
}

func TestP58ReadJournalIsNew(t *testing.T) {
	text := "add 5\nback\nhead 1 2\nturn"
	first, _ := impl.ReadJournal(text)
	other, _ := impl.ReadJournal(text)
	clear(first[:cap(first)])
	if again, _ := impl.ReadJournal(text); !slices.Equal(other, again) || impl.JournalText(other) != "add 5\nback\nhead 1 2\n" {
		t.Errorf("ReadJournal(%q) = %v, and then %v", text, other, again)
	}
}

// commas returns numbers with commas between them, as they are printed.
func commas(numbers []int) string {
	return strings.ReplaceAll(strings.Trim(fmt.Sprint(numbers), "[]"), " ", ",")
}

// said returns what a function says of a tree, or none if this is nothing.
func said(text string, ok bool) string {
	if !ok {
		return "none"
	}
	return text
}

// answersFor returns the answers to all questions that are one word, as the functions of the chapters before tell them.
func answersFor(heads []int) map[string]string {
	yesNo := map[bool]string{true: "yes", false: "no"}
	place := impl.PlaceOf(heads)
	return map[string]string{
		"heads":      commas(heads),
		"depths":     commas(impl.DepthOf(heads)),
		"order":      commas(impl.FlatOrder(heads)),
		"root":       strconv.Itoa(impl.RootOf(heads)),
		"crossings":  strconv.Itoa(impl.CrossingsOf(heads)),
		"gaps":       strconv.Itoa(impl.MostGaps(heads)),
		"exchanges":  strconv.Itoa(impl.ExchangesFor(heads)),
		"length":     strconv.Itoa(impl.LengthOf(heads)),
		"least":      strconv.Itoa(impl.LeastLength(heads)),
		"apart":      strconv.Itoa(impl.PairsApart(heads)),
		"projective": yesNo[impl.FlatOk(heads)],
		"nested":     yesNo[impl.NestedOk(heads)],
		"moves":      said(impl.MovesFor(heads)),
		"eager":      said(impl.EagerFor(heads)),
		"place":      said(strconv.Itoa(place), place >= 0),
	}
}

// checkAnswer checks that a line has an answer, and changes nothing.
func checkAnswer(t *testing.T, d impl.Desk, line, want string) {
	t.Helper()
	if after, answer := impl.DeskLine(d, line); answer != want || !equalDesks(after, d) {
		t.Errorf("DeskLine(%v, %.60q) = %v, %q, not %q", d, line, after, answer, want)
	}
}

func TestP59QuestionsChangeNothing(t *testing.T) {
	for _, d := range sampleDesks() {
		answers := answersFor(d.Now)
		if len(answers) != len(questionWords()) {
			t.Fatalf("there are %d answers", len(answers))
		}
		for _, word := range questionWords() {
			checkAnswer(t, d, word, answers[word])
		}
		for word := 1; word <= len(d.Now); word++ {
			checkAnswer(t, d, fmt.Sprintf("yield %d", word), commas(impl.YieldOf(d.Now, word)))
		}
		checkAnswer(t, d, "", "what")
	}
}

func TestP59QuestionsAboutAllSmallTrees(t *testing.T) {
	for _, heads := range smallTrees(5) {
		d := impl.Desk{Now: heads}
		for line, answer := range answersFor(heads) {
			checkAnswer(t, d, line, answer)
		}
	}
}

func TestP59DeedsAreAnsweredByOkOrNot(t *testing.T) {
	for _, d := range sampleDesks() {
		for _, a := range allDeeds() {
			text := impl.DeedText(a)
			if text == "" {
				continue
			}
			want, done := deskAfter(d, a)
			after, answer := impl.DeskLine(d, text)
			if !equalDesks(after, want) || answer != map[bool]string{true: "ok", false: "not"}[done] {
				t.Fatalf("DeskLine(%v, %q) = %v, %q, but DeskDo leads to %v, %v", d, text, after, answer, want, done)
			}
		}
	}
}

func TestP59YieldOfAWordThatIsNotThere(t *testing.T) {
	for _, d := range sampleDesks() {
		for _, number := range []string{"0", strconv.Itoa(len(d.Now) + 1), "9", "10", "99", "100", "12345", "99999", "100000", "999999"} {
			checkAnswer(t, d, "yield "+number, "none")
		}
	}
}

func TestP59YieldsWithoutANumberAreNone(t *testing.T) {
	d := impl.Desk{Now: []int{0, 1, 2, 3, 4, 5, 6, 7}, Past: pastOf(2)}
	for _, line := range []string{
		"yield", "yield ", "yield  1", " yield 1", "yield 1 ", "yield 1 2", "yield 01", "yield 00", "yield 000001", "yield +1", "yield -1", "yield -0", "yield 1000000", "yield 9999999", "yield 0000001", "yield 10000000",
		"yield 1\n", "yield 1\r", "yield\t1", "yield1", "Yield 1", "YIELD 1", "yields 1", "yield a", "yield 1a", "yield 0x1", "yield 1_0", "yield 1.0", "yield 1,2", "yield １", "yield \x001", "yield 1\x00", "yield \xff",
		"yield 18446744073709551617", "yield 4294967297", "yield -18446744073709551615", "yield " + strings.Repeat("0", 1000) + "1", "yield " + strings.Repeat("9", 1000), "yield yield 1",
	} {
		checkAnswer(t, d, line, "what")
	}
}

func TestP59EveryOtherLineIsWhat(t *testing.T) {
	d := impl.Desk{Now: []int{3, 0, 2, 3, 2}, Past: pastOf(2)}
	for _, line := range notDeedTexts() {
		checkAnswer(t, d, line, "what")
	}
	for _, word := range questionWords() {
		for _, line := range []string{word + " ", " " + word, word + "\n", word + " 1", word[:len(word)-1], word[1:], word + "s", word + word, strings.ToUpper(word), strings.ToUpper(word[:1]) + word[1:], word + "\x00", word + "?"} {
			checkAnswer(t, d, line, "what")
		}
	}
	known := deedTexts()
	for _, text := range []string{"heads", "root", "eager", "back", "add 5", "yield 3"} {
		for line := range withAnotherByte("", text) {
			_, isDeed := known[line]
			_, isYield := strings.CutPrefix(line, "yield ")
			if !isDeed && !isYield && !slices.Contains(questionWords(), line) {
				checkAnswer(t, d, line, "what")
			}
		}
	}
}

func TestP59DeskLineOfOthers(t *testing.T) {
	for name, d := range notDesks() {
		for _, line := range append(questionWords(), "", "what", "yield 1", "yield 9", "drop", "turn", "flat", "back", "add 1", "head 1 2") {
			if after, answer := impl.DeskLine(d, line); answer != "" || !isNothing(after) {
				t.Errorf("%s: DeskLine(%v, %q) = %v, %q", name, d, line, after, answer)
			}
		}
	}
}

// roomyDesk returns a copy of a desk with spare capacity everywhere that is filled, so that writing to it shows.
func roomyDesk(d impl.Desk) impl.Desk {
	return impl.Desk{Now: roomy(d.Now), Past: roomyScores(d.Past)}
}

// checkDeskStays checks that a desk made by roomyDesk, and its spare capacity, are as they were.
func checkDeskStays(t *testing.T, argument, before impl.Desk) {
	t.Helper()
	checkApart(t, nil, argument.Now, before.Now)
	checkScoresStay(t, argument.Past, before.Past)
}

// rowsIn returns all trees of a desk, and what its spare capacity holds behind them.
func rowsIn(d impl.Desk) [][]int {
	return append([][]int{d.Now}, d.Past[:cap(d.Past)]...)
}

// checkNewDesk checks that a function of a desk returns new memory, none of it twice, and the same desk each time.
func checkNewDesk(t *testing.T, d impl.Desk, result func(d impl.Desk) impl.Desk) {
	t.Helper()
	argument := roomyDesk(d)
	first, other, want := result(argument), result(argument), result(argument)
	trees := rowsIn(first)
	for at := range trees {
		wipe(trees[at : at+1 : at+1])
		if !equalRows(trees[at+1:], rowsIn(want)[at+1:]) {
			t.Fatalf("of a desk after %v, tree %d shares memory with one behind it", d, at)
		}
	}
	clear(first.Past[:cap(first.Past)])
	checkDeskStays(t, argument, d)
	if !equalDesks(other, want) || !equalDesks(result(argument), want) {
		t.Fatalf("a desk after %v is %v, or it shares memory with another result", d, other)
	}
}

func TestP50DesksAfterDeedsAreNew(t *testing.T) {
	for _, d := range sampleDesks() {
		for _, a := range []impl.Deed{{Kind: impl.DkHead, A: 2, B: 1}, {Kind: impl.DkAdd, A: 1}, {Kind: impl.DkDrop}, {Kind: impl.DkTurn}, {Kind: impl.DkFlat}, {Kind: impl.DkBack}, {Kind: impl.DkBack, A: 1}, {Kind: 6}} {
			checkNewDesk(t, d, func(d impl.Desk) impl.Desk {
				after, _ := impl.DeskDo(d, a)
				return after
			})
		}
	}
}

func TestP51DesksAfterRunsAreNew(t *testing.T) {
	for seed, d := range sampleDesks() {
		for _, list := range [][]impl.Deed{nil, {{Kind: -1}}, {{Kind: impl.DkBack}}, mixedDeeds(impl.MaxLines, uint64(seed))} {
			checkNewDesk(t, d, func(d impl.Desk) impl.Desk {
				after, _ := impl.DeskRun(d, list)
				return after
			})
		}
	}
}

func TestP53DesksAfterLinesAreNew(t *testing.T) {
	for seed, d := range sampleDesks() {
		for _, lines := range [][]string{nil, {""}, {"heads"}, {"back"}, linesOf(mixedDeeds(14+seed%7, uint64(seed)))} {
			checkNewDesk(t, d, func(d impl.Desk) impl.Desk {
				after, _ := impl.DeskSay(d, lines)
				return after
			})
		}
	}
}

func TestP59DesksAfterALineAreNew(t *testing.T) {
	for _, d := range sampleDesks() {
		for _, line := range append(questionWords(), "", "yield 1", "yield 9", "drop", "turn", "flat", "back", "add 1", "add 9", "head 2 1") {
			checkNewDesk(t, d, func(d impl.Desk) impl.Desk {
				after, _ := impl.DeskLine(d, line)
				return after
			})
		}
	}
}

func TestDesksLeaveTheirArguments(t *testing.T) {
	list := slices.Concat(mixedDeeds(20, 3), []impl.Deed{{Kind: 6}, {Kind: impl.DkAdd, A: 100}})
	lines := linesOf(list)
	roomyList, roomyLines := append(slices.Clone(list), impl.Deed{Kind: 77}), append(slices.Clone(lines), "behind")
	for _, d := range slices.Concat(sampleDesks(), []impl.Desk{{}, {Now: []int{2, 1}, Past: pastOf(3)}, {Now: []int{0}, Past: [][]int{{0, 0}}}, {Now: []int{0}, Past: pastOf(impl.MaxPast + 1)}}) {
		argument := roomyDesk(d)
		impl.DeskOk(argument)
		impl.DeskNew(argument.Now)
		for _, a := range list {
			impl.DeskDo(argument, a)
		}
		for _, line := range lines {
			impl.DeskLine(argument, line)
		}
		impl.DeskRun(argument, roomyList[:len(list)])
		impl.JournalText(roomyList[:len(list)])
		_, answers := impl.DeskSay(argument, roomyLines[:min(len(lines), impl.MaxLines)])
		clear(answers[:cap(answers)])
		checkDeskStays(t, argument, d)
	}
	if !slices.Equal(roomyList[:len(list)], list) || roomyList[len(list)] != (impl.Deed{Kind: 77}) || !slices.Equal(roomyLines[:len(lines)], lines) || roomyLines[len(lines)] != "behind" {
		t.Errorf("deeds are %v, and lines %q", roomyList, roomyLines)
	}
}
