package name

import (
	"slices"
	"testing"
)

const spare = 20 // places behind the end of what is roomy

// roomy has spare room, in which texts stand that nobody may change.
func roomy(l []string) []string {
	return append(slices.Clone(l), slices.Repeat([]string{"spare"}, spare)...)[:len(l)]
}

// untouched tells whether a roomy list is as it was, its spare room with it.
func untouched(l, was []string) bool {
	return len(l) == len(was) && slices.Equal(l[:len(l)+spare], append(slices.Clone(was), slices.Repeat([]string{"spare"}, spare)...))
}

// spoil writes behind the end of a list, and into all of it, its spare room with it.
func spoil(l []string, with string) {
	_ = append(l, with, with, with)
	l = l[:cap(l)]
	for i := range l {
		l[i] = with
	}
}

// lists are such as may be: in their row already, falling, with names several times, of no name.
func lists() [][]string {
	row, _ := wantSort(plain())
	fall := slices.Clone(row)
	slices.Reverse(fall)
	made := [][]string{nil, {}, {"a"}, {"a", "a"}, {"a", "b"}, {"b", "a", "ab", "a"}, {"c", "c", "b", "b", "a", "a"}, row, fall, plain(), slices.Concat(row, row)}
	throw := dice(8)
	for range 50 {
		made = append(made, thrown(throw.below(60), &throw))
	}
	return made
}

func TestP21_4OnlyReads(t *testing.T) {
	for _, was := range lists() {
		l := roomy(was)
		checkSort(t, l)
		if !untouched(l, was) {
			t.Fatalf("Sort changes %q", was)
		}
	}
}

func TestP21_4WrongListsAreOnlyRead(t *testing.T) {
	for _, was := range [][]string{{"b", "a", ""}, {"", "b", "a"}, {"b", "b", "a", wrongNames()[1]}, slices.Repeat([]string{"b", "a"}, greatest)} {
		l := roomy(was)
		if _, err := Sort(l); err == 0 || !untouched(l, was) {
			t.Fatalf("Sort of %d texts, one of them wrong or all of them too many, tells %d, or changes them", len(was), err)
		}
	}
}

func TestP21_4LaterWritesIntoWhatWasHandedIn(t *testing.T) {
	for _, was := range lists() {
		l := roomy(was)
		row, _ := Sort(l)
		spoil(l, "other")
		if want, _ := wantSort(was); !slices.Equal(row, want) {
			t.Fatalf("a write into %q changes the answer to %q", was, row)
		}
	}
}

func TestP21_4WritesIntoAnswers(t *testing.T) {
	for _, was := range lists() {
		l := roomy(was)
		kept, _ := Sort(l)
		row, _ := Sort(l)
		spoil(row, "other")
		later, _ := Sort(l)
		want, _ := wantSort(was)
		if !untouched(l, was) || !slices.Equal(kept, want) || !slices.Equal(later, want) {
			t.Fatalf("a write into an answer, or behind its end, changes %q, or an answer to it", was)
		}
	}
}

// What is put behind the end of one answer stands in no other one.
func TestP21_4Appends(t *testing.T) {
	for _, was := range lists() {
		first, _ := Sort(was)
		second, _ := Sort(was)
		want, _ := wantSort(was)
		longer, other := append(first, "1"), append(second, "2")
		if !slices.Equal(longer, append(slices.Clone(want), "1")) || !slices.Equal(other, append(slices.Clone(want), "2")) {
			t.Fatalf("two answers to %q share the room behind their ends", was)
		}
	}
}

// A text that a list's memory holds elsewhere is not met: lists that are pieces of one memory are read likewise.
func TestP21_4PiecesOfOneMemory(t *testing.T) {
	whole := plain()
	was := slices.Clone(whole)
	for from := range whole {
		for _, to := range []int{from, from + 1, len(whole) - 1, len(whole)} {
			if from <= to {
				checkSort(t, whole[from:to])
			}
		}
	}
	if !slices.Equal(whole, was) {
		t.Fatal("Sort of a piece of a list changes the list")
	}
}

// The bytes from which a text was made may become others: texts are read where they are handed in.
func TestP21_4TextsOfBytesThatChange(t *testing.T) {
	for _, s := range names() {
		bytes := []byte(s)
		text, _ := Quote(string(bytes))
		quoted := []byte(text)
		read, _, err := Plain(string(quoted))
		row, _ := Sort([]string{string(bytes)})
		clear(bytes)
		clear(quoted)
		if want, _ := wantQuote(s); text != want || read != s || err != 0 || !slices.Equal(row, []string{s}) {
			t.Fatalf("the answers to %q become %s, %q, %q", s, text, read, row)
		}
	}
}

// What was asked earlier changes no answer.
func TestP21_4NothingIsKept(t *testing.T) {
	shown := backwards()
	for _, s := range slices.Concat(plain(), wrongNames()) {
		text, _ := wantQuote(s)
		for range 2 {
			checkCheck(t, s)
			checkBucket(t, s)
			checkQuote(t, s)
			checkPlain(t, shown, text)
			checkPlain(t, shown, text+" ")
			checkPlain(t, shown, s)
			checkSort(t, []string{"b", s, "a", s})
			checkLess(t, s, "k")
			checkLess(t, "k", s)
		}
	}
}
