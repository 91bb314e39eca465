package rows

import (
	"slices"
	"testing"

	"twoslot/api"
)

const spare = 20 // places behind the end of what is roomy

// roomy has spare room, in which numbers stand that nobody may change.
func roomy(l []int) []int {
	return append(slices.Clone(l), slices.Repeat([]int{77}, spare)...)[:len(l)]
}

// untouched tells whether a roomy list is as it was, its spare room with it.
func untouched(l, was []int) bool {
	return len(l) == len(was) && slices.Equal(l[:len(l)+spare], append(slices.Clone(was), slices.Repeat([]int{77}, spare)...))
}

// spoil writes behind the end of a list, and into all of it, its spare room with it.
func spoil(l []int, with int) {
	_ = append(l, with, with, with)
	l = l[:cap(l)]
	for i := range l {
		l[i] = with
	}
}

// answers are all lists that the calls answered.
type answers [4][]int

// answered makes all calls, none of which may be refused.
func answered(t *testing.T, p api.Params, free, l []int, n int) answers {
	t.Helper()
	left, err := Free(p, free)
	well(t, p, err)
	taken, rest, err := Take(p, free, n)
	well(t, p, err)
	all, err := Give(p, free, l)
	well(t, p, err)
	return answers{left, taken, rest, all}
}

// wanted are these lists as the document says them.
func wanted(p api.Params, free, l []int, n int) answers {
	left, _ := wantFree(p, free)
	taken, rest, _ := wantTake(p, free, n)
	all, _ := wantGive(p, free, l)
	return answers{left, taken, rest, all}
}

func (a answers) same(b answers) bool {
	return slices.EqualFunc(a[:], b[:], slices.Equal[[]int])
}

// remembering calls visit with two lists that have no row in common, and with how many to take of the first one.
func remembering(visit func(p api.Params, free, l []int, n int)) {
	throw := dice(9)
	for _, p := range few() {
		for _, free := range lists(p) {
			others, _ := wantFree(p, free)
			for _, l := range [][]int{others, nil, others[:len(others)/2], others[len(others)/2:]} {
				for _, n := range []int{0, 1, len(free) / 2, len(free) - 1, len(free), throw.below(len(free) + 1)} {
					if n >= 0 && n <= len(free) {
						visit(p, free, l, n)
					}
				}
			}
		}
	}
}

func TestP20_4OnlyReads(t *testing.T) {
	remembering(func(p api.Params, was, others []int, n int) {
		free, l := roomy(was), roomy(others)
		if a := answered(t, p, free, l, n); !a.same(wanted(p, was, others, n)) {
			t.Fatalf("%v: of %v and %v the answers are %v", p, was, others, a)
		}
		if !untouched(free, was) || !untouched(l, others) {
			t.Fatalf("%v: a call changes %v or %v", p, was, others)
		}
	})
}

// Rows in any order are not sorted where they stand.
func TestP20_4RowsInAnyOrderAreOnlyRead(t *testing.T) {
	every(func(p api.Params) {
		for _, was := range anyLists(p) {
			used := roomy(was)
			well(t, p, checkFree(t, p, used))
			if !untouched(used, was) {
				t.Fatalf("%v: Free changes %v", p, was)
			}
		}
	})
}

func TestP20_4WrongInputsAreOnlyRead(t *testing.T) {
	for _, p := range few() {
		for _, all := range wrongLists(p) {
			for _, was := range all {
				l, right := roomy(was), roomy([]int{1, 2})
				Free(p, l)
				Take(p, l, 1)
				Take(p, right, -1)
				Take(p, right, 3)
				Give(p, l, right)
				Give(p, right, l)
				Give(p, right, right)
				Free(api.Params{}, l)
				if !untouched(l, was) || !untouched(right, []int{1, 2}) {
					t.Fatalf("%v: a call that is refused changes the %d rows %v", p, len(was), short(was))
				}
			}
		}
	}
}

func TestP20_4LaterWritesIntoWhatWasHandedIn(t *testing.T) {
	remembering(func(p api.Params, was, others []int, n int) {
		free, l := roomy(was), roomy(others)
		a := answered(t, p, free, l, n)
		spoil(free, 5)
		spoil(l, 6)
		if !a.same(wanted(p, was, others, n)) {
			t.Fatalf("%v: a write into %v or %v changes an answer", p, was, others)
		}
	})
}

// A write into one list that is answered, and behind its end, changes no other one, neither of that call nor of another, nor what was handed in.
func TestP20_4WritesIntoAnswers(t *testing.T) {
	remembering(func(p api.Params, was, others []int, n int) {
		free, l, want := roomy(was), roomy(others), wanted(p, was, others, n)
		kept, a := answered(t, p, free, l, n), answered(t, p, free, l, n)
		for i := range a {
			spoil(a[i], 5)
			want[i] = slices.Repeat([]int{5}, len(want[i]))
			if !a.same(want) {
				t.Fatalf("%v: a write into the list %d of the answers changes another one", p, i)
			}
		}
		if !untouched(free, was) || !untouched(l, others) {
			t.Fatalf("%v: a write into an answer changes %v or %v", p, was, others)
		}
		want = wanted(p, was, others, n)
		if !kept.same(want) || !answered(t, p, free, l, n).same(want) {
			t.Fatalf("%v: a write into an answer changes another call's", p)
		}
	})
}

// What is put behind the end of one list stands in no other one, nor behind what was handed in.
func TestP20_4Appends(t *testing.T) {
	remembering(func(p api.Params, was, others []int, n int) {
		free, l := roomy(was), roomy(others)
		a := answered(t, p, free, l, n)
		var longer answers
		for i := range a {
			longer[i] = append(a[i], 100+i, 200+i)
		}
		for i := range longer {
			if !slices.Equal(longer[i], append(slices.Clone(a[i]), 100+i, 200+i)) {
				t.Fatalf("%v: two lists share the room behind their ends", p)
			}
		}
		if !a.same(wanted(p, was, others, n)) || !untouched(free, was) || !untouched(l, others) {
			t.Fatalf("%v: an append to an answer changes another list", p)
		}
	})
}

// Lists that stand within one memory, one behind the other or one within the other, are read likewise.
func TestP20_4WithinOneMemory(t *testing.T) {
	for _, p := range few() {
		all := upTo(0, p.Rows)
		was := slices.Clone(all)
		for at := 0; at <= p.Rows; at += 1 + p.Rows/9 {
			for _, two := range [][2][]int{{all[:at], all[at:]}, {all[at:], all[:at]}} {
				a := answered(t, p, two[0], two[1], len(two[0])/2)
				if !a.same(wanted(p, slices.Clone(two[0]), slices.Clone(two[1]), len(two[0])/2)) {
					t.Fatalf("%v: two pieces of one memory, cut at %d, are answered by %v", p, at, a)
				}
				for _, l := range a {
					spoil(l, 5)
				}
			}
			if at > 0 {
				refusedGive(t, p, all, all[:at], api.ErrRows)
				refusedGive(t, p, all[:at], all, api.ErrRows)
			}
		}
		if !slices.Equal(all, was) {
			t.Fatalf("%v: a call, or a write into an answer, changes what was handed in", p)
		}
	}
}

// A list without rows may be nil or not, whatever stands behind its end.
func TestP20_4NilOrNot(t *testing.T) {
	for _, p := range few() {
		for _, none := range [][]int{nil, {}, make([]int, 0, 9), roomy(nil), make([]int, 300)[:0]} {
			well(t, p, checkFree(t, p, none))
			well(t, p, checkTake(t, p, none, 0))
			refusedTake(t, p, none, 1, api.ErrFull)
			for _, l := range lists(p) {
				well(t, p, checkGive(t, p, none, l))
				well(t, p, checkGive(t, p, l, none))
			}
			well(t, p, checkGive(t, p, none, none))
		}
	}
}

// What was asked earlier changes no answer, nor does the order in which a map is gone through.
func TestP20_4NothingIsKept(t *testing.T) {
	remembering(func(p api.Params, free, l []int, n int) {
		want := answered(t, p, free, l, n)
		answered(t, exampleP(), []int{1, 2, 5}, []int{0, 7}, 2)
		answered(t, few()[4], upTo(0, 200), nil, 77)
		Free(p, []int{p.Rows})
		Give(p, []int{1}, []int{1})
		if !answered(t, p, free, l, n).same(want) {
			t.Fatalf("%v: what is asked again is answered otherwise", p)
		}
	})
}
