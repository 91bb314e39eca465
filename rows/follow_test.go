package rows

import (
	"slices"
	"testing"

	"twoslot/api"
)

// sorted is a list rising, each once.
func sorted(l []int) []int {
	made := slices.Clone(l)
	slices.Sort(made)
	return slices.Compact(made)
}

// free is Free's answer, which may not be refused.
func free(t *testing.T, p api.Params, used []int) []int {
	t.Helper()
	l, err := Free(p, used)
	well(t, p, err)
	return l
}

// anyLists are lists that may be, and lists that name rows in any order and often.
func anyLists(p api.Params) [][]int {
	all := lists(p)
	throw := dice(p.Rows)
	for _, many := range []int{1, 2, 3, p.Rows, 3 * p.Rows} {
		l := make([]int, many)
		for i := range l {
			l[i] = throw.below(p.Rows)
		}
		all = append(all, l, falling(l))
	}
	return all
}

// Free of what Free told is what was used.
func TestP20_5FreeOfFree(t *testing.T) {
	every(func(p api.Params) {
		for _, used := range anyLists(p) {
			if l := free(t, p, free(t, p, used)); !slices.Equal(l, sorted(used)) {
				t.Fatalf("%v: Free of what Free told of %v is %v", p, used, l)
			}
		}
	})
}

func TestP20_5FreeOfFreeOfEight(t *testing.T) {
	p := exampleP()
	for bits := range 256 {
		used := ofBits(bits)
		for _, l := range [][]int{used, falling(used), slices.Concat(used, used)} {
			if l := free(t, p, free(t, p, l)); !slices.Equal(l, used) {
				t.Fatalf("Free of what Free told of %v is %v", used, l)
			}
		}
	}
}

// What Free told and what was used are all rows.
func TestP20_5GiveOfWhatIsUsed(t *testing.T) {
	every(func(p api.Params) {
		for _, used := range lists(p) {
			l, err := Give(p, free(t, p, used), used)
			if !alike(l, upTo(0, p.Rows), err, 0) {
				t.Fatalf("%v: Give of the used rows %v to the free ones is %v, %d", p, used, l, err)
			}
		}
	})
}

// sets calls visit with every set of eight rows, and with lists of other parameters.
func sets(visit func(p api.Params, free []int)) {
	for bits := range 256 {
		visit(exampleP(), ofBits(bits))
	}
	for _, p := range few() {
		for _, l := range lists(p) {
			visit(p, l)
		}
	}
}

// Give of what Take took to what it left is what there was, and so is Give of what it left to what it took.
func TestP20_5GiveOfTake(t *testing.T) {
	sets(func(p api.Params, free []int) {
		for n := range len(free) + 1 {
			taken, rest, err := Take(p, free, n)
			well(t, p, err)
			if l, err := Give(p, rest, taken); !alike(l, free, err, 0) {
				t.Fatalf("%v: Give of %v, taken of %v, is %v, %d", p, taken, free, l, err)
			}
			if l, err := Give(p, taken, rest); !alike(l, free, err, 0) {
				t.Fatalf("%v: Give of %v, left of %v, is %v, %d", p, rest, free, l, err)
			}
		}
	})
}

// Take of n, and then of m, is Take of both together; and they are refused together.
func TestP20_5TakeOfTwo(t *testing.T) {
	sets(func(p api.Params, free []int) {
		many := len(free)
		for n := 0; n <= many; n += 1 + many/20 {
			first, left, err := Take(p, free, n)
			well(t, p, err)
			for m := 0; m <= many+1; m += 1 + many/20 {
				second, rest, err := Take(p, left, m)
				both, others, err2 := Take(p, free, n+m)
				if err != err2 || (err == api.OK) != (n+m <= many) {
					t.Fatalf("%v: of %d rows Take of %d and of %d is %d, of both together %d", p, many, n, m, err, err2)
				}
				if err == api.OK && (!slices.Equal(slices.Concat(first, second), both) || !slices.Equal(rest, others)) {
					t.Fatalf("%v: of %v Take of %d and of %d is %v and %v, of both together %v", p, free, n, m, first, second, both)
				}
			}
		}
	})
}

// Rows are taken and given back again and again: what is free and what is taken stay all rows, and the least are taken.
func TestP20_5TakenAndGivenBack(t *testing.T) {
	throw := dice(5)
	for _, p := range few() {
		left := free(t, p, nil)
		used := map[int]bool{}
		for range 300 {
			var err api.Errno
			if n := throw.below(5); throw.below(2) == 0 && n <= len(left) {
				var taken []int
				taken, left, err = Take(p, left, n)
				for _, row := range taken {
					used[row] = true
				}
			} else {
				var back []int
				for row := range p.Rows {
					if used[row] && throw.below(4) == 0 {
						back = append(back, row)
						delete(used, row)
					}
				}
				left, err = Give(p, left, back)
			}
			well(t, p, err)
			for row := range p.Rows {
				if used[row] == names(left, row) {
					t.Fatalf("%v: the row %d is free and used, or neither", p, row)
				}
			}
		}
	}
}
