package recover

import (
	"bytes"
	"maps"
	"slices"
	"testing"

	"twoslot/api"
	"twoslot/commit"
	"twoslot/dir"
	"twoslot/edit"
	"twoslot/image"
	"twoslot/live"
	"twoslot/object"
	"twoslot/rows"
	"twoslot/stripe"
)

// hand is a store that is written by hand, with the calls of the layers below alone: what it holds, and what it shows.
type hand struct {
	t       *testing.T
	m       api.Image
	entries [buckets][]api.Entry
	bytes   map[string]string
}

// shows tells whether an image shows just this directory, and its objects' bytes.
func (h *hand) shows(m api.Image) bool {
	h.t.Helper()
	for bucket, want := range h.entries {
		l, err := live.Entries(m, bucket)
		if err != api.OK {
			h.t.Fatalf("%v: the bucket %d is refused: %d", m.P, bucket, err)
		}
		if !slices.Equal(l, want) {
			return false
		}
		for _, x := range want {
			if b, err := object.Bytes(m, x.Row); string(b) != h.bytes[x.Name] || err != api.OK {
				return false
			}
		}
	}
	return true
}

// formatted is an empty store.
func formatted(t *testing.T, p api.Params) hand {
	t.Helper()
	m, _ := image.Blank(p)
	write := func(l []api.Put, err api.Errno) {
		if err != api.OK {
			t.Fatalf("the raw writes are refused: %d", err)
		}
		m = behind(m, l...)
	}
	blanks := make([]api.Pair, p.K+p.R)
	for row := 1; row <= buckets; row++ {
		write(commit.Puts(p, blanks, row, 1, api.Desc{}))
	}
	b, _ := dir.Root(p, []int{1, 2, 3, 4})
	write(stripe.Full(p, blanks, 5, api.KindData, 0, 1, append(b, make([]byte, p.K*p.Cell-len(b))...)))
	write(commit.Puts(p, blanks, 0, 1, api.Desc{Length: 8, Refs: []api.Ref{{Row: 5, Version: 1}}}))
	return hand{t: t, m: m, bytes: map[string]string{}}
}

// clone shares nothing that is changed.
func (h *hand) clone() hand {
	now := *h
	now.bytes = maps.Clone(h.bytes)
	return now
}

// free are the rows that are not in use.
func (h *hand) free() []int {
	used, err1 := live.Rows(h.m)
	free, err2 := rows.Free(h.m.P, used)
	if err1 != api.OK || err2 != api.OK {
		h.t.Fatalf("%v: the free rows are refused: %d, %d", h.m.P, err1, err2)
	}
	return free
}

// create makes an object: the raw writes, and what is shown behind them; none, if no rows are free.
func (h *hand) create(name string) ([]api.Put, hand) {
	h.t.Helper()
	version, _ := live.Next(h.m)
	_, at, _, _ := live.Find(h.m, name)
	free := h.free()
	if len(free) < 1 {
		return nil, *h
	}
	now, bucket := h.clone(), bucketOf(name)
	now.entries[bucket] = put(h.entries[bucket], entry(name, free[0]))
	now.bytes[name] = ""
	pairs, _ := image.Row(h.m, free[0])
	first, err1 := commit.Puts(h.m.P, pairs, free[0], version, api.Desc{})
	second, _, _, err2 := edit.Whole(h.m, at, free[1:], version, asBytes(now.entries[bucket]))
	if err1 != api.OK || err2 != api.OK && err2 != api.ErrFull {
		h.t.Fatalf("%v: Create of %q is refused: %d, %d", h.m.P, name, err1, err2)
	}
	if err2 != api.OK {
		return nil, *h
	}
	return slices.Concat(first, second), now
}

// write gives an object these bytes from a place on.
func (h *hand) write(name string, off int, data []byte) ([]api.Put, hand) {
	h.t.Helper()
	version, _ := live.Next(h.m)
	at, _, is, _ := live.Find(h.m, name)
	if !is {
		h.t.Fatalf("%v: %q is not found", h.m.P, name)
	}
	now := h.clone()
	was := h.bytes[name]
	b := append([]byte(was), make([]byte, max(0, off+len(data)-len(was)))...)
	copy(b[off:], data)
	now.bytes[name] = string(b)
	l, _, _, err := edit.Set(h.m, at, h.free(), version, len(b), off, data)
	if err != api.OK && err != api.ErrFull {
		h.t.Fatalf("%v: Write of %q is refused: %d", h.m.P, name, err)
	}
	if err != api.OK {
		return nil, *h
	}
	return l, now
}

// remove takes an entry away.
func (h *hand) remove(name string) ([]api.Put, hand) {
	h.t.Helper()
	version, _ := live.Next(h.m)
	_, at, is, _ := live.Find(h.m, name)
	now, bucket := h.clone(), bucketOf(name)
	now.entries[bucket] = slices.DeleteFunc(slices.Clone(h.entries[bucket]), func(x api.Entry) bool { return x.Name == name })
	delete(now.bytes, name)
	l, _, _, err := edit.Whole(h.m, at, h.free(), version, asBytes(now.entries[bucket]))
	if !is || err != api.OK {
		h.t.Fatalf("%v: Delete of %q is refused: %v, %d", h.m.P, name, is, err)
	}
	return l, now
}

// call is some call: the raw writes, and what is shown behind them.
func (h *hand) call(throw *dice) ([]api.Put, hand) {
	h.t.Helper()
	p := h.m.P
	name := one(throw, []string{"a", "b", "ab", "\x00", "object", "e"})
	_, is := h.bytes[name]
	switch {
	case !is:
		return h.create(name)
	case throw.below(4) == 0:
		return h.remove(name)
	}
	width := measured(p).width
	off := min(len(h.bytes[name]), measured(p).most-width)
	return h.write(name, throw.below(off+1), some(1+throw.below(width), throw.below(1<<20)))
}

// point is how many raw writes of a call commit it.
func point(p api.Params, l []api.Put) int { return len(l) - p.R }

// Stores that the layers below write, call by call, each cut off ahead of each raw write: ahead of the commit nothing is to be finished, behind it just the raw writes that were not made; the opening is cut off in its turn.
func TestP24_4ByTheLayersBelow(t *testing.T) {
	t.Parallel()
	made, cuts := 0, 0
	for _, p := range few() {
		p.Rows = max(10, min(p.Rows, 24))
		throw := dice(p.K + 7*p.Cell)
		h := formatted(t, p)
		for range 10 {
			l, now := h.call(&throw)
			if len(l) == 0 {
				continue
			}
			made++
			for cut := range len(l) + 1 {
				m := behind(h.m, l[:cut]...)
				if cut < point(p, l) {
					answersWith(t, m, nil, api.OK, "ahead of the commit", cut)
					continue
				}
				answersWith(t, m, l[cut:], api.OK, "behind the commit", cut)
				if !now.shows(m) {
					t.Fatalf("%v: behind the commit another state is shown", p)
				}
				end := opens(t, m, 1)
				if !sameImage(end, behind(h.m, l...)) {
					t.Fatalf("%v: the opening comes to another image than the call", p)
				}
				cuts++
			}
			now.m = behind(h.m, l...)
			h = now
			answersWith(t, h.m, nil, api.OK, "behind a call")
		}
	}
	if made < 60 || cuts < 120 {
		t.Fatalf("%d calls were made, %d times one was cut off behind its commit", made, cuts)
	}
}

// Drives are wiped where a call was cut off: it shows the state ahead of it, or the one behind it; the opening, cut off at each place, keeps showing it, and behind it whichever drives are wiped up to R in all.
func TestP24_4WipedAtEachCut(t *testing.T) {
	t.Parallel()
	before, after := 0, 0
	for _, p := range few() {
		p.Rows = max(10, min(p.Rows, 16))
		n := p.K + p.R
		throw := dice(p.K + 3*p.Cell)
		h := formatted(t, p)
		for turn := range 5 {
			l, now := h.call(&throw)
			if len(l) == 0 {
				continue
			}
			for cut := range len(l) + 1 {
				if n > 3 && cut < point(p, l) && (cut+turn)%n > 0 {
					continue // the cuts and the choices are many
				}
				asked := throw.below(100)
				wipes(p, func(drives []int) {
					if asked++; n > 3 && asked%(3*n*n) > 0 {
						return
					}
					m := wiped(behind(h.m, l[:cut]...), drives...)
					state, other := &h, &now
					if now.shows(m) {
						state, other = &now, &h
						after++
					} else {
						before++
					}
					if !state.shows(m) || other.shows(m) && len(h.bytes) != len(now.bytes) {
						t.Fatalf("%v: cut off behind %d raw writes, %v wiped: neither state is shown, or both", p, cut, drives)
					}
					if cut < point(p, l) && state == &now && !h.shows(m) || cut == len(l) && state == &h {
						t.Fatalf("%v: cut off behind %d of %d raw writes, %v wiped, the wrong state is shown", p, cut, len(l), drives)
					}
					end := opens(t, m, sparse(p, 3), "cut", cut, "wiped", drives)
					all := slices.Clone(drives)
					for drive := 0; len(all) < p.R; drive++ {
						if !slices.Contains(all, (drive+cut)%n) {
							all = append(all, (drive+cut)%n)
						}
					}
					if !state.shows(end) || !state.shows(wiped(end, all...)) {
						t.Fatalf("%v: what an opening has shown is not shown with %v wiped", p, all)
					}
				})
			}
			now.m = behind(h.m, l...)
			h = now
		}
	}
	if before < 60 || after < 60 {
		t.Fatalf("%d times the state ahead was shown, %d times the one behind", before, after)
	}
}

// Series of calls that are cut off, of openings that are cut off, and of wipes of at most R drives, each over what the one ahead of it left.
func TestP24_4Series(t *testing.T) {
	t.Parallel()
	finished, lost := 0, 0
	for _, p := range few() {
		p.Rows = max(10, min(p.Rows, 20))
		n := p.K + p.R
		for seed := range 2 {
			throw := dice(100*seed + p.K)
			h := formatted(t, p)
			var drives []int // those that are ever wiped
			for i := range p.R {
				drives = append(drives, (seed+i)%n)
			}
			for turn := range 24 {
				l, now := h.call(&throw)
				cut := throw.below(len(l) + 1)
				if turn%3 == 0 {
					cut = len(l) - throw.below(min(len(l), p.R)+1)
				}
				m := behind(h.m, l[:cut]...)
				for range throw.below(4) {
					if p.R > 0 && throw.below(2) == 0 {
						m = wiped(m, one(&throw, drives))
					}
					puts, err := Plan(m)
					if err != api.OK {
						t.Fatalf("%v: in the turn %d Plan is refused: %d", p, turn, err)
					}
					m = behind(m, puts[:throw.below(len(puts)+1)]...)
				}
				if now.shows(m) {
					h.entries, h.bytes = now.entries, now.bytes
					finished++
				} else if !h.shows(m) {
					t.Fatalf("%v: in the turn %d, cut off behind %d of %d raw writes, it shows neither state", p, turn, cut, len(l))
				} else {
					lost++
				}
				h.m = opens(t, m, 10, "turn", turn)
				if !h.shows(h.m) || !h.shows(wiped(h.m, drives...)) {
					t.Fatalf("%v: in the turn %d what an opening has shown is not shown with %v wiped", p, turn, drives)
				}
				if throw.below(3) == 0 {
					h.m = opens(t, wiped(h.m, drives...), 20, "turn", turn, "wiped", drives)
				}
			}
		}
	}
	if finished < 100 || lost < 100 {
		t.Fatalf("%d calls were finished, %d were not", finished, lost)
	}
}

// What is read of a slot's bytes is the slot: so what was put in by hand is what the layers below tell.
func TestP24_4ModelsAgree(t *testing.T) {
	for _, p := range few() {
		p.Rows = min(p.Rows, 16)
		its := standing(p, 4)
		puts, _ := Plan(its.image())
		if a, b := its.behind(puts...).image(), behind(its.image(), puts...); !sameImage(a, b) {
			t.Fatalf("%v: the images behind raw writes are two", p)
		}
		check(t, its.behind(puts...))
		if !bytes.Equal(its.image().Slots[0], its.rows[0][0][0].bytes) {
			t.Fatalf("%v: the slot 0 is another one", p)
		}
	}
}
