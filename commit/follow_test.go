package commit

import (
	"slices"
	"testing"

	"twoslot/api"
)

// committed calls visit with rows in which all drives hold the winner 5, as cells of one stripe, and no slot has a greater version; with the old descriptor.
func committed(p api.Params, visit func(r known, old api.Desc)) {
	n := p.K + p.R
	all := upTo(0, n)
	for i, old := range descs(p) {
		data := wantBytes(p, old)
		visit(blank(p).having(p, i%2, 2, 5, data, all...), old)
		switch i {
		case 1:
			visit(blank(p).having(p, 0, 2, 5, data, all...).holding(p, 1, 4, all...), old)
			visit(blank(p).having(p, 1, 2, 5, data, all...).holding(p, 0, 3, all...), old)
		case 3:
			visit(blank(p).having(p, 0, 2, 5, data, all...).holding(p, 1, 4, upTo(0, p.K-1)...), old)
			visit(blank(p).having(p, 0, 2, 5, data, all...).having(p, 1, 1, 5, data, all...), old)
		}
	}
	turned := blank(p)
	old := descOf(p, measured(p).most, 3)
	for drive := range n {
		turned = turned.having(p, drive%2, 2, 5, wantBytes(p, old), drive)
	}
	visit(turned, old)
	for drive := range n {
		turned[drive][1-drive%2] = noSlots(p, drive)[drive%8]
	}
	visit(turned, old)
}

// Behind fewer than K raw writes it is the old descriptor, behind K and more the new one.
func TestP16_5BeforeOrAfter(t *testing.T) {
	for _, p := range few() {
		committed(p, func(r known, old api.Desc) {
			for i, d := range descs(p) {
				version := []int{6, 7, most}[i%3]
				puts := checkPuts(t, p, r, i%p.Rows, version, d)
				for made := range len(puts) + 1 {
					now := r.behind(p, puts[:made])
					if made < p.K {
						tells(t, p, now, old, 5, api.OK)
					} else {
						tells(t, p, now, d, version, api.OK)
					}
				}
			}
		})
	}
}

// When at most R drives are wiped then it is the one or the other; the new one just if K drives have it that are not wiped.
func TestP16_5WipedThen(t *testing.T) {
	t.Parallel()
	for _, p := range few() {
		n := p.K + p.R
		old, d := descOf(p, measured(p).most, 5), descOf(p, measured(p).width+1, 6)
		data, all := wantBytes(p, old), upTo(0, n)
		for i, r := range []known{
			blank(p).having(p, 0, 2, 5, data, all...),
			blank(p).having(p, 1, 2, 5, data, all...).holding(p, 0, 4, all...),
		} {
			if n > 12 && i > 0 {
				continue // the choices of 4 of 16 are many
			}
			puts := checkPuts(t, p, r, 1, 8, d)
			for made := range len(puts) + 1 {
				now := r.behind(p, puts[:made])
				wipes(p, func(wiped []int) {
					left := 0
					for drive := range made {
						if !slices.Contains(wiped, drive) {
							left++
						}
					}
					if left >= p.K {
						tells(t, p, now.without(wiped...), d, 8, api.OK)
					} else {
						tells(t, p, now.without(wiped...), old, 5, api.OK)
					}
				})
			}
		}
	}
}

// Where drives are wiped ahead of the call, or while its raw writes are made, one is told as long as at most R were.
func TestP16_5WipedWhileTheyAreMade(t *testing.T) {
	for _, p := range few() {
		n := p.K + p.R
		old, d := descOf(p, measured(p).most, 5), descOf(p, measured(p).width+1, 6)
		r := blank(p).having(p, 0, 2, 5, wantBytes(p, old), upTo(0, n)...)
		for first := range n {
			var wiped []int
			for i := range p.R {
				wiped = append(wiped, (first+i)%n)
			}
			for at := range n + 1 {
				puts := checkPuts(t, p, r, 1, 8, d)
				now := r.behind(p, puts[:at]).without(wiped...)
				for made := at; made <= n; made++ {
					now = now.behind(p, puts[at:made])
					got, version, err := Read(p, now.row())
					if err != api.OK || !(version == 5 && sameDesc(got, old) || version == 8 && sameDesc(got, d)) {
						t.Fatalf("%v: %v wiped behind %d raw writes, behind %d Read is %s, %d, %d", p, wiped, at, made, toldDesc(got), version, err)
					}
				}
			}
		}
	}
}

// One descriptor behind the other: each is told from its K-th raw write on.
func TestP16_5OneBehindTheOther(t *testing.T) {
	for _, p := range few() {
		r, old, was := blank(p), api.Desc{}, 0
		for turn, d := range append(descs(p), descs(p)...) {
			version := was + 1 + turn%3
			puts := checkPuts(t, p, r, turn%p.Rows, version, d)
			for made := range len(puts) + 1 {
				now := r.behind(p, puts[:made])
				switch {
				case made >= p.K:
					tells(t, p, now, d, version, api.OK)
				case was == 0:
					tells(t, p, now, api.Desc{}, 0, api.ErrLost)
				default:
					tells(t, p, now, old, was, api.OK)
				}
			}
			r, old, was = r.behind(p, puts), d, version
		}
	}
}

// A descriptor that was begun and not committed is written over by the next one; the old one is told till then.
func TestP16_5BegunAndNotCommitted(t *testing.T) {
	for _, p := range few() {
		n := p.K + p.R
		old, d := descOf(p, measured(p).most, 5), descOf(p, measured(p).width+1, 6)
		r := blank(p).having(p, 0, 2, 5, wantBytes(p, old), upTo(0, n)...)
		for begun := range p.K {
			now := r.behind(p, checkPuts(t, p, r, 1, 6, descOf(p, 1, 9))[:begun])
			puts := checkPuts(t, p, now, 1, 7, d)
			for made := range n + 1 {
				if made < p.K {
					tells(t, p, now.behind(p, puts[:made]), old, 5, api.OK)
				} else {
					tells(t, p, now.behind(p, puts[:made]), d, 7, api.OK)
				}
			}
		}
	}
}

// allHold tells that all drives hold a version, and that it is told, whichever R drives are wiped.
func allHold(t *testing.T, p api.Params, r known, version int, d api.Desc) {
	t.Helper()
	if many := len(r.holders(version)); many != p.K+p.R {
		t.Fatalf("%v: %d drives hold %d in%s", p, many, version, r.told())
	}
	wipes(p, func(wiped []int) { tells(t, p, r.without(wiped...), d, version, api.OK) })
}

// Behind K and more raw writes of Puts the raw writes of Finish are those that were not made; while they are made Read tells the same.
func TestP16_6BehindPuts(t *testing.T) {
	t.Parallel()
	for _, p := range few() {
		n := p.K + p.R
		d := descOf(p, measured(p).width+1, 6)
		for _, r := range []known{blank(p), blank(p).holding(p, 0, 5, upTo(0, n)...)} {
			puts := checkPuts(t, p, r, 1, 8, d)
			for made := p.K; made <= n; made++ {
				now := r.behind(p, puts[:made])
				left := checkFinish(t, p, now, 1)
				if !samePuts(left, puts[made:]) {
					t.Fatalf("%v: behind %d raw writes Finish is %v, want %v", p, made, left, puts[made:])
				}
				for i := range len(left) + 1 {
					tells(t, p, now.behind(p, left[:i]), d, 8, api.OK)
				}
				allHold(t, p, now.behind(p, left), 8, d)
			}
		}
	}
}

// Behind each number of raw writes of Finish, and each choice of at most R drives wiped then, it is the winner just if K drives have it that are not wiped; else the runner, which stayed.
func TestP16_6WipedWhileTheyAreMade(t *testing.T) {
	t.Parallel()
	for _, p := range few() {
		n := p.K + p.R
		old, d := descOf(p, measured(p).most, 5), descOf(p, measured(p).width+1, 6)
		r := blank(p).having(p, 0, 2, 5, wantBytes(p, old), upTo(0, n)...).having(p, 1, 2, 8, wantBytes(p, d), upTo(p.R, n)...)
		left := checkFinish(t, p, r, 1)
		for made := range len(left) + 1 {
			now := r.behind(p, left[:made])
			wipes(p, func(wiped []int) {
				has := p.K + made
				for _, drive := range wiped {
					if drive < made || drive >= p.R {
						has--
					}
				}
				if has >= p.K {
					tells(t, p, now.without(wiped...), d, 8, api.OK)
				} else {
					tells(t, p, now.without(wiped...), old, 5, api.OK)
				}
			})
		}
	}
}

// Behind a wipe of each choice of at most R drives it mends these; cut anywhere and made anew it comes to the same.
func TestP16_6BehindWipes(t *testing.T) {
	t.Parallel()
	for _, p := range few() {
		n := p.K + p.R
		d := descOf(p, measured(p).most, 7)
		r := blank(p).having(p, 0, 2, 8, wantBytes(p, d), upTo(0, n)...).holding(p, 1, 5, upTo(0, n)...)
		wipes(p, func(wiped []int) {
			if n > 12 && len(wiped) > 2 && wiped[1]-wiped[0] > 2 {
				return // the choices of 4 of 16 are many
			}
			now := r.without(wiped...)
			left := checkFinish(t, p, now, 0)
			if len(left) != len(wiped) {
				t.Fatalf("%v: %v wiped Finish is %v", p, wiped, left)
			}
			for cut := range len(left) + 1 {
				half := now.behind(p, left[:cut])
				tells(t, p, half, d, 8, api.OK)
				if again := checkFinish(t, p, half, 0); !samePuts(again, left[cut:]) {
					t.Fatalf("%v: made anew behind %d raw writes Finish is %v", p, cut, again)
				}
			}
			whole := now.behind(p, left)
			if len(whole.holders(8)) != n || len(checkFinish(t, p, whole, 0)) != 0 {
				t.Fatalf("%v: %v wiped behind Finish%s", p, wiped, whole.told())
			}
		})
		allHold(t, p, r, 8, d)
	}
}

// The descriptor is once shown, and then finished: it stays so where R drives are wiped behind each raw write, and where the next ones are begun.
func TestP16_6OnceShown(t *testing.T) {
	for _, p := range few() {
		n := p.K + p.R
		d := descOf(p, measured(p).most, 7)
		r := blank(p).holding(p, 0, 5, upTo(0, n)...)
		now := r.behind(p, checkPuts(t, p, r, 2, 8, d)[:p.K])
		tells(t, p, now, d, 8, api.OK)
		now = now.behind(p, checkFinish(t, p, now, 2))
		allHold(t, p, now, 8, d)
		next := checkPuts(t, p, now, 2, 9, byVersion(p, 9))
		for made := range p.K {
			tells(t, p, now.behind(p, next[:made]), d, 8, api.OK)
			half := now.behind(p, next[:made]).without(upTo(0, p.R)...)
			tells(t, p, half, d, 8, api.OK)
			half = half.behind(p, checkFinish(t, p, half, 2))
			if n <= 12 {
				allHold(t, p, half, 8, d)
			}
		}
	}
}

// In every small row, whoever holds which versions: behind Finish all drives hold the winner, and Read tells it meanwhile.
func TestP16_6EverySmallRow(t *testing.T) {
	smallRows(func(p api.Params, r known) {
		winner := r.winner(p)
		if winner == 0 {
			return
		}
		d := byVersion(p, winner)
		left := checkFinish(t, p, r, 3)
		for made := range len(left) + 1 {
			tells(t, p, r.behind(p, left[:made]), d, winner, api.OK)
		}
		allHold(t, p, r.behind(p, left), winner, d)
	})
}
