package tree

import (
	"slices"
	"testing"

	"twoslot/api"
)

// example is the image of the document's table.
func example() (known, object) {
	return blank(exampleP()).builtOf(3, 5, 40, []api.Ref{{Row: 4, Version: 6}, {Row: 7, Version: 5}})
}

func TestP17_1Examples(t *testing.T) {
	k, _ := example()
	refs := []api.Ref{{Row: 4, Version: 6}, {Row: 7, Version: 5}}
	d, version, leaves, stripes, err := Object(k.image(), 3)
	if d.Length != 40 || d.Depth != 0 || !slices.Equal(d.Refs, refs) || version != 5 || len(leaves) != 0 || !slices.Equal(stripes, refs) || err != api.OK {
		t.Fatalf("Object is %v, %d, %v, %v, %d", d, version, leaves, stripes, err)
	}
	refuses(t, k.image(), 2, api.ErrLost)
	refuses(t, k.image(), 8, api.ErrParams)
	refuses(t, api.Image{}, 0, api.ErrParams)
}

func TestP17_2Examples(t *testing.T) {
	k, _ := example()
	if rows, err := Rows(k.image(), 3); !slices.Equal(rows, []int{3, 4, 7}) || err != api.OK {
		t.Fatalf("Rows are %v, %d", rows, err)
	}
	want := []api.Live{{Row: 3, Kind: api.KindDesc, Version: 5}, {Row: 4, Kind: api.KindData, Version: 6}, {Row: 7, Kind: api.KindData, Version: 5}}
	if live, err := Stripes(k.image(), 3); !slices.Equal(live, want) || err != api.OK {
		t.Fatalf("Stripes are %v, %d", live, err)
	}
}

// An object of two leaves, of which the last one has two refs, told by hand.
func TestP17_1LeavesByHand(t *testing.T) {
	p := api.Params{K: 2, R: 1, Cell: 16, Rows: 16}
	stripes := []api.Ref{{Row: 9, Version: 4}, {Row: 8, Version: 3}, {Row: 9, Version: 2}, {Row: 0, Version: 1}, {Row: 1, Version: most}, {Row: 15, Version: 7}, {Row: 3, Version: 7}}
	leaves := []api.Ref{{Row: 12, Version: 6}, {Row: 5, Version: 8}}
	k := blank(p).whole(12, 1, 1, 6, leafBytes(p, stripes[:5])).whole(5, 0, 1, 8, leafBytes(p, stripes[5:]))
	k = k.whole(3, 1, 2, 9, descBytes(p, api.Desc{Length: 200, Depth: 1, Refs: leaves}))
	d, version, gotLeaves, gotStripes, err := Object(k.image(), 3)
	if d.Length != 200 || d.Depth != 1 || !slices.Equal(d.Refs, leaves) || version != 9 || !slices.Equal(gotLeaves, leaves) || !slices.Equal(gotStripes, stripes) || err != api.OK {
		t.Fatalf("Object is %v, %d, %v, %v, %d", d, version, gotLeaves, gotStripes, err)
	}
	if rows, err := Rows(k.image(), 3); !slices.Equal(rows, []int{0, 1, 3, 5, 8, 9, 12, 15}) || err != api.OK {
		t.Fatalf("Rows are %v, %d", rows, err)
	}
	want := []api.Live{{Row: 3, Kind: 2, Version: 9}, {Row: 12, Kind: 1, Version: 6}, {Row: 5, Kind: 1, Version: 8}}
	for _, r := range stripes {
		want = append(want, api.Live{Row: r.Row, Kind: 1, Version: r.Version})
	}
	if live, err := Stripes(k.image(), 3); !slices.Equal(live, want) || err != api.OK {
		t.Fatalf("Stripes are %v, %d", live, err)
	}
}

// Objects of the lengths at the edges, in the rows at the edges.
func TestP17_1Edges(t *testing.T) {
	t.Parallel()
	for _, p := range few() {
		for i, length := range lengths(p) {
			for _, row := range []int{0, p.Rows / 2, p.Rows - 1} {
				k, o := blank(p).built(row, []int{1, 5, most}[i%3], length, i+row)
				tells(t, k.image(), row, o)
				check(t, k, row)
				refuses(t, k.image(), p.Rows, api.ErrParams)
			}
		}
	}
}

func TestP17_1EveryRow(t *testing.T) {
	for _, p := range few() {
		k, o := blank(p).built(p.Rows/2, 6, measured(p).most, 3)
		for row := range p.Rows {
			if row == p.Rows/2 {
				tells(t, k.image(), row, o)
			} else {
				refuses(t, k.image(), row, api.ErrLost)
			}
		}
	}
}

func TestP17_1EveryParams(t *testing.T) {
	t.Parallel()
	every(func(p api.Params) {
		m := measured(p)
		for _, length := range []int{m.most, min(m.most, m.direct*m.width+1)} {
			k, o := blank(p).built(p.Rows-1, 6, length, p.Cell)
			tells(t, k.image(), p.Rows-1, o)
		}
	})
}

// The last leaf is full, or has one ref, or some.
func TestP17_1LastLeaf(t *testing.T) {
	t.Parallel()
	for _, p := range deep() {
		m := measured(p)
		for stripes := m.direct + 1; stripes*m.width <= m.most; stripes++ {
			k, o := blank(p).built(1, 7, stripes*m.width, stripes)
			if len(o.leaves) != needed(stripes, m.leaf) {
				t.Fatalf("%v: %d stripes have %d leaves", p, stripes, len(o.leaves))
			}
			tells(t, k.image(), 1, o)
		}
	}
}

// Refs may name one row twice, with one version or several, the descriptor's own row, and the greatest and the least of all.
func TestP17_2RowsOnce(t *testing.T) {
	for _, p := range few() {
		for _, length := range lengths(p) {
			many := needed(length, measured(p).width)
			for _, refs := range [][]api.Ref{
				slices.Repeat([]api.Ref{{Row: 2, Version: 5}}, many),
				slices.Repeat([]api.Ref{{Row: p.Rows - 1, Version: most}}, many),
				slices.Repeat([]api.Ref{{Row: 0, Version: 1}}, many),
				slices.Repeat([]api.Ref{{Row: 6, Version: 3}, {Row: 2, Version: 4}, {Row: 6, Version: 2}}, many)[:many],
			} {
				k, o := blank(p).builtOf(2, 5, length, refs)
				tells(t, k.image(), 2, o)
			}
		}
	}
}

// Falling rows, of which many are named twice, are told rising, and each once; the refs in their order.
func TestP17_2Falling(t *testing.T) {
	for _, p := range few() {
		var refs []api.Ref
		for i := range needed(measured(p).most, measured(p).width) {
			refs = append(refs, api.Ref{Row: p.Rows - 1 - i%p.Rows, Version: most - i})
		}
		k, o := blank(p).builtOf(4, 5, measured(p).most, refs)
		tells(t, k.image(), 4, o)
		rows, _ := Rows(k.image(), 4)
		if !slices.IsSorted(rows) || len(slices.Compact(slices.Clone(rows))) != len(rows) {
			t.Fatalf("%v: Rows are %v", p, rows)
		}
	}
}

// A leaf may stand in the row of the descriptor, beside it, with its version or with another.
func TestP17_1LeafInTheDescriptorsRow(t *testing.T) {
	for _, p := range deep() {
		m := measured(p)
		length := (m.direct + 1) * m.width
		for number := range 2 {
			for _, version := range []int{5, 4, 9} {
				k, o := blank(p).built(3, 5, length, 8)
				i := len(o.leaves) - 1
				held := o.stripes[i*m.leaf:]
				o.leaves = slices.Clone(o.leaves)
				o.leaves[i] = api.Ref{Row: 3, Version: version}
				o.d.Refs = o.leaves
				k = k.lost(3).whole(3, number, 2, 5, descBytes(p, o.d)).whole(3, 1-number, 1, version, leafBytes(p, held))
				tells(t, k.image(), 3, o)
				check(t, k, 3)
			}
		}
	}
}

// Two refs may name one leaf; and two leaves may stand in one row, in two versions.
func TestP17_1LeavesOfOneRow(t *testing.T) {
	for _, p := range deep() {
		m := measured(p)
		full, last := refsOf(p, m.leaf, 3), refsOf(p, 1, 4)
		k := blank(p).whole(6, 0, 1, 8, leafBytes(p, full)).whole(6, 1, 1, 7, leafBytes(p, last))
		leaves := []api.Ref{{Row: 6, Version: 8}, {Row: 6, Version: 8}, {Row: 6, Version: 7}}
		o := object{version: 9, leaves: leaves, stripes: slices.Concat(full, full, last), d: api.Desc{Length: 2*m.leaf*m.width + 1, Depth: 1, Refs: leaves}}
		k = k.whole(0, 0, 2, 9, descBytes(p, o.d))
		tells(t, k.image(), 0, o)
	}
}

// What the stripes are that refs name is not asked: they may be blank, there, of other versions, or another object's descriptor or leaf.
func TestP17_1StripesAreNotRead(t *testing.T) {
	p := api.Params{K: 2, R: 1, Cell: 16, Rows: 32}
	for _, length := range lengths(p) {
		other, theirs := blank(p).built(20, 7, 200, 5)
		many := needed(length, 32)
		k, o := other.builtOf(3, 5, length, slices.Repeat([]api.Ref{{Row: 20, Version: 7}, theirs.leaves[0], {Row: 30, Version: 2}, {Row: 31, Version: 1}}, many)[:many])
		tells(t, k.image(), 3, o)
		tells(t, k.image(), 20, theirs)
		for _, version := range []int{1, 2, 3} {
			with := k.whole(30, 0, 1, version, some(32, 4)).whole(31, 1, 2, version, some(32, 4))
			tells(t, with.image(), 3, o)
		}
		k = k.lost(20)
		tells(t, k.image(), 3, o)
		refuses(t, k.image(), 20, api.ErrLost)
	}
}

// The descriptor that counts is told: not one that was begun, nor the one ahead of it, be they in which slots they will.
func TestP17_1TheWinner(t *testing.T) {
	for _, p := range few() {
		n, m := p.K+p.R, measured(p)
		for number := range 2 {
			for _, length := range []int{0, m.width, m.most} {
				k, o := blank(p).built(2, 6, length, 5)
				data := descBytes(p, o.d)
				others := descBytes(p, api.Desc{Length: 1, Refs: []api.Ref{{Row: 1, Version: 1}}})
				begun := k.lost(2).whole(2, number, 2, 6, data).having(2, 1-number, 2, same(p, 8), others, upTo(0, p.K-1)...)
				tells(t, begun.image(), 2, o)
				ahead := k.lost(2).whole(2, number, 2, 6, data).whole(2, 1-number, 2, 4, others)
				tells(t, ahead.image(), 2, o)
				just := k.lost(2).having(2, number, 2, same(p, 6), data, upTo(n-p.K, n)...).whole(2, 1-number, 2, 4, others)
				tells(t, just.image(), 2, o)
				next := k.lost(2).whole(2, number, 2, 6, data).having(2, 1-number, 2, same(p, 8), others, upTo(n-p.K, n)...)
				tells(t, next.image(), 2, object{d: api.Desc{Length: 1, Refs: []api.Ref{{Row: 1, Version: 1}}}, version: 8, stripes: []api.Ref{{Row: 1, Version: 1}}})
			}
		}
	}
}

// A leaf whose cells have several versions is read by the vector of the version that the descriptor names; the old one still is, too.
func TestP17_1RenewedLeaf(t *testing.T) {
	for _, p := range deep() {
		p.Rows = max(p.Rows, 20) // a row for each leaf
		k, o := blank(p).built(0, 5, measured(p).most, 6)
		for i := range o.leaves {
			if o.leaves[i].Version > 1000 {
				continue // so that 1005 is above it
			}
			renewed, now := k.renewedLeaf(o, i, 1005)
			tells(t, renewed.image(), 0, o)
			renewed = renewed.whole(0, 1, 2, 1005, descBytes(p, now.d))
			tells(t, renewed.image(), 0, now)
			check(t, renewed, 0)
		}
	}
}

// renewedLeaf is the image in which the first ref of a leaf was changed, by an update; and the object that it makes.
func (k known) renewedLeaf(o object, i, version int) (known, object) {
	from, behind := i*measured(k.p).leaf, min(len(o.stripes), (i+1)*measured(k.p).leaf)
	now := object{version: version, leaves: slices.Clone(o.leaves), stripes: slices.Clone(o.stripes)}
	now.stripes[from] = api.Ref{Row: 5, Version: version}
	now.leaves[i].Version = version
	now.d = api.Desc{Length: o.d.Length, Depth: 1, Refs: now.leaves}
	was, data := leafBytes(k.p, o.stripes[from:behind]), leafBytes(k.p, now.stripes[from:behind])
	changed := append(changedCells(k.p, was, data), upTo(k.p.K, k.p.K+k.p.R)...)
	at := o.leaves[i]
	return k.having(at.Row, 1, 1, with(same(k.p, at.Version), version, changed...), data, changed...), now
}

// changedCells are the data cells in which two stripes differ.
func changedCells(p api.Params, a, b []byte) []int {
	var cells []int
	for cell := range p.K {
		if !slices.Equal(a[cell*p.Cell:(cell+1)*p.Cell], b[cell*p.Cell:(cell+1)*p.Cell]) {
			cells = append(cells, cell)
		}
	}
	return cells
}

func TestP17_1MixedImages(t *testing.T) {
	t.Parallel()
	ends := map[api.Errno]int{}
	depths := map[int]int{}
	mixedImages(250, func(k known) {
		for row := range 4 {
			check(t, k, row)
			o, err := k.want(row)
			ends[err]++
			if err == api.OK {
				depths[o.d.Depth]++
			}
		}
	})
	if ends[api.OK] < 200 || ends[api.ErrLost] < 200 || ends[api.ErrDesc] < 200 || depths[0] < 100 || depths[1] < 100 { // else the images above would tell little
		t.Fatalf("Object ends in %v, %v", ends, depths)
	}
}
