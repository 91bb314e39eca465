package edit

import (
	"slices"

	"twoslot/api"
	"twoslot/commit"
	"twoslot/layout"
	"twoslot/stripe"
	"twoslot/update"
)

// plan is how an object gets to a new version: the raw writes so far, and the free rows that were taken for them, which are the first ones.
type plan struct {
	subject
	to    int
	free  []int
	puts  []api.Put
	taken []int
}

// planned is the plan by which the object gets a length that may be, and what its stripes are to hold.
func (its subject) planned(free []int, version, length int, holds holding) (l []api.Put, taken, given []int, e api.Errno) {
	p := its.m.P
	if version <= its.newest() {
		return nil, nil, nil, api.ErrParams
	}
	if need, _ := Need(p, its.length, length); need > len(free) {
		return nil, nil, nil, api.ErrFull
	}
	made := &plan{subject: its, to: version, free: free}
	stripes, leaves, err := made.refs(length, holds)
	if err != api.OK {
		return nil, nil, nil, err
	}
	d := api.Desc{Length: length, Refs: stripes}
	if len(leaves) > 0 {
		d.Depth, d.Refs = 1, leaves
	}
	puts, err := commit.Puts(p, made.pairs(its.row), its.row, version, d)
	if err != api.OK {
		return nil, nil, nil, err
	}
	return append(made.puts, puts...), made.taken, made.without(slices.Concat(stripes, leaves)...), api.OK
}

// refs are the stripes of the object when it has a length, and its leaves, which name them; what must be written for them is planned, in this order.
func (made *plan) refs(length int, holds holding) (stripes, leaves []api.Ref, e api.Errno) {
	many, _ := layout.Stripes(made.m.P, length)
	stripes, err := made.renewed(made.stripes, many, holds)
	if err != api.OK {
		return nil, nil, err
	}
	many, _ = layout.Leaves(made.m.P, length)
	leaves, err = made.renewed(made.leaves, many, made.listing(stripes))
	return stripes, leaves, err
}

// renewed are so many stripes, of which the object has these already; the others come.
func (made *plan) renewed(had []api.Ref, many int, holds holding) ([]api.Ref, api.Errno) {
	var refs []api.Ref
	for number := range many {
		var at api.Ref
		var err api.Errno
		if number < len(had) {
			at, err = made.changed(had[number], holds(number))
		} else {
			at, err = made.fresh(holds(number))
		}
		if err != api.OK {
			return nil, err
		}
		refs = append(refs, at)
	}
	return refs, api.OK
}

// changed is a stripe that the object has already: in its row, of the new version, if cells of it change.
func (made *plan) changed(at api.Ref, becomes becoming) (api.Ref, api.Errno) {
	if becomes == nil {
		return at, api.OK
	}
	pairs := made.pairs(at.Row)
	old, err := stripe.Read(made.m.P, pairs, api.KindData, at.Version)
	if err != api.OK {
		return api.Ref{}, err
	}
	changes := becomes(old)
	if len(changes) == 0 {
		return at, api.OK
	}
	puts, err := update.Plan(made.m.P, pairs, at.Row, at.Version, made.to, changes)
	made.puts = append(made.puts, puts...)
	return api.Ref{Row: at.Row, Version: made.to}, err
}

// fresh is a stripe that the object had not, in the next free row: what becomes of bytes 0. That there are rows enough was asked before.
func (made *plan) fresh(becomes becoming) (api.Ref, api.Errno) {
	row := made.free[len(made.taken)]
	made.taken = append(made.taken, row)
	data := make([]byte, made.width)
	if becomes != nil {
		for _, change := range becomes(data) {
			copy(data[change.Cell*made.m.P.Cell:], change.Data)
		}
	}
	puts, err := stripe.Full(made.m.P, made.pairs(row), row, api.KindData, 0, made.to, data)
	made.puts = append(made.puts, puts...)
	return api.Ref{Row: row, Version: made.to}, err
}
