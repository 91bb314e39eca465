package edit

import (
	"bytes"
	"slices"

	"twoslot/api"
	"twoslot/image"
	"twoslot/layout"
	"twoslot/object"
	"twoslot/tree"
)

// subject is what is planned for: an object, as it is.
type subject struct {
	m                           api.Image
	row, version, length, width int
	leaves, stripes             []api.Ref
}

// subjectOf is the object of a row of an image that may be.
func subjectOf(m api.Image, row int) (subject, api.Errno) {
	d, version, leaves, stripes, err := tree.Object(m, row)
	if err != api.OK {
		return subject{}, err
	}
	width, err := layout.Width(m.P)
	return subject{m: m, row: row, version: version, length: d.Length, width: width, leaves: leaves, stripes: stripes}, err
}

// has tells whether the object has just these bytes. Where a stripe can't be read that is not known: then it has not.
func (its subject) has(data []byte) bool {
	if len(data) != its.length {
		return false
	}
	held, err := object.Bytes(its.m, its.row)
	return err == api.OK && bytes.Equal(held, data)
}

// pairs are the slots of a row that is there.
func (its subject) pairs(row int) []api.Pair {
	pairs, _ := image.Row(its.m, row)
	return pairs
}

// newest is the greatest version of all that the object is made of.
func (its subject) newest() int {
	last := its.version
	for _, at := range slices.Concat(its.leaves, its.stripes) {
		last = max(last, at.Version)
	}
	return last
}

// without are the rows of its leaves and stripes that it has no more when it is made of others, rising. One that it still has for something else is not among them.
func (its subject) without(kept ...api.Ref) []int {
	var rows []int
	for _, at := range slices.Concat(its.leaves, its.stripes) {
		has := func(other api.Ref) bool { return other.Row == at.Row }
		if at.Row != its.row && !slices.ContainsFunc(kept, has) {
			rows = append(rows, at.Row)
		}
	}
	slices.Sort(rows)
	return slices.Compact(rows)
}
