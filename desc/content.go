package desc

import (
	"slices"

	"twoslot/api"
	"twoslot/layout"
)

// content is what a stripe holds: a descriptor, or a leaf, which has refs and a rest alone.
type content struct {
	length, depth, many int
	refs                []api.Ref
	rest                []byte // the bytes behind the refs; none of what was not read of bytes
}

// part is a part of a stripe's content.
type part int

// The parts, in the order in which they are looked at: what the next ones must be hangs on those ahead.
const (
	lengthPart part = iota
	depthPart
	manyPart
	refsPart
	restPart
	noPart
)

// firstWrong is the first part that is wrong, from a part on; noPart, if none is. A leaf has no parts ahead of its refs.
func (its content) firstWrong(p api.Params, from part) part {
	depth, many, err := shape(p, its.length)
	switch from {
	case lengthPart:
		if err != api.OK {
			return lengthPart
		}
		fallthrough
	case depthPart:
		if its.depth != depth {
			return depthPart
		}
		fallthrough
	case manyPart:
		if its.many != many {
			return manyPart
		}
		fallthrough
	case refsPart:
		if slices.ContainsFunc(its.refs, func(r api.Ref) bool { return !mayBe(p, r) }) {
			return refsPart
		}
		fallthrough
	case restPart:
		if slices.ContainsFunc(its.rest, func(b byte) bool { return b != 0 }) {
			return restPart
		}
	}
	return noPart
}

// err is what a call answers where this part is wrong: the same of each.
func (wrong part) err() api.Errno {
	if wrong == noPart {
		return api.OK
	}
	return api.ErrDesc
}

// shape is the depth of an object of a length, and how many refs its descriptor has.
func shape(p api.Params, length int) (depth, many int, err api.Errno) {
	depth, err = layout.Depth(p, length)
	switch {
	case err != api.OK:
		return 0, 0, err
	case depth == 0:
		many, err = layout.Stripes(p, length)
	default:
		many, err = layout.Leaves(p, length)
	}
	return depth, many, err
}

// mayBe tells whether a ref may be.
func mayBe(p api.Params, r api.Ref) bool {
	return r.Row >= 0 && r.Row < p.Rows && r.Version >= 1 && r.Version <= api.MaxVersion
}
