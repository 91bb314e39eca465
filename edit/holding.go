package edit

import (
	"bytes"
	"slices"

	"twoslot/api"
	"twoslot/desc"
	"twoslot/layout"
	"twoslot/update"
)

// becoming tells of a stripe that has these data which of its cells change, and what they are to hold.
type becoming func(old []byte) []api.Change

// holding tells what becomes of the stripe of a number; nil: it stays as it is, and need not be read.
type holding func(number int) becoming

// part is some bytes of an object, from a place on.
type part struct {
	at   int
	data []byte
}

// within is what a part has between two places, told from the first one on.
func (its part) within(from, to int) part {
	first, behind := max(from, its.at), min(to, its.at+len(its.data))
	if first >= behind {
		return part{}
	}
	return part{first - from, its.data[first-its.at : behind-its.at]}
}

// cutOff is the bytes 0 that stand behind a new length, where the object gets shorter. Those in stripes that it has no more are not asked for.
func (its subject) cutOff(length int) part {
	return part{length, make([]byte, max(0, its.length-length))}
}

// overlaid puts parts, which do not overlap and go on, over what the stripes have. The cells that they meet change, also if they come to the same.
func (its subject) overlaid(parts ...part) holding {
	return func(number int) becoming {
		from := number * its.width
		var met []part
		for _, one := range parts {
			if piece := one.within(from, from+its.width); len(piece.data) > 0 {
				met = append(met, piece)
			}
		}
		if len(met) == 0 {
			return nil
		}
		return func(old []byte) []api.Change {
			now := bytes.Clone(old)
			clear(now[min(its.width, max(0, its.length-from)):]) // in an image that no store left other bytes may stand behind the length: the object has none there
			return its.laid(now, met)
		}
	}
}

// laid puts parts over a stripe's data; told are the cells that they meet, each once: where one part ends another one may begin.
func (its subject) laid(now []byte, parts []part) []api.Change {
	for _, one := range parts {
		copy(now[one.at:], one.data)
	}
	var l []api.Change
	for _, one := range parts {
		met, _ := update.Changes(its.m.P, now, one.at, one.data) // they lie in the stripe: nothing is refused
		l = append(l, met...)
	}
	return slices.CompactFunc(l, func(a, b api.Change) bool { return a.Cell == b.Cell })
}

// replaced puts other bytes into all stripes, and 0 behind them.
func (its subject) replaced(data []byte) holding {
	return func(number int) becoming {
		now := make([]byte, its.width)
		copy(now, data[number*its.width:])
		return its.into(now)
	}
}

// listing puts the refs of stripes into leaves.
func (its subject) listing(stripes []api.Ref) holding {
	room, _ := layout.Leaf(its.m.P)
	return func(number int) becoming {
		from := number * room
		now, _ := desc.Leaf(its.m.P, stripes[from:min(len(stripes), from+room)]) // rows that are there, versions that may be: nothing is refused
		return its.into(now)
	}
}

// into makes a stripe hold these data: the cells change whose bytes are other ones.
func (its subject) into(now []byte) becoming {
	return func(old []byte) []api.Change {
		l, _ := update.Unlike(its.m.P, old, now) // both have the width
		return l
	}
}
