package tree

import (
	"twoslot/api"
	"twoslot/desc"
	"twoslot/image"
	"twoslot/layout"
	"twoslot/stripe"
)

// leaf is what a leaf holds of the refs that are left: as many as it has room for, the last one fewer.
func leaf(m api.Image, at api.Ref, left int) ([]api.Ref, api.Errno) {
	pairs, err := image.Row(m, at.Row)
	if err != api.OK {
		return nil, err
	}
	data, err := stripe.Read(m.P, pairs, api.KindData, at.Version)
	if err != api.OK {
		return nil, err
	}
	room, _ := layout.Leaf(m.P)
	return desc.Refs(m.P, data, min(room, left))
}
