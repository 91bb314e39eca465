package object

import (
	"twoslot/api"
	"twoslot/image"
	"twoslot/layout"
	"twoslot/stripe"
)

// between are the bytes of stripes from one place to below another. A stripe that has none of them is not read: it may be lost.
func between(m api.Image, stripes []api.Ref, from, to int) ([]byte, api.Errno) {
	width, err := layout.Width(m.P)
	if err != api.OK {
		return nil, err
	}
	part := make([]byte, to-from)
	for i := range len(stripes) {
		start := i * width
		first, behind := max(from, start), min(to, start+width)
		if first >= behind {
			continue
		}
		data, err := read(m, stripes[i])
		if err != api.OK {
			return nil, err
		}
		copy(part[first-from:], data[first-start:behind-start])
	}
	return part, api.OK
}

// read are the data of one stripe.
func read(m api.Image, at api.Ref) ([]byte, api.Errno) {
	pairs, err := image.Row(m, at.Row)
	if err != api.OK {
		return nil, err
	}
	return stripe.Read(m.P, pairs, api.KindData, at.Version)
}
