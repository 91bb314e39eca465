package live

import (
	"twoslot/api"
	"twoslot/dir"
	"twoslot/image"
	"twoslot/object"
	"twoslot/slot"
	"twoslot/stripe"
)

const root = 0 // the row of the root's descriptor

// bucketsIn are the rows that an object's bytes are, if they are those of the root.
func bucketsIn(m api.Image, row int) ([]int, api.Errno) {
	b, err := object.Bytes(m, row)
	if err != api.OK {
		return nil, err
	}
	return dir.Buckets(m.P, b)
}

// entriesIn are the entries that an object's bytes are, if they are those of a bucket.
func entriesIn(m api.Image, row int) ([]api.Entry, api.Errno) {
	b, err := object.Bytes(m, row)
	if err != api.OK {
		return nil, err
	}
	return dir.Parse(m.P, b)
}

// objectsIn are the rows that the entries of a bucket name.
func objectsIn(m api.Image, row int) ([]int, api.Errno) {
	entries, err := entriesIn(m, row)
	if err != api.OK {
		return nil, err
	}
	var rows []int
	for _, x := range entries {
		rows = append(rows, x.Row)
	}
	return rows, api.OK
}

// versionIn is the greatest version in the slot of a number, in an image that may be; 0, if it holds nothing for its drive. Stripe is the greatest of all that a slot has.
func versionIn(m api.Image, number int) int {
	perDrive := len(api.Pair{}) * m.P.Rows
	s, is, _ := slot.Parse(m.P, m.Slots[number])
	if !is || s.Index != number/perDrive {
		return 0
	}
	return s.Stripe
}

// isWhole tells whether all cells of a stripe that is in use are there.
func isWhole(m api.Image, its api.Live) bool {
	pairs, _ := image.Row(m, its.Row) // a row that is there, a kind and a version that may be: nothing is refused
	there, _ := stripe.Present(m.P, pairs, its.Kind, its.Version)
	return len(there) == len(pairs)
}
