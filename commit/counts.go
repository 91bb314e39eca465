package commit

import (
	"twoslot/api"
	"twoslot/census"
)

// counts is what is counted in a row: the versions of a descriptor that its drives hold.
type counts struct {
	p   api.Params
	row []api.Pair
}

// winner is the version that counts; false, if none does.
func (in counts) winner() (int, bool, api.Errno) { return census.Winner(in.p, in.row) }

// runner is the version that counted ahead of the winner; false, if none did.
func (in counts) runner() (int, bool, api.Errno) { return census.Runner(in.p, in.row) }

// asked is what a row is asked for: a method of what is counted in it.
type asked func(in counts) (version int, is bool, err api.Errno)

// orNone is the version that a row is asked for; 0, by which nothing is kept, if there is none.
func orNone(p api.Params, row []api.Pair, what asked) (int, api.Errno) {
	version, _, err := what(counts{p, row})
	return version, err
}

// orLost is the version that a row is asked for, where nothing can be done without it.
func orLost(p api.Params, row []api.Pair, what asked) (int, api.Errno) {
	version, is, err := what(counts{p, row})
	if err == api.OK && !is {
		return 0, api.ErrLost
	}
	return version, err
}
