package dir

import (
	"twoslot/api"
	"twoslot/name"
)

const rowSize = 2 // bytes of a row

// may tells whether entries may be, however many bytes they have.
func may(p api.Params, l []api.Entry) bool {
	for place, x := range l {
		switch {
		case name.Check(x.Name) != api.OK || !there(p, x.Row):
			return false
		case place > 0 && !name.Less(l[place-1].Name, x.Name):
			return false
		}
	}
	return true
}

func there(p api.Params, row int) bool { return row >= 0 && row < p.Rows }

// length is how many bytes entries have.
func length(l []api.Entry) int {
	all := 0
	for _, x := range l {
		all += 1 + len(x.Name) + rowSize
	}
	return all
}

// entries are those at the beginning of bytes, whether they may be or not; rest begins with one that is cut short.
func entries(b []byte) (l []api.Entry, rest []byte) {
all:
	for len(b) > 0 {
		switch behind := 1 + int(b[0]); { // behind the name
		case len(b) < behind+rowSize:
			break all
		default:
			l = append(l, api.Entry{Name: string(b[1:behind]), Row: rowOf(b[behind:])})
			b = b[behind+rowSize:]
		}
	}
	return l, b
}

// appendRow puts a row behind bytes, the great end first.
func appendRow(b []byte, row int) []byte { return append(b, byte(row>>8), byte(row)) }

func rowOf(b []byte) int { return int(b[0])<<8 | int(b[1]) }
