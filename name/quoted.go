package name

import (
	"strconv"
	"strings"

	"twoslot/api"
)

const sixteens = "0123456789abcdef"

// shows is what a byte shows in a quoted name.
func shows(b byte) string {
	switch {
	case b == '"' || b == '\\':
		return string([]byte{'\\', b})
	case b < 33 || b > 126:
		return string([]byte{'\\', 'x', sixteens[b>>4], sixteens[b&15]})
	}
	return string([]byte{b})
}

// shown is the byte that the beginning of a text shows, and the length of what shows it: 0, if that is something else.
func shown(s string) (b byte, length int) {
	b = meant(s)
	if text := shows(b); strings.HasPrefix(s, text) { // each byte is shown in one way alone
		return b, len(text)
	}
	return 0, 0
}

// meant is the only byte that the beginning of a text can show.
func meant(s string) byte {
	switch {
	case s[0] != '\\' || len(s) == 1:
		return s[0]
	case s[1] != 'x' || len(s) < 4:
		return s[1]
	}
	b, _ := strconv.ParseUint(s[2:4], 16, 8) // what is no number shows nothing, not even the 0 that stands for it
	return byte(b)
}

// unquoted is what stands between the two quotes, and, if that is told by an error, the place at which something else begins.
func unquoted(s string) (read string, place int, e api.Errno) {
	var text strings.Builder
	quotes, next := 0, 0 // so many were met; the next thing begins no earlier
	for place, letter := range s {
		if place < next {
			continue
		}
		switch {
		case letter == '"' && quotes < 2:
			quotes++
		case quotes == 1:
			b, length := shown(s[place:])
			if length == 0 {
				return "", place, api.ErrName
			}
			text.WriteByte(b)
			next = place + length
		default:
			return "", place, api.ErrName
		}
	}
	if quotes < 2 {
		return "", len(s), api.ErrName
	}
	return text.String(), 0, api.OK
}
