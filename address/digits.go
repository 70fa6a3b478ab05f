package address

import (
	"slices"

	"sporran/api"
)

const (
	digits    = "123456789ABCDEFGHJKLMNPQRSTUVWXYZabcdefghijkmnopqrstuvwxyz"
	mostBytes = 200 // that are written as digits
	mostText  = 300 // bytes of digits that are read
)

// Base58 is bytes as digits.
func Base58(b []byte) string {
	if len(b) > mostBytes {
		return ""
	}
	text := rebase(b, 1<<8, len(digits))
	for i, place := range text {
		text[i] = digits[place]
	}
	return string(text)
}

// Unbase58 is the bytes that stand there as digits.
func Unbase58(s string) ([]byte, api.Errno) {
	if len(s) > mostText {
		return nil, api.ErrFull
	}
	found, ok := places(s, digits)
	if !ok {
		return nil, api.ErrText
	}
	return rebase(found, len(digits), 1<<8), api.OK
}

// places are where each of a text's runes stands among some letters, none of which has more than a byte; false, if one does not stand there.
func places(s, letters string) ([]byte, bool) {
	var found []byte
runes:
	for _, r := range s {
		for i, letter := range letters {
			if r == letter {
				found = append(found, byte(i))
				continue runes
			}
		}
		return nil, false
	}
	return found, true
}

// rebase writes a number, the highest place first, in places of another base: without noughts ahead, but for as many as stand there already.
func rebase(number []byte, base, other int) []byte {
	var low []byte // the lowest place first
	for _, place := range number {
		more := int(place)
		for i, x := range low {
			more += int(x) * base
			low[i] = byte(more % other)
			more /= other
		}
		for ; more > 0; more /= other {
			low = append(low, byte(more%other))
		}
	}
	for _, place := range number {
		if place != 0 {
			break
		}
		low = append(low, 0)
	}
	slices.Reverse(low)
	return low
}
