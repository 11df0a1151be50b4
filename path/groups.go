package path

import (
	"strings"

	"pointillist/api"
)

// The kinds of arguments, as the table writes them.
const (
	number    byte = 'n'
	radius    byte = 'r' // a number without a sign
	flag      byte = 'f'
	apartFlag byte = 'F' // a flag that a gap must stand ahead of
)

// row is of letters whose groups have the same arguments: a byte each, which is its kind.
type row struct{ letters, kinds string }

var rows = [...]row{
	{"MmLlTt", "nn"},
	{"HhVv", "n"},
	{"Cc", "nnnnnn"},
	{"SsQq", "nnnn"},
	{"Aa", "rrnFfnn"},
	{"Zz", ""},
}

// lookUp tells the kinds of a group's arguments, and whether the letter is one of the twenty.
func lookUp(letter byte) (string, bool) {
	for _, r := range rows {
		if strings.IndexByte(r.letters, letter) >= 0 {
			return r.kinds, true
		}
	}
	return "", false
}

// opens tells whether path data may begin with the letter.
func opens(letter byte) bool { return letter == 'M' || letter == 'm' }

// behind tells the letter of the group that follows one of this letter.
func behind(letter byte) byte {
	if opens(letter) {
		return letter - 1 // L and l stand just ahead of M and m
	}
	return letter
}

func isFlag(kind byte) bool { return kind == flag || kind == apartFlag }

func fits(kind byte, v int64) bool {
	switch kind {
	case number:
		return v > -api.Bound && v < api.Bound
	case radius:
		return v >= 0 && v < api.Bound
	default:
		return v == 0 || v == 1
	}
}
