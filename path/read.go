package path

import (
	"pointillist/api"
	"pointillist/scan"
)

// read tells group by group, till one isn't whole, or till it is asked to stop; it answers what Parse does beside them.
// What goes wrong leaves the reader at the place that is told of it.
func read(s string, tell func(api.Command) bool) (int, api.Errno) {
	if len(s) > api.MaxPath {
		return -1, api.ErrLong
	}
	r := scan.New(s)
	opened := false
	wrong := api.OK
reading:
	for r.Blanks(); r.Left() > 0; r.Blanks() {
		letter, kinds, met := readLetter(r, opened)
		if !met {
			wrong = api.ErrSyntax
			break
		}
		opened = true
		for more := true; more; more = goesOn(r, kinds) {
			var args []int64
			args, wrong = readGroup(r, kinds)
			if wrong != api.OK || !tell(api.Command{Letter: letter, Args: args}) {
				break reading
			}
			letter = behind(letter)
		}
	}
	if wrong == api.OK {
		return -1, api.OK
	}
	return r.At(), wrong
}

// readLetter goes on to where the first argument must be, and stays at a byte that no command begins with.
func readLetter(r *scan.Reader, opened bool) (byte, string, bool) {
	letter, _ := r.Peek()
	kinds, known := lookUp(letter)
	if !known || !opened && !opens(letter) {
		return 0, "", false
	}
	r.Skip()
	r.Blanks()
	return letter, kinds, true
}

// goesOn tells whether one more group must be there: behind a comma, and where neither the end is nor a letter.
func goesOn(r *scan.Reader, kinds string) bool {
	if kinds == "" {
		return false
	}
	r.Blanks()
	if r.Gap() { // behind all blanks only a comma begins one
		return true
	}
	c, met := r.Peek()
	return met && Count(c) < 0
}

func readGroup(r *scan.Reader, kinds string) ([]int64, api.Errno) {
	var args []int64
	for i := range len(kinds) {
		apart := i > 0 && r.Gap()
		if kinds[i] == apartFlag && !apart {
			return nil, api.ErrSyntax
		}
		v, e := readArgument(r, kinds[i])
		if e != api.OK {
			return nil, e
		}
		args = append(args, v)
	}
	return args, api.OK
}

func readArgument(r *scan.Reader, kind byte) (int64, api.Errno) {
	if isFlag(kind) {
		n, e := r.Flag()
		return int64(n), e
	}
	return r.Number(kind != radius)
}
