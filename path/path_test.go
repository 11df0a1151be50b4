package path

import (
	"fmt"
	"slices"
	"strings"
	"testing"

	"pointillist/api"
)

// counts are of the chapter's table.
var counts = map[byte]int{
	'M': 2, 'm': 2, 'L': 2, 'l': 2, 'T': 2, 't': 2, 'H': 1, 'h': 1, 'V': 1, 'v': 1,
	'C': 6, 'c': 6, 'S': 4, 's': 4, 'Q': 4, 'q': 4, 'A': 7, 'a': 7, 'Z': 0, 'z': 0,
}

// show writes commands down: the letter, and each number as it stands in the list.
func show(l []api.Command) string {
	var b strings.Builder
	for _, c := range l {
		fmt.Fprintf(&b, "%q%d;", c.Letter, c.Args)
	}
	return b.String()
}

func list(l ...api.Command) []api.Command { return l }

// raw is a command of numbers as they stand in the list.
func raw(letter byte, args ...int64) api.Command {
	return api.Command{Letter: letter, Args: args}
}

// pixels is a command of whole pixels: none of an arc, which has flags.
func pixels(letter byte, args ...int64) api.Command {
	c := raw(letter)
	for _, p := range args {
		c.Args = append(c.Args, p*api.One)
	}
	return c
}

type parsed struct {
	s  string
	l  []api.Command
	at int
	e  api.Errno
}

// check holds Parse against what is wanted, and All too.
func check(t *testing.T, c parsed) {
	t.Helper()
	want := show(c.l)
	l, at, e := Parse(c.s)
	if show(l) != want || at != c.at || e != c.e {
		t.Fatalf("%.80q: %.200s, %d, %d, want %.200s, %d, %d", c.s, show(l), at, e, want, c.at, c.e)
	}
	if l := slices.Collect(All(c.s)); show(l) != want {
		t.Fatalf("%.80q: All tells %.200s, want %.200s", c.s, show(l), want)
	}
}

func checkOK(t *testing.T, s string, l ...api.Command) {
	t.Helper()
	check(t, parsed{s, l, -1, api.OK})
}

func checkWrong(t *testing.T, s string, at int, l ...api.Command) {
	t.Helper()
	check(t, parsed{s, l, at, api.ErrSyntax})
}

func checkGreat(t *testing.T, s string, at int, l ...api.Command) {
	t.Helper()
	check(t, parsed{s, l, at, api.ErrRange})
}

// zeros are the text of a group of the letter, each argument 0, and the group.
func zeros(letter byte) (string, api.Command) {
	n := counts[letter]
	return strings.TrimPrefix(strings.Repeat(" 0", n), " "), raw(letter, make([]int64, n)...)
}

func isArc(letter byte) bool { return letter == 'A' || letter == 'a' }

func TestP6_1Examples(t *testing.T) {
	checkOK(t, "M1 2 3 4z", pixels('M', 1, 2), pixels('L', 3, 4), raw('z'))
	checkWrong(t, "M1 2L", 5, pixels('M', 1, 2))
	checkWrong(t, "M1 2,L3 4", 5, pixels('M', 1, 2))
}

func TestP6_1NoCommands(t *testing.T) {
	for _, s := range []string{"", " ", "\t", "\n", "\r", " \t\r\n ", strings.Repeat(" ", api.MaxPath)} {
		checkOK(t, s)
	}
	for _, s := range []string{",", "\v", "\f", "\x00", "\u00a0", "1", "-", "."} {
		checkWrong(t, s, 0)
		checkWrong(t, " \n"+s, 2)
	}
}

func TestP6_1EachByteAsTheFirstLetter(t *testing.T) {
	for i := range 256 {
		c := byte(i)
		text := string([]byte{c})
		switch c {
		case 'M', 'm':
			checkOK(t, text+"1 2", pixels(c, 1, 2))
			checkOK(t, "\n"+text+" 1 2 ", pixels(c, 1, 2))
		case 9, 10, 13, 32:
			checkWrong(t, text+"1 2", 1)
			checkOK(t, text+"M1 2", pixels('M', 1, 2))
		default:
			for _, rest := range []string{"", "1 2", " 1 2", "0", "M1 2", "\xff"} {
				checkWrong(t, text+rest, 0)
				checkWrong(t, "\r\n\t"+text+rest, 3)
			}
		}
	}
}

func TestP6_1EachByteAsALaterLetter(t *testing.T) {
	first := pixels('M', 8, 9)
	for i := range 256 {
		c := byte(i)
		text := string([]byte{c})
		if _, known := counts[c]; known {
			args, want := zeros(c)
			checkOK(t, "M8 9"+text+args, first, want)
			checkOK(t, "M8,9 "+text+" "+args+" ", first, want)
			checkOK(t, "\nM8 9\t\r"+text+"\n"+args+"\n", first, want)
			checkOK(t, "M8 9z"+text+args, first, raw('z'), want)
		} else if !strings.Contains("\t\n\r ,+-.0123456789eE", text) {
			checkWrong(t, "M8 9"+text+"1 2", 4, first)
			checkWrong(t, "M8 9 "+text, 5, first)
			checkWrong(t, "M8 9z"+text+"0", 5, first, raw('z'))
			checkWrong(t, "M8 9 z\t\r"+text+"z", 8, first, raw('z'))
		}
	}
}

func TestP6_1LettersWithoutArguments(t *testing.T) {
	first := pixels('m', 8, 9)
	for letter, count := range counts {
		if count == 0 {
			continue
		}
		for _, blanks := range []string{"", " ", "\n\r\t "} {
			s := "m8 9" + string(letter) + blanks
			for _, rest := range []string{"", "z", "L1 2", ",1 2 3 4", "e1", "\x00", "\u0663"} {
				checkWrong(t, s+rest, len(s), first)
			}
		}
	}
	checkWrong(t, "M", 1)
	checkWrong(t, "Mm1 2", 1)
	checkWrong(t, "M,1 2", 1)
	checkWrong(t, " m ,1 2", 3)
}

func TestP6_1ZHasNoArguments(t *testing.T) {
	first := pixels('M', 8, 9)
	for _, z := range []byte("Zz") {
		s := "M8 9" + string(z)
		for _, rest := range []string{"1", "-1", "+", ".5", "0 0", ",", ",1", ",z", "e"} {
			checkWrong(t, s+rest, 5, first, raw(z))
			checkWrong(t, s+" "+rest, 6, first, raw(z))
		}
		checkOK(t, s, first, raw(z))
		checkOK(t, s+" \n", first, raw(z))
		checkOK(t, s+"Z z", first, raw(z), raw('Z'), raw('z'))
		checkOK(t, s+"L1 2"+string(z), first, raw(z), pixels('L', 1, 2), raw(z))
	}
}

func TestP6_1WhatStandsBetweenArguments(t *testing.T) {
	first := pixels('M', 1, 2)
	for _, letter := range []byte("HhVv") {
		l := list(first, pixels(letter, 3), pixels(letter, -4), raw(letter, 32768))
		for _, s := range []string{"3 -4 .5", "3,-4,.5", "3-4+.5", "3-4.0.5", "3. , -4\n.5", "+3-4 ,5e-1", "  3\t,\r-4,\n0.5\n"} {
			s = "M1 2" + string(letter) + s
			checkOK(t, s, l...)
			checkOK(t, s+"z", append(l, raw('z'))...)
		}
	}
	curves := list(first, pixels('c', 1, -2, 3, -4, 5, -6), pixels('c', -7, 8, -9, 10, 11, 12), pixels('q', -1, -2, -3, -4))
	for _, s := range []string{
		"M1 2c1 -2 3 -4 5 -6 -7 8 -9 10 11 12q-1 -2 -3 -4",
		"M1,2c1,-2,3,-4,5,-6,-7,8,-9,10,11,12q-1,-2,-3,-4",
		"M1+2c1-2+3-4+5-6-7+8-9+10+11+12q-1-2-3-4",
		" M 1\t+2 c +1-2,+3 ,-4\r,\n+5 -6 -7+8,-9\t,\t10+11 12 q\n-1-2 -3,-4 ",
	} {
		checkOK(t, s, curves...)
	}
	checkOK(t, "M.5.5.5.5", raw('M', 32768, 32768), raw('L', 32768, 32768))
	checkOK(t, "M1e1.5-1e1-.5", raw('M', 655360, 32768), raw('L', -655360, -32768))
	checkWrong(t, "M12", 3) // it is as long as it can be
	checkWrong(t, "M1.2", 4)
	checkWrong(t, "M1e2", 4)
}

func TestP6_1GroupsOfEachLetter(t *testing.T) {
	for letter, count := range counts {
		if count == 0 {
			continue
		}
		text, c := zeros(letter)
		next := c
		switch letter {
		case 'M':
			next.Letter = 'L'
		case 'm':
			next.Letter = 'l'
		}
		for _, gap := range []string{" ", ",", " , ", "\r\n", "\t,", ",\n"} {
			s := "m0 0" + string(letter) + strings.ReplaceAll(text+" "+text+" "+text, " ", gap)
			checkOK(t, s, raw('m', 0, 0), c, next, next)
			checkOK(t, s+" z", raw('m', 0, 0), c, next, next, raw('z'))
			checkWrong(t, s+gap+"x", len(s+gap), raw('m', 0, 0), c, next, next)
		}
	}
}

func TestP6_1MoreGroupsOfM(t *testing.T) {
	checkOK(t, "M1 2,3 4-5-6", pixels('M', 1, 2), pixels('L', 3, 4), pixels('L', -5, -6))
	checkOK(t, "m1 2,3 4-5-6", pixels('m', 1, 2), pixels('l', 3, 4), pixels('l', -5, -6))
	checkOK(t, "M1 2 3 4m5 6 7 8M9 0", pixels('M', 1, 2), pixels('L', 3, 4), pixels('m', 5, 6), pixels('l', 7, 8), pixels('M', 9, 0))
	checkOK(t, "M1 2M3 4", pixels('M', 1, 2), pixels('M', 3, 4))
	checkOK(t, "m1 2zm3 4", pixels('m', 1, 2), raw('z'), pixels('m', 3, 4))
	checkOK(t, "M1 2t3 4 5 6", pixels('M', 1, 2), pixels('t', 3, 4), pixels('t', 5, 6))
}

func TestP6_1Commas(t *testing.T) {
	first := pixels('M', 1, 2)
	for _, c := range []struct {
		s  string
		at int
		l  []api.Command
	}{
		{"M1 2,", 5, list(first)}, // none is behind it
		{"M1 2 ,", 6, list(first)},
		{"M1 2 ,  ", 8, list(first)},
		{"M1,", 3, nil},
		{"M1 , ", 5, nil},
		{"M1 2,3", 6, list(first)},
		{"M1 2,3,", 7, list(first)},
		{"M1,,2", 3, nil}, // two of them
		{"M1, ,2", 4, nil},
		{"M1 , , 2", 5, nil},
		{"M1 2,,3 4", 5, list(first)},
		{"M1 2 ,\t,3 4", 7, list(first)},
		{"M1 2,3 4,,5 6", 9, list(first, pixels('L', 3, 4))},
		{"M1 2,L3 4", 5, list(first)}, // ahead of a letter
		{"M1 2 , L3 4", 7, list(first)},
		{"M1 2,z", 5, list(first)},
		{"M1 2,M3 4", 5, list(first)},
		{"M1,z", 3, nil},
		{"M1 2,x", 5, list(first)},
		{"M,1 2", 1, nil}, // behind one
		{"M1 2L,3 4", 5, list(first)},
		{"M1 2 H ,3", 7, list(first)},
		{"M1 2z,", 5, list(first, raw('z'))},
		{"M1 2z ,M3 4", 6, list(first, raw('z'))},
		{",M1 2", 0, nil},
		{"M1;2", 2, nil},
		{"M1 2;3 4", 4, list(first)},
	} {
		checkWrong(t, c.s, c.at, c.l...)
	}
}

func TestP6_1Arcs(t *testing.T) {
	first := raw('M', 0, 0)
	plain := raw('A', 1<<16, 2<<16, 30<<16, 0, 1, 5<<16, 6<<16)
	for _, s := range []string{
		"1 2 30 0 1 5 6", "1,2,30,0,1,5,6", "1 2 30 0 15 6", "1 2 30 015 6", "1 2 30,01+5+6", "1 2+30 01 5,6",
		" 1.\t2.,30.\n0\n,1\r5 , 6 ", "1e0 2e0 3e1,0,1 5e0+6e0", "1 2 30\t0 ,15+6",
	} {
		checkOK(t, "M0 0A"+s, first, plain)
	}
	checkOK(t, "M0 0a1 2 30,01.5.6", first, raw('a', 1<<16, 2<<16, 30<<16, 0, 1, 32768, 39322))
	checkOK(t, "M0 0a.5.5-.5 11-.5-.5.5.5-.5 10-.5-.5", first,
		raw('a', 32768, 32768, -32768, 1, 1, -32768, -32768), raw('a', 32768, 32768, -32768, 1, 0, -32768, -32768))
	checkOK(t, "M0 0A1 2 30 015 6 1 2 30 01 5 6,1,2,30,0,1,5,6z", first, plain, plain, plain, raw('z'))
	for i, flags := range []string{"00", "01", "10", "11"} {
		want := raw('a', 65536, 0, 0, int64(i/2), int64(i%2), 65536, 0)
		for _, s := range []string{flags + "1 0", flags + " 1 0", flags + ",1,0", flags[:1] + " " + flags[1:] + " 1 0", flags[:1] + "," + flags[1:] + "+1+0"} {
			checkOK(t, "M0 0a1 0 0 "+s, first, want)
			checkOK(t, "M0 0a1 0 0,"+s, first, want)
		}
	}
}

func TestP6_1WrongArcs(t *testing.T) {
	first := raw('M', 0, 0)
	for _, c := range []struct {
		s  string
		at int
	}{
		{"A1 1 0", 10}, // a byte lacks
		{"A1 1 0 ", 11},
		{"A1 1 0,", 11},
		{"A1 1 0 0", 12},
		{"A1 1 0 00", 13},
		{"A1 1 0 000", 14},
		{"A1 1 0 00 ", 14},
		{"A1 1 0 00-", 14},
		{"A1 1 0 000 ", 15},
		{"A1 1 0 000 -", 16},
		{"A1 1 0 000 .", 16},
		{"A1 1 0 000,1e", 17},
		{"A1 1 00000 0 0", 18}, // the third number takes all noughts
		{"A1 1 0-1", 10},       // no gap ahead of the first flag
		{"A1 1 0.5.5 1 1", 12},
		{"A1 1 0+0 0 1 1", 10},
		{"A1 1 0z", 10},
		{"A1 1 0.A", 11},
		{"A1 1 0 2", 11}, // no flags
		{"A1 1 0 -1", 11},
		{"A1 1 0 +0 0 1 1", 11},
		{"A1 1 0 .0 0 1 1", 11},
		{"A1 1 0,,0 0 1 1", 11},
		{"A1 1 0 02 1 1", 12},
		{"A1 1 0 0-1 1", 12},
		{"A1 1 0 0 , ,1 1 1", 15},
		{"A1 1 0 0.1 1 1", 12},
		{"A1 1 0 0 z", 13},
		{"A1 1 0 0 x", 13},
		{"A-1 1 0 0 0 1 1", 5}, // radii have no sign
		{"A+1 1 0 0 0 1 1", 5},
		{"A-0 1 0 0 0 1 1", 5},
		{"A 1-1 0 0 0 1 1", 7},
		{"A1 -1 0 0 0 1 1", 7},
		{"A1,+1 0 0 0 1 1", 7},
		{"A1+1 0 0 0 1 1", 6},
	} {
		checkWrong(t, "M0 0"+c.s, c.at, first)
		checkWrong(t, "M0 0"+strings.ToLower(c.s), c.at, first)
		arc := "M0 0a1 1 0 0 0 1 1"
		checkWrong(t, arc+","+c.s[1:], len(arc)+c.at-4, first, raw('a', 65536, 65536, 0, 0, 0, 65536, 65536))
	}
}

func TestP6_1NumbersThatLackAByte(t *testing.T) {
	first := pixels('M', 1, 2)
	for _, n := range []string{"-", "+", ".", "-.", "+.", "1e", "1E", "1e-", "1E+", "1.e", ".5e", "-.5E-", "70000e", "99999999e+"} {
		for _, rest := range []string{"", " ", "z", "L3 4", ",3 4", " 3 4", "-3 4", "\xff", "x", "e1"} {
			if strings.HasPrefix(rest, "-") && strings.HasSuffix(strings.ToLower(n), "e") {
				continue // there it does go on
			}
			lacking := func(s string, l ...api.Command) {
				t.Helper()
				checkWrong(t, s+n+rest, len(s+n), l...)
			}
			lacking("M")
			lacking("M1 ")
			lacking("M1,")
			lacking("M1 2 ", first)
			lacking("M1 2,", first)
			lacking("M1 2H", first)
			lacking("M1 2L3 ", first)
			lacking("M1 2A1 1 ", first)
			lacking("M1 2A1 1 0 00", first)
			lacking("M1 2C1 2 3 4 5 ", first)
			lacking("M1 2 3 4 5 ", first, pixels('L', 3, 4))
		}
	}
	checkWrong(t, "M1 2e", 5) // the group isn't whole yet
	checkWrong(t, "M1 2eL", 5)
	checkWrong(t, "M1 2-", 5, first) // and here it is
	checkWrong(t, "M1 2-L", 5, first)
	checkWrong(t, "M1 2.L3", 7, first)
	checkWrong(t, "M1 2e0e", 6, first)
	checkWrong(t, "M1 2 e0", 5, first)
}

func TestP6_1NumbersThatAreTooGreat(t *testing.T) {
	first := pixels('M', 1, 2)
	for letter, count := range counts {
		for place := range count {
			if isArc(letter) && (place == 3 || place == 4) {
				continue
			}
			for _, n := range []string{"65536", "70000", "65535.99999999", "1e5", "999999999999999999999999", "1e999999999999"} {
				l := slices.Repeat([]string{"0"}, count)
				l[place] = n
				ahead := "M1 2" + string(letter) + strings.Join(l[:place], " ")
				if place > 0 {
					ahead += " "
				}
				text := ahead + strings.Join(l[place:], " ")
				checkGreat(t, text, len(ahead), first)
				checkGreat(t, text+"z", len(ahead), first)
				checkGreat(t, ahead+n, len(ahead), first) // what lacks behind it is met later
				checkGreat(t, ahead+n+"x", len(ahead), first)
				checkGreat(t, ahead+n+",,", len(ahead), first)
				args, c := zeros(letter)
				again := "M1 2" + string(letter) + args + " "
				if letter != 'M' && letter != 'm' {
					checkGreat(t, again+text[5:], len(again+ahead)-5, first, c)
				}
				if !isArc(letter) || place == 2 || place > 4 {
					checkGreat(t, ahead+"-"+n, len(ahead), first)
					checkGreat(t, ahead+"+"+n, len(ahead), first)
				} else {
					checkWrong(t, ahead+"-"+n, len(ahead), first)
				}
			}
		}
	}
	checkGreat(t, "M65536 0", 1)
	checkGreat(t, "M0,65536", 3)
	checkGreat(t, "M0-65536", 2)
	checkGreat(t, "M0 0 65536 1", 5, raw('M', 0, 0))
	checkGreat(t, "M0 0L1 99999x", 7, raw('M', 0, 0))
	checkWrong(t, "M0 0x99999", 4, raw('M', 0, 0))
	checkWrong(t, "L65536 0", 0)
	checkOK(t, "M65535.9999847412109375-65535.9999847412109375", raw('M', api.Bound-1, 1-api.Bound))
	checkOK(t, "M99999e-1 0", raw('M', 655353446, 0))
}

func TestP6_1Lengths(t *testing.T) {
	blanks := strings.Repeat(" ", api.MaxPath)
	first := raw('M', 0, 0)
	checkOK(t, ("M0 0" + blanks)[:api.MaxPath], first)
	check(t, parsed{("M0 0" + blanks)[:api.MaxPath+1], nil, -1, api.ErrLong})
	check(t, parsed{blanks + " ", nil, -1, api.ErrLong})
	check(t, parsed{blanks + "x", nil, -1, api.ErrLong}) // whatever else is wrong
	check(t, parsed{"x" + blanks, nil, -1, api.ErrLong})
	check(t, parsed{"M99999 " + blanks, nil, -1, api.ErrLong})
	check(t, parsed{strings.Repeat("z", 1<<20), nil, -1, api.ErrLong})

	checkWrong(t, ("M0 0" + blanks)[:api.MaxPath-1]+"H", api.MaxPath, first)
	checkWrong(t, ("M0 0" + blanks)[:api.MaxPath-1]+"x", api.MaxPath-1, first)
	checkWrong(t, ("M0 0," + blanks)[:api.MaxPath], api.MaxPath, first)
	checkGreat(t, ("M0 0" + blanks)[:api.MaxPath-5]+"65536", api.MaxPath-5, first)

	closes := "M0 0" + strings.Repeat("z", api.MaxPath-4)
	checkOK(t, closes, append(list(first), slices.Repeat(list(raw('z')), api.MaxPath-4)...)...)
	numbers := "M0" + strings.Repeat(",7", api.MaxPath/2-1)
	checkOK(t, numbers, append(list(pixels('M', 0, 7)), slices.Repeat(list(pixels('L', 7, 7)), api.MaxPath/4-1)...)...)
	noughts := strings.Repeat("0", api.MaxPath-5)
	checkOK(t, "M"+noughts+"1 .5", raw('M', 65536, 32768))
	checkGreat(t, "M1 1"+noughts, 3)
}

func TestP6_1AllStopsWhenItIsAsked(t *testing.T) {
	for _, s := range []string{"", "x", "M1 2", "M1 2 3 4 5 6zZL1 2 3 4z", "m1 2h3 4 5v6z", "M1 2 3 4 5", "M1 2 3 4 70000 1", "M1 2zzz,"} {
		l, _, _ := Parse(s)
		for stop := 1; stop <= len(l)+1; stop++ {
			var got []api.Command
			All(s)(func(c api.Command) bool {
				got = append(got, c)
				return len(got) != stop
			})
			if want := l[:min(stop, len(l))]; show(got) != show(want) {
				t.Fatalf("%q, stopped at %d: %s, want %s", s, stop, show(got), show(want))
			}
		}
	}
}

func TestP6_1AllFromItsBeginningEachTime(t *testing.T) {
	s := "M1 2 3 4z"
	want, _, _ := Parse(s)
	all := All(s)
	for range all {
		break
	}
	for outer := range all {
		l := slices.Collect(all)
		if show(l) != show(want) {
			t.Fatal(outer, show(l))
		}
		for i := range outer.Args { // what is told belongs to who is told
			outer.Args[i] = 99
		}
	}
	if l := slices.Collect(all); show(l) != show(want) {
		t.Fatal(show(l))
	}
	if l := slices.Collect(All(strings.Repeat(" ", api.MaxPath+1))); len(l) != 0 {
		t.Fatal(show(l))
	}
}

func TestP6_1AnswersShareNothing(t *testing.T) {
	s := "M1 2 3 4C1 2 3 4 5 6 7 8 9 0 1 2a1 1 0 00 1 1H1 2 3z"
	l, _, _ := Parse(s)
	other, _, _ := Parse(s)
	want := show(l)
	for i := range l {
		saved := slices.Clone(l[i].Args)
		room := l[i].Args[:cap(l[i].Args)]
		for k := range room {
			room[k] = -7
		}
		copy(l[i].Args, saved)
		if show(l) != want || show(other) != want {
			t.Fatal(i, show(l), show(other))
		}
	}
}
