package path

import (
	"strings"
	"testing"

	"pointillist/api"
	"pointillist/dec"
)

// grammar goes through a text by the words of the chapter. It tells the groups, whether the text is path data, and, if
// range counts, where a number is too great (else -1); the place of a wrong byte is left to viable.
type grammar struct {
	rest   string
	groups []api.Command
	ranged bool
	great  int
}

func (g *grammar) blanks() { g.rest = strings.TrimLeft(g.rest, "\t\n\r ") }

// gap tells whether there was one, and whether it had a comma.
func (g *grammar) gap() (met, comma bool) {
	length := len(g.rest)
	g.blanks()
	if strings.HasPrefix(g.rest, ",") {
		comma = true
		g.rest = g.rest[1:]
		g.blanks()
	}
	return len(g.rest) < length, comma
}

func (g *grammar) number(s string, signed bool) (int64, bool) {
	end, whole := dec.Scan(g.rest, 0, signed)
	if !whole {
		return 0, false
	}
	v, e := dec.Parse(g.rest[:end])
	if e != api.OK && g.ranged {
		g.great = len(s) - len(g.rest)
		return 0, false
	}
	g.rest = g.rest[end:]
	return v, true
}

func (g *grammar) flag() (int64, bool) {
	if !strings.HasPrefix(g.rest, "0") && !strings.HasPrefix(g.rest, "1") {
		return 0, false
	}
	v := int64(g.rest[0] - '0')
	g.rest = g.rest[1:]
	return v, true
}

// group is of one that may stand behind others already.
func (g *grammar) group(s string, letter, told byte) bool {
	c := raw(told)
	for i := range counts[letter] {
		met, v := false, int64(0)
		if i > 0 {
			met, _ = g.gap()
		}
		ok := true
		switch {
		case !isArc(letter) || i == 2 || i > 4:
			v, ok = g.number(s, true)
		case i < 2:
			v, ok = g.number(s, false)
		case i == 3 && !met:
			ok = false
		default:
			v, ok = g.flag()
		}
		if !ok {
			return false
		}
		c.Args = append(c.Args, v)
	}
	g.groups = append(g.groups, c)
	return true
}

func (g *grammar) letterNext() bool {
	if g.rest == "" {
		return false
	}
	_, known := counts[g.rest[0]]
	return known
}

func (g *grammar) command(s string) bool {
	if !g.letterNext() || len(g.groups) == 0 && g.rest[0] != 'M' && g.rest[0] != 'm' {
		return false
	}
	letter := g.rest[0]
	told := letter
	g.rest = g.rest[1:]
	g.blanks()
	for {
		if !g.group(s, letter, told) {
			return false
		}
		if counts[letter] == 0 {
			g.blanks()
			return true
		}
		_, comma := g.gap()
		if g.rest == "" || g.letterNext() {
			return !comma
		}
		switch letter {
		case 'M':
			told = 'L'
		case 'm':
			told = 'l'
		}
	}
}

func byGrammar(s string, ranged bool) (*grammar, bool) {
	g := &grammar{rest: s, ranged: ranged, great: -1}
	for g.blanks(); g.rest != ""; {
		if !g.command(s) {
			return g, false
		}
	}
	return g, true
}

// viable tells whether path data begin so: a number that lacks a digit is given one, and a group as many noughts as it
// lacks, which are numbers and flags.
func viable(s string) bool {
	for lack := range 8 {
		noughts := strings.Repeat(" 0", lack)
		if _, ok := byGrammar(s+noughts, false); ok {
			return true
		}
		if _, ok := byGrammar(s+"0"+noughts, false); ok {
			return true
		}
	}
	return false
}

// byWords is what Parse must tell of a text whose first bytes, that many, are known to be viable.
func byWords(s string, known int) parsed {
	g, ok := byGrammar(s, true)
	switch {
	case ok:
		return parsed{s, g.groups, -1, api.OK}
	case g.great >= 0:
		return parsed{s, g.groups, g.great, api.ErrRange}
	}
	at := known
	for at < len(s) && viable(s[:at+1]) {
		at++
	}
	return parsed{s, g.groups, at, api.ErrSyntax}
}

// walkTexts is of all texts that path data begin with, and that go on from s by at most depth bytes of the alphabet, and
// of each wrong byte of it behind them.
func walkTexts(t *testing.T, s, alphabet string, depth int) int {
	count := 1
	check(t, byWords(s, len(s)))
	for i := range len(alphabet) {
		next := s + alphabet[i:i+1]
		if !viable(next) {
			check(t, byWords(next, len(s)))
			check(t, byWords(next+"1 1z", len(s)))
			count += 2
		} else if depth > 0 {
			count += walkTexts(t, next, alphabet, depth-1)
		}
	}
	return count
}

func TestP6_1EachShortText(t *testing.T) {
	const alphabet = "MLza1 ,-.e"
	for _, c := range []struct {
		s     string
		depth int
	}{
		{"", 5}, {"m", 4}, {"M1 ", 4}, {"M1 2", 4}, {"m1 2z", 4}, {"M1 2H", 4}, {"M1 2h1", 3},
		{"M1 2A", 4}, {"M1 2a1", 3}, {"M1 2A1 1", 3}, {"M1 2A1 1 0", 4}, {"M1 2A1 1 0,0", 3}, {"M1 2A1 1 0 00 1", 3},
		{"M1 2A1 1 0 00 1 1", 4}, {"M1 2s1 2 3", 3}, {"M65535 1", 3}, {"M0 6553", 3},
	} {
		if count := walkTexts(t, c.s, alphabet, c.depth); count < 500 {
			t.Error(c, count)
		}
	}
}

func TestP6_1EachByteAtEachPlace(t *testing.T) {
	all := make([]byte, 256)
	for i := range all {
		all[i] = byte(i)
	}
	for _, s := range []string{" M 1 , 2 3-4 z ", "m1.5e+1-.5a1 2-3e0,01.5.6 1,1 0 1 0-1-1 ", "M0 0 Q1 2 3 4,5 6 7 8T1 2ZH1-2 c1 2 3 4 5 6\n"} {
		if _, ok := byGrammar(s, true); !ok {
			t.Fatal(s)
		}
		for at := range len(s) + 1 {
			walkTexts(t, s[:at], string(all), 0)
		}
	}
}

// choices come of a rule, the same ones each time.
type choices uint64

func (x *choices) below(n int) int {
	*x = *x*6364136223846793005 + 1442695040888963407
	return int(*x>>33) % n
}

func (x *choices) of(l ...string) string { return l[x.below(len(l))] }

func (x *choices) argument(letter byte, i int) string {
	size := x.of("1", "2.5", "3.", ".25", "40e-1", "5E+1", "0", "00.0", "65535")
	switch {
	case isArc(letter) && (i == 3 || i == 4):
		return x.of("0", "1")
	case isArc(letter) && i < 2:
		return size
	}
	return x.of("", "-", "+") + size
}

// mixedText is path data: commands of all letters, with gaps of all kinds in them.
func mixedText(x *choices) string {
	s := x.of("", " ")
	for i := range 1 + x.below(6) {
		letter := x.of(strings.Split("MmLlTtHhVvCcSsQqAaZz", "")...)
		if i == 0 {
			letter = x.of("M", "m")
		}
		s += letter
		for range 1 + x.below(3) {
			for i := range counts[letter[0]] {
				s += x.argument(letter[0], i) + x.of(" ", ",", "\n", " , ", "\t ", " ", "  ")
			}
		}
		s = strings.TrimRight(s, ",\t\n ") + x.of("", " ", "\r\n")
	}
	return s
}

// spoil takes a byte away, or puts another one in, or cuts the text off.
func spoil(x *choices, s string) string {
	at := x.below(len(s))
	switch x.below(3) {
	case 0:
		return s[:at]
	case 1:
		return s[:at] + s[at+1:]
	default:
		return s[:at] + x.of(",", "-", ".", "e", "9", "0", "z", "x", " ", "\x00", "99999 ") + s[at:]
	}
}

func TestP6_1MixedTexts(t *testing.T) {
	met := map[api.Errno]int{}
	for i := range 2000 {
		x := choices(i) * 0x9e3779b97f4a7c15
		s := mixedText(&x)
		if i%4 > 0 {
			s = spoil(&x, s)
		}
		c := byWords(s, 0)
		check(t, c)
		if i%4 == 0 && c.e != api.OK {
			t.Fatal(s)
		}
		met[c.e]++
	}
	if met[api.OK] < 400 || met[api.ErrRange] < 50 || met[api.ErrSyntax] < 400 {
		t.Error(met)
	}
}
