package path

import (
	"math"
	"slices"
	"strings"
	"testing"

	"pointillist/api"
	"pointillist/dec"
)

func TestP6_2CountOfEachByte(t *testing.T) {
	known := 0
	for i := range 256 {
		want, met := counts[byte(i)]
		if !met {
			want = -1
		} else {
			known++
		}
		if n := Count(byte(i)); n != want {
			t.Errorf("%q: %d, want %d", byte(i), n, want)
		}
	}
	if known != 20 {
		t.Error(known)
	}
}

func TestP6_2RightOfEachByteAndLength(t *testing.T) {
	for i := range 256 {
		want, known := counts[byte(i)]
		for length := range 12 {
			c := raw(byte(i), make([]int64, length)...)
			if Right(c) != (known && length == want) {
				t.Errorf("%q with %d", byte(i), length)
			}
		}
		if Right(raw(byte(i))) != (known && want == 0) {
			t.Errorf("%q with none", byte(i))
		}
	}
}

// numbers are those about which a number, a radius or a flag gets right or wrong.
func numbers() []int64 {
	return []int64{
		math.MinInt64, math.MinInt64 + 1, -api.Bound - 1, -api.Bound, 1 - api.Bound, -api.One, -2, -1,
		0, 1, 2, api.One, api.Bound - 1, api.Bound, api.Bound + 1, 1<<33 + 1, math.MaxInt64 - 1, math.MaxInt64,
	}
}

// rightAt is of the argument at a place of a group.
func rightAt(letter byte, place int, v int64) bool {
	switch {
	case isArc(letter) && place < 2:
		return 0 <= v && v < 1<<32
	case isArc(letter) && (place == 3 || place == 4):
		return v == 0 || v == 1
	}
	return -1<<32 < v && v < 1<<32
}

func TestP6_2RightAtEachPlace(t *testing.T) {
	for letter, count := range counts {
		for place := range count {
			for _, v := range numbers() {
				c := raw(letter, slices.Repeat([]int64{1}, count)...)
				c.Args[place] = v
				if want := rightAt(letter, place, v); Right(c) != want {
					t.Errorf("%q: %d at %d, want %t", letter, v, place, want)
				}
				_, ok := Print(pixels('m', 0, 0), c)
				if ok != rightAt(letter, place, v) {
					t.Errorf("%q: %d at %d: printed is %t", letter, v, place, ok)
				}
			}
		}
	}
}

func checkPrint(t *testing.T, want string, l ...api.Command) {
	t.Helper()
	if s, ok := Print(l...); s != want || !ok {
		t.Errorf("%s: %q, %t, want %q", show(l), s, ok, want)
	}
}

func checkNotPrinted(t *testing.T, l ...api.Command) {
	t.Helper()
	if s, ok := Print(l...); s != "" || ok {
		t.Errorf("%s: %q, %t", show(l), s, ok)
	}
}

func TestP6_2Print(t *testing.T) {
	m := raw('M', 65536, -32768)
	checkPrint(t, "")
	checkPrint(t, "", []api.Command{}...)
	checkPrint(t, "M 1 -0.5", m)
	checkPrint(t, "m 0 0", raw('m', 0, 0))
	checkPrint(t, "M 1 -0.5a 0.0000152587890625 0 0 1 0 1 0z", m, raw('a', 1, 0, 0, 1, 0, 65536, 0), raw('z'))
	checkPrint(t, "M 1 -0.5A 0 0.0000152587890625 -0.0000152587890625 0 1 -1 0.0000152587890625", m, raw('A', 0, 1, -1, 0, 1, -65536, 1))
	checkPrint(t, "M 1 -0.5zZz", m, raw('z'), raw('Z', []int64{}...), raw('z'))
	checkPrint(t, "M 1 2C 1 2 3 4 5 6", pixels('M', 1, 2), pixels('C', 1, 2, 3, 4, 5, 6))
	checkPrint(t, "m 1 2h 3v 4H -5V -6", pixels('m', 1, 2), pixels('h', 3), pixels('v', 4), pixels('H', -5), pixels('V', -6))
	checkPrint(t, "M 65535.9999847412109375 -65535.9999847412109375", raw('M', api.Bound-1, 1-api.Bound))
	checkPrint(t, "M 1 2L 3 4l 5 6T 7 8", pixels('M', 1, 2), pixels('L', 3, 4), pixels('l', 5, 6), pixels('T', 7, 8))
	checkPrint(t, "M 1 2M 3 4m 5 6M 7 8", pixels('M', 1, 2), pixels('M', 3, 4), pixels('m', 5, 6), pixels('M', 7, 8))
}

func TestP6_2PrintTheFirstLetter(t *testing.T) {
	for i := range 256 {
		_, c := zeros(byte(i))
		for _, l := range [][]api.Command{{c}, {c, pixels('M', 1, 2)}, {c, c}} {
			if i == 'M' || i == 'm' {
				if s, ok := Print(l...); !ok || s[:1] != string([]byte{byte(i)}) {
					t.Errorf("%s: %q, %t", show(l), s, ok)
				}
			} else {
				checkNotPrinted(t, l...)
			}
		}
	}
}

func TestP6_2PrintWhatIsNotRight(t *testing.T) {
	m := pixels('M', 1, 2)
	for _, c := range []api.Command{
		{}, raw('X'), raw('e'), raw(0), raw('B', 1, 2), raw(0xcd, 0, 0), raw('M'), raw('M', 1), raw('m', 1, 2, 3), raw('L', 1), raw('L', 1, 2, 3), raw('L', 1, 2, 3, 4),
		raw('H'), raw('H', 1, 2), raw('z', 0), raw('Z', 1, 2), raw('C', 1, 2, 3, 4, 5), raw('c', 1, 2, 3, 4, 5, 6, 7),
		raw('H', 1<<32), raw('V', -1<<32), raw('M', 1<<32, 0), raw('m', 0, -1<<32), raw('A', -1, 0, 0, 0, 0, 0, 0), raw('a', 0, -1, 0, 0, 0, 0, 0),
		raw('A', 1, 1, 0, 2, 0, 0, 0), raw('A', 1, 1, 0, 0, -1, 0, 0), raw('a', 1, 1, 0, 65536, 0, 0, 0),
	} {
		if Right(c) {
			t.Errorf("%s is right", show(list(c)))
		}
		checkNotPrinted(t, c)
		checkNotPrinted(t, m, c)
		checkNotPrinted(t, c, m)
		checkNotPrinted(t, m, m, c, raw('z'))
	}
}

// printed is written down by the chapter's words.
func printed(l []api.Command) string {
	s := ""
	for _, c := range l {
		s += string(c.Letter)
		for i, v := range c.Args {
			text := dec.Print(v)
			if isArc(c.Letter) && (i == 3 || i == 4) {
				text = []string{"0", "1"}[v]
			}
			s += " " + text
		}
	}
	return s
}

// mixedCommand is one that is right.
func mixedCommand(x *choices, letter byte) api.Command {
	c := raw(letter)
	for i := range counts[letter] {
		v := int64(x.below(1<<31))<<2 - 1<<32 + int64(x.below(4))
		v >>= x.below(33)
		switch {
		case isArc(letter) && (i == 3 || i == 4):
			v = int64(x.below(2))
		case v <= -1<<32 || v < 0 && isArc(letter) && i < 2:
			v = 1<<32 - 1
		}
		c.Args = append(c.Args, v)
	}
	return c
}

func TestP6_3PrintedAndParsedAgain(t *testing.T) {
	const letters = "MmLlTtHhVvCcSsQqAaZzMm" // M and m twice, so that one behind another is met often
	pairs := map[string]bool{}
	for i := range 3000 {
		x := choices(i) * 0x9e3779b97f4a7c15
		l := list(mixedCommand(&x, "Mm"[x.below(2)]))
		for range x.below(12) {
			l = append(l, mixedCommand(&x, letters[x.below(len(letters))]))
			pairs[string([]byte{l[len(l)-2].Letter, l[len(l)-1].Letter})] = true
		}
		checkPrint(t, printed(l), l...)
		s, _ := Print(l...)
		checkOK(t, s, l...)
	}
	if len(pairs) != 400 {
		t.Error("of 400 pairs of letters", len(pairs), "were met")
	}
	checkOK(t, "M 1 2M 3 4", pixels('M', 1, 2), pixels('M', 3, 4))
}

func TestP6_3ParsedAndPrinted(t *testing.T) {
	for i := range 1000 {
		x := choices(i) * 0x9e3779b97f4a7c15
		l, _, _ := Parse(spoil(&x, mixedText(&x)))
		for _, c := range l {
			if !Right(c) {
				t.Fatal(show(list(c)))
			}
		}
		checkPrint(t, printed(l), l...)
		checkOK(t, printed(l), l...)
	}
}

func TestP6_3NumbersAtTheEdges(t *testing.T) {
	for _, v := range numbers() {
		if c := raw('M', v, -v); Right(c) {
			s, _ := Print(c, raw('L', -v, v))
			checkOK(t, s, c, raw('L', -v, v))
		}
	}
}

// R4: what is handed in stays as it is, spare room included.
func TestP6_2NothingIsChanged(t *testing.T) {
	room := slices.Repeat([]int64{5}, 20)
	l := append(make([]api.Command, 0, 8), api.Command{Letter: 'M', Args: room[:2]}, api.Command{Letter: 'C', Args: room[3:9]}, api.Command{Letter: 'X', Args: room})
	for n := range 4 {
		Print(l[:n]...)
	}
	for _, c := range l {
		Right(c)
	}
	for _, v := range room {
		if v != 5 {
			t.Fatal(room)
		}
	}
	if show(l) != show(list(raw('M', 5, 5), raw('C', 5, 5, 5, 5, 5, 5), raw('X', slices.Repeat([]int64{5}, 20)...))) || show(l[:8][3:]) != strings.Repeat("'\\x00'[];", 5) {
		t.Fatal(show(l[:8]))
	}
}
