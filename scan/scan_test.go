package scan

import (
	"regexp"
	"strings"
	"testing"

	"pointillist/api"
	"pointillist/dec"
)

// The words of the chapter, written down once more: tests may use what the program may not.
var (
	blanks = regexp.MustCompile(`^[\x09\x0a\x0d\x20]*`)
	gap    = regexp.MustCompile(`^[\x09\x0a\x0d\x20]*(,[\x09\x0a\x0d\x20]*)?`)
)

// texts are all those of at most length bytes of the alphabet.
func texts(alphabet string, length int) []string {
	l := []string{""}
	begin := 0
	for range length {
		end := len(l)
		for _, s := range l[begin:end] {
			for i := range len(alphabet) {
				l = append(l, s+alphabet[i:i+1])
			}
		}
		begin = end
	}
	return l
}

// readerAt comes to its place byte by byte.
func readerAt(s string, at int) *Reader {
	r := New(s)
	for range at {
		r.Skip()
	}
	return r
}

// checkPlace holds all that tells a place against each other.
func checkPlace(t *testing.T, r *Reader, s string, at int) {
	t.Helper()
	var want byte
	if at < len(s) {
		want = s[at]
	}
	for range 2 { // telling it goes nowhere
		if r.At() != at || r.Left() != len(s)-at {
			t.Fatalf("%.40q: at %d, %d left, want %d, %d", s, r.At(), r.Left(), at, len(s)-at)
		}
		if c, ok := r.Peek(); c != want || ok != (at < len(s)) {
			t.Fatalf("%.40q, at %d: %d, %t, want %d", s, at, c, ok, want)
		}
	}
}

// eachByte is of all 256 of them, in their order.
func eachByte() string {
	l := make([]byte, 256)
	for i := range l {
		l[i] = byte(i)
	}
	return string(l)
}

func TestP5_1ByteByByte(t *testing.T) {
	for _, s := range []string{"", "a", "\x00", "\xff", "M1 2,3z", " ,\t\r\n", "Zürich", "a\xf0\x28b", "\u00a0\u2028", eachByte()} {
		r := New(s)
		for at := range len(s) {
			checkPlace(t, r, s, at)
			if !r.Skip() {
				t.Fatal(s, at)
			}
		}
		for range 3 {
			checkPlace(t, r, s, len(s))
			if r.Skip() {
				t.Fatal(s)
			}
		}
	}
}

func TestP5_1Blanks(t *testing.T) {
	for _, c := range []struct {
		s         string
		at, count int
	}{
		{"", 0, 0},
		{" ", 0, 1},
		{"\t\n\r ", 0, 4},
		{"\r\n\r\n", 0, 4},
		{"  1  ", 0, 2},
		{"  1  ", 1, 1},
		{"  1  ", 2, 0},
		{"  1  ", 3, 2},
		{"  1  ", 5, 0},
		{",  ", 0, 0},
		{" , ", 0, 1},
		{"\v ", 0, 0},
		{" \f ", 0, 1},
		{"\u00a0 ", 0, 0},
		{"\u2003 ", 0, 0},
		{" \x00 ", 0, 1},
	} {
		r := readerAt(c.s, c.at)
		if n := r.Blanks(); n != c.count {
			t.Errorf("%q, at %d: %d, want %d", c.s, c.at, n, c.count)
		}
		checkPlace(t, r, c.s, c.at+c.count)
		if n := r.Blanks(); n != 0 {
			t.Errorf("%q, at %d: %d once more", c.s, c.at, n)
		}
		checkPlace(t, r, c.s, c.at+c.count)
	}
}

func TestP5_1BlanksOfEachByte(t *testing.T) {
	for i := range 256 {
		want := 0
		if i == 9 || i == 10 || i == 13 || i == 32 {
			want = 1
		}
		c := string([]byte{byte(i)})
		for s, count := range map[string]int{c: want, c + c: 2 * want, c + ".": want, " " + c: 1 + want, " " + c + "x ": 1 + want} {
			r := New(s)
			if n := r.Blanks(); n != count {
				t.Errorf("%q: %d, want %d", s, n, count)
			}
			checkPlace(t, r, s, count)
		}
	}
}

func TestP5_1BlanksOfEachShortText(t *testing.T) {
	for _, s := range texts("\t\n\r ,1", 5) {
		for at := range len(s) + 1 {
			r := readerAt(s, at)
			want := len(blanks.FindString(s[at:]))
			if n := r.Blanks(); n != want {
				t.Fatalf("%q, at %d: %d, want %d", s, at, n, want)
			}
			checkPlace(t, r, s, at+want)
		}
	}
}

// checkGap is of one whose length is told, 0 if none begins there.
func checkGap(t *testing.T, s string, at, length int) {
	t.Helper()
	r := readerAt(s, at)
	if met := r.Gap(); met != (length > 0) {
		t.Fatalf("%.40q, at %d: %t, want %d bytes", s, at, met, length)
	}
	checkPlace(t, r, s, at+length)
}

func TestP5_2Gap(t *testing.T) {
	for _, c := range []struct {
		s          string
		at, length int
	}{
		{"", 0, 0},
		{"1", 0, 0},
		{"1", 1, 0},
		{" ", 0, 1}, // blanks alone
		{"\t\n\r ", 0, 4},
		{"  1", 0, 2},
		{"1  ", 1, 2},
		{"1  ", 2, 1},
		{",", 0, 1}, // a comma alone
		{",1", 0, 1},
		{"1,2", 1, 1},
		{",  1", 0, 3}, // a comma ahead of blanks
		{" , 1", 0, 3}, // among them
		{"\r\n,\t 1", 0, 5},
		{"  ,1", 0, 3}, // behind them
		{"  ,", 0, 3},
		{",,", 0, 1}, // two commas are two gaps
		{",,", 1, 1},
		{", ,", 0, 2},
		{" , , ", 0, 3},
		{" , , ", 3, 2},
		{",  ,1", 1, 3},
		{"; ,", 0, 0},
		{"-,", 0, 0},
		{"\v,", 0, 0},
		{" \f,", 0, 1},
		{",\u00a0", 0, 1},
		{"\u00a0,", 0, 0},
		{"\u060c", 0, 0}, // a comma of another script
		{"\x00,", 0, 0},
	} {
		checkGap(t, c.s, c.at, c.length)
	}
}

func TestP5_2GapsOneBehindAnother(t *testing.T) {
	s := " , ,\t,1,"
	r := New(s)
	for _, at := range []int{3, 5, 6} {
		if !r.Gap() {
			t.Fatal(at)
		}
		checkPlace(t, r, s, at)
	}
	for range 3 {
		if r.Gap() {
			t.Fatal(r.At())
		}
		checkPlace(t, r, s, 6)
	}
	r.Skip()
	if !r.Gap() {
		t.Fatal("the last one")
	}
	for range 3 {
		if r.Gap() {
			t.Fatal("at the end")
		}
		checkPlace(t, r, s, len(s))
	}
}

func TestP5_2GapOfEachByte(t *testing.T) {
	for i := range 256 {
		c := string([]byte{byte(i)})
		switch i {
		case 9, 10, 13, 32:
			checkGap(t, c, 0, 1)
			checkGap(t, c+","+c+",", 0, 3)
			checkGap(t, "1 "+c+"2", 1, 2)
		case ',':
			checkGap(t, c, 0, 1)
			checkGap(t, " "+c+" "+c, 0, 3)
		default:
			checkGap(t, c, 0, 0)
			checkGap(t, c+" ", 0, 0)
			checkGap(t, c+",", 0, 0)
			checkGap(t, " "+c+",", 0, 1)
			checkGap(t, ","+c+" ", 0, 1)
		}
	}
}

func TestP5_2GapOfEachShortText(t *testing.T) {
	for _, s := range texts("\t\n\r ,1", 6) {
		for at := range len(s) + 1 {
			checkGap(t, s, at, len(gap.FindString(s[at:])))
		}
	}
}

func TestP5_2GapOfManyBlanks(t *testing.T) {
	many := strings.Repeat(" \t\r\n", 1<<16)
	checkGap(t, many, 0, 1<<18)
	checkGap(t, many+","+many, 0, 2<<18+1)
	checkGap(t, many+","+many+",", 0, 2<<18+1)
	checkGap(t, many+"x", 1, 1<<18-1)
}

type number struct {
	s      string
	at     int
	signed bool
	v      int64
	e      api.Errno
	end    int
}

func checkNumber(t *testing.T, l []number) {
	t.Helper()
	for _, c := range l {
		r := readerAt(c.s, c.at)
		if v, e := r.Number(c.signed); v != c.v || e != c.e {
			t.Fatalf("%.40q, at %d, %t: %d, %d, want %d, %d", c.s, c.at, c.signed, v, e, c.v, c.e)
		}
		checkPlace(t, r, c.s, c.end)
	}
}

func TestP5_3Number(t *testing.T) {
	checkNumber(t, []number{
		{"1.5-2", 0, true, 98304, api.OK, 3},
		{"1.5-2", 3, true, -131072, api.OK, 5},
		{"1.5-2", 4, false, 131072, api.OK, 5},
		{"0", 0, false, 0, api.OK, 1},
		{"-0", 0, true, 0, api.OK, 2},
		{"+7", 0, true, 7 << 16, api.OK, 2},
		{"7", 0, false, 7 << 16, api.OK, 1},
		{"12 3", 0, true, 12 << 16, api.OK, 2},
		{"12 3", 1, true, 2 << 16, api.OK, 2},
		{"12,3", 3, false, 3 << 16, api.OK, 4},
		{"5.z", 0, true, 5 << 16, api.OK, 2},
		{".5z", 0, false, 32768, api.OK, 2},
		{"1e2z", 0, true, 100 << 16, api.OK, 3},
		{"1e+2-", 0, false, 100 << 16, api.OK, 4},
		{"-25E-2.5", 0, true, -16384, api.OK, 6},
		{"1e-99", 0, true, 0, api.OK, 5},
		{"0e99", 0, true, 0, api.OK, 4},
		{"1\xff", 0, true, 1 << 16, api.OK, 1},
		{"65535.9999847412109375 ", 0, true, api.Bound - 1, api.OK, 22},
		{"-65535.9999847412109375 ", 0, true, 1 - api.Bound, api.OK, 23},
	})
}

func TestP5_3NumberIsTooGreat(t *testing.T) {
	long := strings.Repeat("9", 1<<16)
	checkNumber(t, []number{
		{"65536", 0, true, 0, api.ErrRange, 0},
		{"65536", 0, false, 0, api.ErrRange, 0},
		{"65536", 1, false, 5536 << 16, api.OK, 5},
		{"-65536", 0, true, 0, api.ErrRange, 0},
		{"-65536", 0, false, 0, api.ErrSyntax, 0},
		{"+65536,1", 0, true, 0, api.ErrRange, 0},
		{"1 65536 2", 2, true, 0, api.ErrRange, 2},
		{"1e99z", 0, true, 0, api.ErrRange, 0},
		{"z1e99", 1, true, 0, api.ErrRange, 1},
		{"65535.99999999", 0, true, 0, api.ErrRange, 0},
		{"1e999999999999999999999999", 0, true, 0, api.ErrRange, 0},
		{long, 0, true, 0, api.ErrRange, 0},
		{long, 1 << 10, false, 0, api.ErrRange, 1 << 10},
		{long + "e-" + long, 0, true, 0, api.OK, 2<<16 + 2},
		{"70000e", 0, true, 0, api.ErrSyntax, 6}, // it is no number's text, however great
	})
	r := New("65536")
	for range 3 {
		if v, e := r.Number(true); v != 0 || e != api.ErrRange {
			t.Fatal(v, e)
		}
		checkPlace(t, r, "65536", 0)
	}
}

func TestP5_3NumberWhereNoneBegins(t *testing.T) {
	checkNumber(t, []number{
		{"", 0, true, 0, api.ErrSyntax, 0},
		{"", 0, false, 0, api.ErrSyntax, 0},
		{"12", 2, true, 0, api.ErrSyntax, 2},
		{"12 3", 2, true, 0, api.ErrSyntax, 2},
		{",1", 0, true, 0, api.ErrSyntax, 0},
		{"x", 0, true, 0, api.ErrSyntax, 0},
		{"e5", 0, true, 0, api.ErrSyntax, 0},
		{"\xff1", 0, true, 0, api.ErrSyntax, 0},
		{"\x001", 0, true, 0, api.ErrSyntax, 0},
		{"-", 0, true, 0, api.ErrSyntax, 1}, // a text that a number could begin with
		{"+x", 0, true, 0, api.ErrSyntax, 1},
		{"- 1", 0, true, 0, api.ErrSyntax, 1},
		{"--1", 0, true, 0, api.ErrSyntax, 1},
		{".", 0, false, 0, api.ErrSyntax, 1},
		{"..5", 0, true, 0, api.ErrSyntax, 1},
		{"-.", 0, true, 0, api.ErrSyntax, 2},
		{"-.e1", 0, true, 0, api.ErrSyntax, 2},
		{"a-.b", 1, true, 0, api.ErrSyntax, 3},
		{"1e", 0, true, 0, api.ErrSyntax, 2},
		{"1ex", 0, false, 0, api.ErrSyntax, 2},
		{"1e-", 0, true, 0, api.ErrSyntax, 3},
		{"1.5E+z", 0, true, 0, api.ErrSyntax, 5},
		{"2 1e 3", 2, true, 0, api.ErrSyntax, 4},
		{"-1", 0, false, 0, api.ErrSyntax, 0}, // a sign where none may be
		{"+1", 0, false, 0, api.ErrSyntax, 0},
		{"1-1", 1, false, 0, api.ErrSyntax, 1},
	})
}

// told are the numbers, one behind another, and whether the text ends with them.
func told(s string) ([]int64, bool) {
	var l []int64
	r := New(s)
	for {
		v, e := r.Number(true)
		if e != api.OK {
			return l, r.Left() == 0
		}
		l = append(l, v)
	}
}

func TestP5_3NumbersWithoutAnythingBetweenThem(t *testing.T) {
	for _, c := range []struct {
		s string
		l []int64
	}{
		{"1.5-2", []int64{98304, -131072}}, // the chapter's example
		{"1-1", []int64{65536, -65536}},
		{"1+1", []int64{65536, 65536}},
		{".5.5.5", []int64{32768, 32768, 32768}},
		{"1.5.5-.5+.5", []int64{98304, 32768, -32768, 32768}},
		{"1..5", []int64{65536, 32768}},
		{"1e1-1e-1", []int64{655360, -6554}},
		{"1e1.5", []int64{655360, 32768}},
		{"0-0", []int64{0, 0}},
		{"00", []int64{0}},
	} {
		l, ended := told(c.s)
		if !ended || len(l) != len(c.l) {
			t.Error(c.s, l, ended)
			continue
		}
		for i := range l {
			if l[i] != c.l[i] {
				t.Error(c.s, l)
			}
		}
	}
}

// wantNumber is told by the layer below, of the text from its place on.
func wantNumber(s string, at int, signed bool) number {
	end, whole := dec.Scan(s[at:], 0, signed)
	if !whole {
		return number{s, at, signed, 0, api.ErrSyntax, at + end}
	}
	v, e := dec.Parse(s[at : at+end])
	if e != api.OK {
		return number{s, at, signed, 0, e, at}
	}
	return number{s, at, signed, v, e, at + end}
}

func TestP5_3NumberOfEachShortText(t *testing.T) {
	for _, s := range texts("19-+.e ,", 5) {
		for at := range len(s) + 1 {
			checkNumber(t, []number{wantNumber(s, at, false), wantNumber(s, at, true)})
		}
	}
}

func TestP5_3NumberBeginsWithEachByte(t *testing.T) {
	for i := range 256 {
		s := string([]byte{byte(i)})
		for _, s := range []string{s, s + "1", "1" + s, "1" + s + "1"} {
			checkNumber(t, []number{wantNumber(s, 0, false), wantNumber(s, 0, true)})
		}
	}
}

func checkFlag(t *testing.T, s string, at, flag int, e api.Errno) {
	t.Helper()
	r := readerAt(s, at)
	end := at
	if e == api.OK {
		end++
	}
	if n, code := r.Flag(); n != flag || code != e {
		t.Fatalf("%q, at %d: %d, %d, want %d, %d", s, at, n, code, flag, e)
	}
	checkPlace(t, r, s, end)
}

func TestP5_4FlagOfEachByte(t *testing.T) {
	for i := range 256 {
		flag, e := 0, api.ErrSyntax
		switch i {
		case 48:
			e = api.OK
		case 49:
			flag, e = 1, api.OK
		}
		c := string([]byte{byte(i)})
		checkFlag(t, c, 0, flag, e)
		checkFlag(t, c+"1", 0, flag, e)
		checkFlag(t, "x0"+c+"0", 2, flag, e)
	}
}

func TestP5_4FlagsRunTogether(t *testing.T) {
	s := "0110010.5"
	r := New(s)
	for at, want := range []int{0, 1, 1, 0, 0, 1, 0} {
		checkPlace(t, r, s, at)
		if n, e := r.Flag(); n != want || e != api.OK {
			t.Fatal(at, n, e)
		}
	}
	checkPlace(t, r, s, 7)
	if v, e := r.Number(false); v != 32768 || e != api.OK { // as an arc's numbers run on behind its flags
		t.Fatal(v, e)
	}
	checkPlace(t, r, s, 9)
}

func TestP5_4FlagWhereNoneIs(t *testing.T) {
	for _, s := range []string{"", "2", "-1", "+0", " 0", ",1", ".0", "t", "\x00", "\x01", "１", "\xff"} {
		r := New(s)
		for range 3 { // again and again, at the end too
			if n, e := r.Flag(); n != 0 || e != api.ErrSyntax {
				t.Fatal(s, n, e)
			}
			checkPlace(t, r, s, 0)
		}
	}
	checkFlag(t, "01", 2, 0, api.ErrSyntax)
}

const calls = 6

// call is one of those that go on, by its number, and whether it ended as it does where there is something.
func call(r *Reader, n int) bool {
	switch n {
	case 0:
		return r.Skip()
	case 1:
		return r.Blanks() > 0
	case 2:
		return r.Gap()
	case 3:
		_, e := r.Number(true)
		return e == api.OK
	case 4:
		_, e := r.Number(false)
		return e == api.OK
	default:
		_, e := r.Flag()
		return e == api.OK
	}
}

// checkCall is of a reader that may have been through anything: one that came to its place byte by byte does the same.
func checkCall(t *testing.T, r *Reader, s string, n int) {
	t.Helper()
	at := r.At()
	fresh := readerAt(s, at)
	if met, want := call(r, n), call(fresh, n); met != want || r.At() != fresh.At() {
		t.Fatalf("%q, at %d, call %d: %t, at %d, want %t, at %d", s, at, n, met, r.At(), want, fresh.At())
	} else if met && r.At() == at {
		t.Fatalf("%q, at %d, call %d: it met something, and stays", s, at, n)
	}
	if r.At() < at || r.At() > len(s) {
		t.Fatalf("%q, at %d, call %d: at %d", s, at, n, r.At())
	}
	checkPlace(t, r, s, r.At())
}

func TestP5_5NeverBackAndNeverBeyond(t *testing.T) {
	for _, s := range texts(" ,1-.e", 4) {
		for order := range calls * calls * calls {
			r := New(s)
			for rest, i := order, 0; i < 3; rest, i = rest/calls, i+1 {
				checkCall(t, r, s, rest%calls)
			}
		}
	}
}

func TestP5_5CallsAtTheEnd(t *testing.T) {
	for _, s := range []string{"", "1", " ", ",", "-", "1e", "\xff", "65536", "M1 2,3"} {
		for order := range calls * calls {
			r := readerAt(s, len(s))
			for _, n := range []int{order % calls, order / calls, order % calls} {
				if call(r, n) {
					t.Fatalf("%q, call %d", s, n)
				}
				checkPlace(t, r, s, len(s))
			}
		}
	}
}

func TestP5_5LongRuns(t *testing.T) {
	s := strings.Repeat(" 1.5-2,,.5e1\t01 65536 e--\r\n\xff", 40)
	for begin := range 64 {
		r := New(s)
		x := uint64(begin)
		for range 4 * len(s) {
			x = x*6364136223846793005 + 1442695040888963407
			checkCall(t, r, s, int(x>>33)%calls)
		}
		if r.Left() != 0 {
			t.Fatal(begin, r.Left())
		}
	}
}

func TestP5_5ReadersAreApart(t *testing.T) {
	s := "1 2 3"
	first, second := New(s), New(s)
	for range 3 {
		first.Number(true)
		first.Gap()
		checkPlace(t, second, s, 0)
	}
	second.Number(true)
	checkPlace(t, first, s, 5)
	checkPlace(t, second, s, 1)
}
