package norm

import (
	"slices"
	"strings"
	"testing"

	"pointillist/api"
	"pointillist/path"
)

const one = api.One

func TestP7_3Whole(t *testing.T) {
	checkParse(t, "", whole())
	checkParse(t, " \n", whole())
	checkParse(t, "M1 1h2zl1 0", whole(move(one, one), line(3*one, one), shut(one, one), move(one, one), line(2*one, one)))
	checkParse(t, "m1 1 2 2M3 3 4 4", whole(move(one, one), line(3*one, 3*one), move(3*one, 3*one), line(4*one, 4*one)))
	checkParse(t, "M0 0a1 2.5-30 1 0 .5-1", whole(move(0, 0), arc(one, 5*one/2, -30*one, true, false, p(one/2, -one))))
	checkParse(t, "M0 0Q-40000 0 0 0T20000 0T0 0L0 0", whole(
		move(0, 0), quad(p(-40000*one, 0), p(0, 0)), quad(p(40000*one, 0), p(20000*one, 0)), quad(p(0, 0), p(0, 0)), line(0, 0),
	))
}

func TestP7_3WrongPlaces(t *testing.T) {
	for _, c := range []struct {
		s  string
		l  []api.Segment
		at int
		e  api.Errno
	}{
		{"x", nil, 0, api.ErrSyntax},
		{"L1 1", nil, 0, api.ErrSyntax},
		{"M", nil, 1, api.ErrSyntax},
		{"M1", nil, 2, api.ErrSyntax},
		{"M1 1zx", []api.Segment{move(one, one), shut(one, one)}, 5, api.ErrSyntax},
		{"M1 1zl", []api.Segment{move(one, one), shut(one, one)}, 6, api.ErrSyntax}, // no Move ahead of what isn't whole
		{"M1 1zl2", []api.Segment{move(one, one), shut(one, one)}, 7, api.ErrSyntax},
		{"M1 1zl2 3,", []api.Segment{move(one, one), shut(one, one), move(one, one), line(3*one, 4*one)}, 10, api.ErrSyntax},
		{"M0 0L1 0L1 1L", []api.Segment{move(0, 0), line(one, 0), line(one, one)}, 13, api.ErrSyntax},
		{"M70000 0", nil, 1, api.ErrRange},
		{"M0 0L70000 0", []api.Segment{move(0, 0)}, 5, api.ErrRange},
		{"M0 0h1h65536z", []api.Segment{move(0, 0), line(one, 0)}, 7, api.ErrRange},
		{"M0 0h1h1 -65536", []api.Segment{move(0, 0), line(one, 0), line(2*one, 0)}, 9, api.ErrRange},
	} {
		checkParse(t, c.s, told{c.l, c.at, c.e})
	}
}

func TestP7_3TooFar(t *testing.T) {
	head := []api.Segment{move(40000*one, 0), line(40001*one, 0)}
	for _, c := range []struct {
		s  string
		l  []api.Segment
		at int
	}{
		{"M40000 0h1h30000", head, 2},
		{"M40000 0h1h30000h1z", head, 2},
		{"M40000 0 40001 0m30000 0", head, 2},
		{"M40000 0h1l1 65535 0 1", append(slices.Clone(head), line(40002*one, 65535*one)), 3}, // commands are counted, not letters
		{"M40000 0h1zh30000", append(slices.Clone(head), shut(40000*one, 0)), 3},              // without the Move ahead of it
		{"M40000 0h1zzh30000", append(slices.Clone(head), shut(40000*one, 0), move(40000*one, 0), shut(40000*one, 0)), 4},
		{"M40000 0h1h30000h", head, 2}, // layer 6's place is told of none of these
		{"M40000 0h1h30000x", head, 2},
		{"M40000 0h1h30000,", head, 2},
		{"M40000 0h1h30000 70000", head, 2},
		{"M40000 0h1h30000z30", head, 2},
		{"m65535.9999 0h1e-4l0 0", []api.Segment{move(65536*one-7, 0)}, 1},
		{"M0-65535v-1", []api.Segment{move(0, -65535*one)}, 1},
		{"M0 0Q40000 0 0 0T20000 0T0 0L0 0", []api.Segment{move(0, 0), quad(p(40000*one, 0), p(0, 0)), quad(p(-40000*one, 0), p(20000*one, 0))}, 3},
	} {
		checkParse(t, c.s, told{c.l, c.at, api.ErrRange})
	}
}

func TestP7_3TooLong(t *testing.T) {
	for _, s := range []string{"M1 1", "M1 1zx", "x", "M40000 0h30000", ""} {
		long := s + strings.Repeat(" ", api.MaxPath+1-len(s))
		checkParse(t, long, wrong(-1, api.ErrLong))
		g, at, e := Parse(s)
		checkParse(t, long[:api.MaxPath], told{g, at, e})
	}
	zs := "M1 1" + strings.Repeat("z", api.MaxPath-4)
	g, at, e := Parse(zs)
	if len(g) != 2*(api.MaxPath-4) || at != -1 || e != api.OK || !Right(g...) {
		t.Error(len(g), at, e)
	}
	checkParse(t, zs+"z", wrong(-1, api.ErrLong))
}

// P7.3 by P7.1: over every beginning of texts, those that go too far among them.
func TestP7_3IsNormalOfWhatIsParsed(t *testing.T) {
	met := map[api.Errno]int{}
	for _, s := range []string{
		"m1 2 3 4 h-1v1H9V8c1 0 2 0 3 0s1 1 2 0S0 0 1 1q1 1 2 0t1 0T0 0A3 4 5 0 1 6 7z l1 1 L0 0",
		"M 40000 9 z l 20000 0 zz h 30000 v 9 M1 1 70000",
		"M9 9 h60000 c1 1 9999 1 1 1 s1 1 2 2 H 1",
		"M0 0 Q30000 0 60000 1 z T 1 1 t 1 1 M1 1 Q 30000 0 60000 1 T 1 1",
	} {
		for end := range len(s) + 1 {
			for _, tail := range []string{"", "x", " 70000", ",,", "z"} {
				text := s[:end] + tail
				l, at, e := path.Parse(text)
				g, far, wrong := Normal(l...)
				want := told{g, at, e}
				if wrong == api.ErrRange {
					g, _, _ = Normal(l[:far]...)
					want = told{g, far, api.ErrRange}
				}
				checkParse(t, text, want)
				met[want.e]++
			}
		}
	}
	if met[api.OK] < 50 || met[api.ErrRange] < 50 || met[api.ErrSyntax] < 100 {
		t.Error(met)
	}
}

func TestP7_3NothingIsWrittenBehindWhatIsWhole(t *testing.T) {
	for _, s := range []string{
		"M40000 0h1h30000", "M40000 0zh30000", "m40000 0m40000 0", "M0 0h40000h1h1h1zl40000 1h1h1h30000h1",
		"M1 1h1h1x", "M1 1h1h1h1h1 70000",
	} {
		g, at, e := Parse(s)
		if e == api.OK || cap(g) != len(g) {
			t.Error(s, g, at, e, cap(g))
		}
		was := slices.Clone(g)
		more := append(g, line(1, 1))
		more[0] = line(2, 2)
		if !slices.Equal(g, was) {
			t.Error(s, g)
		}
		clear(g)
		if again, _, _ := Parse(s); !slices.Equal(again, was) {
			t.Error(s, again)
		}
	}
}
