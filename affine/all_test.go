package affine

import (
	"slices"
	"testing"

	"pointillist/api"
)

func TestP8_1AllOfNoPoints(t *testing.T) {
	for _, none := range [][]api.Point{nil, {}} {
		if l, e := All(Same(), none...); len(l) != 0 || e != api.OK {
			t.Error(l, e)
		}
		if l, e := All(api.Matrix{A: most, B: least, C: most, D: least, E: most, F: least}, none...); len(l) != 0 || e != api.OK {
			t.Error(l, e)
		}
		for _, n := range beyond() {
			for i := range 6 {
				m := Same()
				*numbersOf(&m)[i] = n
				if l, e := All(m, none...); l != nil || e != api.ErrArg {
					t.Error(m, l, e)
				}
			}
		}
	}
}

func TestP8_1AllInOrder(t *testing.T) {
	m := api.Matrix{A: 2 * one, B: one, C: -one, D: 3 * one, E: 4, F: 5}
	l := []api.Point{p(1, 2), p(0, 0), p(1, 2), p(-7, 9), p(100, -100), p(0, 0)}
	want := []api.Point{p(4, 12), p(4, 5), p(4, 12), p(-19, 25), p(304, -195), p(4, 5)}
	if g, e := All(m, l...); !slices.Equal(g, want) || e != api.OK {
		t.Error(g, e)
	}
	if g, e := All(Same(), l...); !slices.Equal(g, l) || e != api.OK {
		t.Error(g, e)
	}
}

// The error of the first point that has one is told, wherever that stands and whatever comes behind it.
func TestP8_1AllTellsTheFirstError(t *testing.T) {
	m := Same()
	m.E = 1
	good, far, wrong := p(1, 2), p(most, 0), p(0, api.Bound)
	for _, c := range []struct {
		l []api.Point
		e api.Errno
	}{
		{[]api.Point{far}, api.ErrRange},
		{[]api.Point{wrong}, api.ErrArg},
		{[]api.Point{good, good}, api.OK},
		{[]api.Point{good, far}, api.ErrRange},
		{[]api.Point{good, wrong}, api.ErrArg},
		{[]api.Point{far, good}, api.ErrRange},
		{[]api.Point{wrong, good}, api.ErrArg},
		{[]api.Point{far, wrong}, api.ErrRange},
		{[]api.Point{wrong, far}, api.ErrArg},
		{[]api.Point{good, far, good, wrong}, api.ErrRange},
		{[]api.Point{good, wrong, good, far}, api.ErrArg},
		{[]api.Point{good, good, far, far, wrong, wrong}, api.ErrRange},
		{[]api.Point{good, good, wrong, wrong, far, far}, api.ErrArg},
	} {
		g, e := All(m, c.l...)
		if e != c.e || e != api.OK && g != nil || e == api.OK && len(g) != len(c.l) {
			t.Error(c, g, e)
		}
		bad := m
		bad.F = -api.Bound
		if g, e := All(bad, c.l...); g != nil || e != api.ErrArg { // the matrix is looked at ahead of them
			t.Error(c, g, e)
		}
	}
}

func TestP8_1AllOfMany(t *testing.T) {
	var l, want []api.Point
	for i := range int64(5000) {
		l = append(l, p(i, -i))
		want = append(want, p(-i+3, i-3))
	}
	m := api.Matrix{A: -one, D: -one, E: 3, F: -3}
	if g, e := All(m, l...); !slices.Equal(g, want) || e != api.OK {
		t.Error(len(g), e)
	}
	if g, e := All(m, append(l, p(least, 0))...); g != nil || e != api.ErrRange {
		t.Error(len(g), e)
	}
	if g, e := All(m, append(l, p(-api.Bound, 0))...); g != nil || e != api.ErrArg {
		t.Error(len(g), e)
	}
}

func TestP8_1AllHoldsWithBigNumbers(t *testing.T) {
	var mix mixer
	for range 20000 {
		m := mix.matrix()
		var l, want []api.Point
		told := api.OK
		if !wordsRightMatrix(m) {
			told = api.ErrArg
		}
		for range mix.next() % 4 {
			q := mix.point()
			l = append(l, q)
			to, e := wordsApply(m, q)
			if told == api.OK {
				told = e
			}
			want = append(want, to)
		}
		if told != api.OK {
			want = nil
		}
		if g, e := All(m, l...); !slices.Equal(g, want) || e != told {
			t.Fatal(m, l, g, e, "want", want, told)
		}
	}
}

// What is handed in isn't changed, spare room included, and what is answered is new memory.
func TestP8_1AllSharesNothing(t *testing.T) {
	m := Same()
	m.E, m.F = 1, 1
	room := []api.Point{p(1, 2), p(3, 4), p(5, 6), p(7, 8)}
	was := slices.Clone(room)
	first, _ := All(m, room[:2]...)
	second, _ := All(m, room[:2]...)
	if !slices.Equal(room, was) {
		t.Error(room)
	}
	for _, g := range [][]api.Point{first, second} {
		for i := range g[:cap(g)] {
			g[:cap(g)][i] = p(-9, -9)
		}
		if !slices.Equal(room, was) {
			t.Error(room)
		}
	}
	third, _ := All(m, room[:2]...)
	first[0] = p(0, 0)
	if !slices.Equal(third, []api.Point{p(2, 3), p(4, 5)}) || second[0] != p(-9, -9) {
		t.Error(third, second)
	}
	room[0] = p(50, 50)
	if third[0] != p(2, 3) {
		t.Error(third)
	}
	if g, e := All(m, room[0], p(most, 0), room[1]); g != nil || e != api.ErrRange || !slices.Equal(room[1:], was[1:]) {
		t.Error(g, e, room)
	}
}

// An error that was told leaves nothing behind for a later call.
func TestP8_1AnErrorLeavesNothingBehind(t *testing.T) {
	for range 3 {
		check(t,
			applied{api.Matrix{A: api.Bound}, p(1, 1), p(0, 0), api.ErrArg},
			applied{Same(), p(1, 1), p(1, 1), api.OK},
			applied{api.Matrix{A: 2 * one}, p(most, 1), p(0, 0), api.ErrRange},
			applied{Same(), p(1, 1), p(1, 1), api.OK},
		)
		if m, e := Then(Same(), api.Matrix{F: api.Bound}); m != (api.Matrix{}) || e != api.ErrArg {
			t.Error(m, e)
		}
		if m, e := Then(Same(), Same()); m != Same() || e != api.OK {
			t.Error(m, e)
		}
	}
}

// A call that is made while somebody else's panic goes on neither stops that nor tells of it.
func TestP8_1APanicOfTheCallerGoesOn(t *testing.T) {
	defer func() {
		if recover() != api.ErrForm {
			t.Error("stopped")
		}
	}()
	defer func() {
		check(t, applied{Same(), p(1, 2), p(1, 2), api.OK}, applied{Same(), p(api.Bound, 2), p(0, 0), api.ErrArg})
		if m, e := Then(Same(), Same()); m != Same() || e != api.OK {
			t.Error(m, e)
		}
	}()
	panic(api.ErrForm)
}
