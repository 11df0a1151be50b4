package snap

import (
	"iter"
	"slices"
	"testing"

	"pointillist/api"
)

// nowhere goes nowhere ahead of being snapped, falls only when it is.
var (
	nowhere = edge(0, 9, 5000, 9)
	falls   = edge(0, 0, 5000, 500)
	point   = edge(1, 1, 2, 2)
	down    = edge(3, 1000, 600, 2000)
	up      = edge(7, 2000, 7, 1500)
)

// Of these the lists make those.
var (
	downTold = edge(0, 1024, 1024, 2048)
	upTold   = edge(0, 2048, 0, 1024)
)

func mixed() []api.Edge {
	return list(nowhere, down, falls, point, up, down, api.Edge{}, edge(-bound, bound, bound, -bound), down, falls)
}

func mixedTold() []api.Edge {
	return list(downTold, upTold, downTold, edge(-bound, bound, bound, -bound), downTold)
}

func TestP14_2FewEdges(t *testing.T) {
	check(t, nil, nil)
	check(t, list(), nil)
	check(t, list(down), list(downTold))
	check(t, list(nowhere), nil)
	check(t, list(falls), nil)
	check(t, list(point), nil)
}

func TestP14_2EdgesThatGoNowhere(t *testing.T) {
	check(t, list(nowhere, down, up), list(downTold, upTold))
	check(t, list(falls, nowhere, down, up), list(downTold, upTold))
	check(t, list(down, falls, up), list(downTold, upTold))
	check(t, list(down, point, nowhere, falls, up), list(downTold, upTold))
	check(t, list(down, up, nowhere), list(downTold, upTold))
	check(t, list(down, up, point, falls), list(downTold, upTold))
	check(t, list(falls, down, nowhere, up, point), list(downTold, upTold))
	check(t, list(nowhere, falls, point, api.Edge{}), nil)
	check(t, mixed(), mixedTold())
}

// They come in order, as often as they are there, and none is put together with its neighbour.
func TestP14_2EdgesInOrder(t *testing.T) {
	check(t, list(down, up), list(downTold, upTold))
	check(t, list(up, down), list(upTold, downTold))
	check(t, list(down, down, up, down), list(downTold, downTold, upTold, downTold))
	check(t, list(edge(0, 0, 0, 1024), edge(0, 1024, 0, 0)), list(edge(0, 0, 0, 1024), edge(0, 1024, 0, 0)))
	check(t, list(edge(0, 0, 0, 1024), edge(0, 1024, 0, 2048)), list(edge(0, 0, 0, 1024), edge(0, 1024, 0, 2048)))
}

func TestP14_2ManyEdges(t *testing.T) {
	var l, want []api.Edge
	for i := range int64(5000) {
		l = append(l, edge(i*300, -i*700, i*i, i*500))
	}
	want = wordsEdges(l)
	if len(want) != 4999 { // the first one is a point
		t.Error(len(want))
	}
	check(t, l, want)
}

// told is what one is told who says no at that time, counted from 1 on.
func told(seq iter.Seq[api.Edge], at int) (l []api.Edge) {
	seq(func(e api.Edge) bool {
		l = append(l, e)
		return len(l) < at
	})
	return l
}

// checkStops breaks off at each edge, the first one and the last one among them, and goes through anew each time.
func checkStops(t *testing.T, seq iter.Seq[api.Edge], want []api.Edge) {
	t.Helper()
	for at := 1; at <= len(want)+1; at++ {
		n := min(at, len(want))
		if l := told(seq, at); !slices.Equal(l, want[:n]) {
			t.Error("asked at", at, l, "want", want[:n])
		}
		left := 0
		for e := range seq {
			if e != want[left] {
				t.Error("at", left, e, want[left])
			}
			if left++; left == at {
				break
			}
		}
		if left != n {
			t.Error("left at", at, left, "want", n)
		}
	}
	for range 2 {
		if l := slices.Collect(seq); !slices.Equal(l, want) {
			t.Error("anew", l, "want", want)
		}
	}
}

func TestP14_2AllStops(t *testing.T) {
	checkStops(t, All(), nil)
	checkStops(t, All(nowhere, falls, point), nil)
	checkStops(t, All(down), list(downTold))
	checkStops(t, All(falls, down, nowhere), list(downTold))
	checkStops(t, All(down, up), list(downTold, upTold))
	checkStops(t, All(mixed()...), mixedTold())
}

// From within, and two at once, each goes from its own beginning on.
func TestR6AllIsGoneThroughAnew(t *testing.T) {
	want := mixedTold()
	seq := All(mixed()...)
	n := 0
	for e := range seq {
		if l := told(seq, n+1); !slices.Equal(l, want[:n+1]) || e != want[n] {
			t.Error(n, e, l)
		}
		n++
	}
	one, stopOne := iter.Pull(seq)
	defer stopOne()
	other, stopOther := iter.Pull(seq)
	defer stopOther()
	one()
	for i := range want[1:] {
		x, _ := one()
		y, _ := other()
		if x != want[i+1] || y != want[i] {
			t.Error(i, x, y)
		}
	}
}

func TestR1NoIteratorIsNil(t *testing.T) {
	for _, l := range [][]api.Edge{nil, {}, {nowhere}, mixed()} {
		if All(l...) == nil {
			t.Error("nil", l)
		}
	}
}

// What is written into the edges behind the call makes no difference, nor what is written between two of them.
func TestR4EdgesArentKept(t *testing.T) {
	l := mixed()
	seq := All(l...)
	l[0], l[1] = up, nowhere
	n := 0
	for e := range seq {
		clear(l)
		if e != mixedTold()[n] {
			t.Fatal(n, e, mixedTold()[n])
		}
		n++
	}
	if got := slices.Collect(seq); n != len(mixedTold()) || !slices.Equal(got, mixedTold()) {
		t.Error(n, got)
	}
}

func TestR4EdgesArentChanged(t *testing.T) {
	room := append(mixed(), up, down, nowhere)
	want := slices.Clone(room)
	l := room[:len(room)-3]
	Edges(l...)
	told(All(l...), 2)
	for range All(l...) {
	}
	if !slices.Equal(room, want) {
		t.Error(room)
	}
}

// Neither with what is handed in, be it on the grid already, nor with each other do two answers share any.
func TestR4EdgesAreNewMemory(t *testing.T) {
	for _, l := range [][]api.Edge{mixed(), mixedTold(), {downTold}} {
		was := slices.Clone(l)
		want := wordsEdges(l)
		first, second := Edges(l...), Edges(l...)
		first = first[:cap(first)]
		for i := range first {
			first[i] = edge(1, 2, 3, 4)
		}
		if !slices.Equal(second, want) || !slices.Equal(Edges(l...), want) || !slices.Equal(l, was) {
			t.Error(l, second, "want", want)
		}
	}
}

func TestP14_3ListsStay(t *testing.T) {
	check(t, mixedTold(), mixedTold())
	if l := Edges(Edges(mixed()...)...); !slices.Equal(l, mixedTold()) {
		t.Error(l)
	}
	if l := slices.Collect(All(slices.Collect(All(mixed()...))...)); !slices.Equal(l, mixedTold()) {
		t.Error(l)
	}
}
