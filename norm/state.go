package norm

import "pointillist/api"

// small is the bit by which a small letter is greater than its capital one.
const small = 'a' - 'A'

func capital(letter byte) byte { return letter &^ small }

// state is what the commands ahead have come to.
type state struct {
	told      []api.Segment
	point     api.Point
	beginning api.Point
	open      bool
	origin    api.Point // what the coordinates of the command at hand are added to
}

// steps tells by the place of a capital letter behind A what it does to the state, by its numbers.
func steps() [26]func(*state, []int64) {
	return [26]func(*state, []int64){
		'M' - 'A': (*state).move,
		'L' - 'A': (*state).line,
		'H' - 'A': (*state).across,
		'V' - 'A': (*state).down,
		'C' - 'A': (*state).cubic,
		'S' - 'A': (*state).smoothCubic,
		'Q' - 'A': (*state).quad,
		'T' - 'A': (*state).smoothQuad,
		'A' - 'A': (*state).arc,
		'Z' - 'A': (*state).finish,
	}
}

// take is of a command that is right, so that its letter has a step and the step finds its numbers.
func (s *state) take(c api.Command, step func(*state, []int64)) {
	s.origin = api.Point{}
	if c.Letter != capital(c.Letter) {
		s.origin = s.point
	}
	step(s, c.Args)
}

// at needs no care for sums that go over: the point and the numbers are within the bound.
func (s *state) at(x, y int64) api.Point {
	return api.Point{X: s.origin.X + x, Y: s.origin.Y + y}
}

func (s *state) begin(p api.Point) {
	s.told = append(s.told, api.Segment{Kind: api.Move, To: p})
	s.point, s.beginning, s.open = p, p, true
}

// add is of all segments but a Move: they need an open subpath.
func (s *state) add(g api.Segment) {
	if !s.open {
		s.begin(s.point)
	}
	s.told = append(s.told, g)
	s.point = g.To
}

// last is asked for only behind a command: the first one, which is an M, has a segment.
func (s *state) last() api.Segment { return s.told[len(s.told)-1] }

// mirrored tells the mirror of a control point of the segment ahead, if that is of the kind, else the point.
// Its kind tells the letter: behind C and S, and only there, a Cubic is the last one, and a Quad behind Q and T.
func (s *state) mirrored(kind int) api.Point {
	ahead := s.last()
	if ahead.Kind != kind {
		return s.point
	}
	c := ahead.C1
	if kind == api.Cubic {
		c = ahead.C2
	}
	return api.Point{X: 2*s.point.X - c.X, Y: 2*s.point.Y - c.Y}
}

func (s *state) move(args []int64) {
	s.begin(s.at(args[0], args[1]))
}

func (s *state) line(args []int64) {
	s.add(api.Segment{Kind: api.Line, To: s.at(args[0], args[1])})
}

func (s *state) across(args []int64) {
	s.add(api.Segment{Kind: api.Line, To: api.Point{X: s.origin.X + args[0], Y: s.point.Y}})
}

func (s *state) down(args []int64) {
	s.add(api.Segment{Kind: api.Line, To: api.Point{X: s.point.X, Y: s.origin.Y + args[0]}})
}

func (s *state) cubic(args []int64) {
	s.addCubic(s.at(args[0], args[1]), args[2:])
}

func (s *state) smoothCubic(args []int64) {
	s.addCubic(s.mirrored(api.Cubic), args)
}

func (s *state) addCubic(c1 api.Point, rest []int64) {
	s.add(api.Segment{Kind: api.Cubic, C1: c1, C2: s.at(rest[0], rest[1]), To: s.at(rest[2], rest[3])})
}

func (s *state) quad(args []int64) {
	s.add(api.Segment{Kind: api.Quad, C1: s.at(args[0], args[1]), To: s.at(args[2], args[3])})
}

func (s *state) smoothQuad(args []int64) {
	s.add(api.Segment{Kind: api.Quad, C1: s.mirrored(api.Quad), To: s.at(args[0], args[1])})
}

func (s *state) arc(args []int64) {
	s.add(api.Segment{
		Kind: api.Arc, Rx: args[0], Ry: args[1], Turn: args[2], Large: args[3] == 1, Sweep: args[4] == 1,
		To: s.at(args[5], args[6]),
	})
}

// finish ends where the subpath began, also if it is begun just ahead: only behind another Close none is open, and there the
// point is the beginning.
func (s *state) finish(_ []int64) {
	s.add(api.Segment{Kind: api.Close, To: s.beginning})
	s.open = false
}
