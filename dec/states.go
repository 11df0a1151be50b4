package dec

// state is what has been met of a number's text.
type state int

const (
	nowhere state = iota // no number's text goes on so
	atStart
	behindSign
	inWhole         // behind digits, and no point yet
	behindBarePoint // behind a point, and no digit yet
	inFraction      // behind a point and a digit, whichever came first
	behindLetter
	behindPowerSign
	inPower
	states
)

// kind is what a byte is in a number's text.
type kind int

const (
	digit kind = iota
	sign
	point
	letter
	kinds
)

// follows tells what has been met behind one more byte; what it doesn't name is nowhere.
var follows = [states][kinds]state{
	atStart:         {digit: inWhole, sign: behindSign, point: behindBarePoint},
	behindSign:      {digit: inWhole, point: behindBarePoint},
	inWhole:         {digit: inWhole, point: inFraction, letter: behindLetter},
	behindBarePoint: {digit: inFraction},
	inFraction:      {digit: inFraction, letter: behindLetter},
	behindLetter:    {digit: inPower, sign: behindPowerSign},
	behindPowerSign: {digit: inPower},
	inPower:         {digit: inPower},
}

// whole tells whether a number's text may end there.
func (met state) whole() bool {
	return met == inWhole || met == inFraction || met == inPower
}

// walk goes on as far as a number's text does, and tells the place, and what has been met till there.
// It never goes back: once a letter is met that a power may stand behind, a digit must follow.
func walk(s string, at int, met state) (int, state) {
walking:
	for at < len(s) {
		var is kind
		switch s[at] {
		case '0', '1', '2', '3', '4', '5', '6', '7', '8', '9':
			is = digit
		case '+', '-':
			is = sign
		case '.':
			is = point
		case 'e', 'E':
			is = letter
		default:
			break walking
		}
		next := follows[met][is]
		if next == nowhere {
			break
		}
		met = next
		at++
	}
	return at, met
}
