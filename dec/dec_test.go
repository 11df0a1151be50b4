package dec

import (
	"math"
	"math/big"
	"regexp"
	"strings"
	"testing"

	"pointillist/api"
)

const (
	most  = math.MaxInt64
	least = math.MinInt64
	great = api.Bound - 1 // the greatest number that isn't too great
)

// The words of the chapter, written down once more: tests may use what the program may not.
var numberText = regexp.MustCompile(`^[+-]?([0-9]+\.?[0-9]*|\.[0-9]+)([eE][+-]?[0-9]+)?$`)

func isNumber(s string) bool { return numberText.MatchString(s) }

// texts are all those of at most length bytes of the alphabet.
func texts(alphabet string, length int) []string {
	l := []string{""}
	begin := 0
	for range length {
		end := len(l)
		for _, s := range l[begin:end] {
			for i := range len(alphabet) {
				l = append(l, s+alphabet[i:i+1])
			}
		}
		begin = end
	}
	return l
}

// bigNearest is the floor of the value times 2^16, and a half: of a number's text with a power of few digits.
func bigNearest(s string) (int64, api.Errno) {
	v, ok := new(big.Rat).SetString(s)
	if !ok {
		return 0, api.ErrSyntax
	}
	v.Mul(v, big.NewRat(api.One, 1))
	v.Add(v, big.NewRat(1, 2))
	n := new(big.Int).Div(v.Num(), v.Denom()) // what it divides by is above 0, so this is the floor
	if new(big.Int).Abs(n).Cmp(big.NewInt(api.Bound)) >= 0 {
		return 0, api.ErrRange
	}
	return n.Int64(), api.OK
}

// mixed are numbers of all sizes and both signs, made by a rule, the same ones each time.
func mixed(count int) []int64 {
	l := make([]int64, count)
	x := uint64(1)
	for i := range l {
		x = x*6364136223846793005 + 1442695040888963407
		y := x ^ x>>29
		l[i] = int64(y) >> (y >> 7 % 64)
	}
	return l
}

// edges are numbers about which bits, pixels and signs change.
func edges() []int64 {
	l := []int64{0, least, least + 1, most - 1, most}
	for s := range 63 {
		n := int64(1) << s
		l = append(l, n-1, n, n+1, -n-1, -n, -n+1)
	}
	return l
}

func noughts(count int) string { return strings.Repeat("0", count) }

type parsed struct {
	s string
	v int64
	e api.Errno
}

func checkParse(t *testing.T, l []parsed) {
	t.Helper()
	for _, c := range l {
		if v, e := Parse(c.s); v != c.v || e != c.e {
			t.Errorf("%.60q: %d, %d, want %d, %d", c.s, v, e, c.v, c.e)
		}
	}
}

func TestP4_1Parse(t *testing.T) {
	checkParse(t, []parsed{
		{"1.5", 98304, api.OK}, // the chapter's examples
		{"-.5e1", -327680, api.OK},
		{"1e", 0, api.ErrSyntax},
		{"65536", 0, api.ErrRange},
		{"1e-99", 0, api.OK},

		{"0", 0, api.OK},
		{"-0", 0, api.OK},
		{"+0", 0, api.OK},
		{"-.0e-0", 0, api.OK},
		{"1", 65536, api.OK},
		{"+1", 65536, api.OK},
		{"-1", -65536, api.OK},
		{"9", 9 << 16, api.OK},
		{"1234567890e-5", 809086412, api.OK},
		{"7.", 7 << 16, api.OK},
		{"-7.", -7 << 16, api.OK},
		{".25", 16384, api.OK},
		{"+.25", 16384, api.OK},
		{"7.e0", 7 << 16, api.OK},
		{".7e1", 7 << 16, api.OK},
		{"7E+1", 70 << 16, api.OK},
		{"7e-1", 45875, api.OK},
		{"-7e-1", -45875, api.OK},
		{"0.1", 6554, api.OK},
		{"-0.1", -6554, api.OK},
	})
}

func TestP4_1ParseWrongTexts(t *testing.T) {
	for _, s := range []string{
		"", "+", "-", ".", "+.", "-.", "e", "E", "e5", ".e5", "+e5", "-.e5", "+.e1",
		"1e", "1E", "1e+", "1E-", "1.e", ".5e-", "1e.", "1e5.", "1e5.5", "1e.5", "1e5e5", "1ee5", "1e+-5", "1e--5",
		"++1", "--1", "+-1", "-+1", "1+", "1-", "1-2", "1.-", "1..", "..1", "1.2.3", ".1.", "1.+2",
		" 1", "1 ", "\t1", "1\n", "1,", ",1", "1_0", "1,5", "0x1", "0x1p3", "0b1", "1p3", "1f", "1d5", "inf", "Inf", "nan", "NaN", "infinity",
		"\x00", "1\x00", "\x001", "1/2", "1:", "/", ":", "*", ",", "1\xff", "\xff", "\xb1", "\x81", "１", "1５", "−1", "٣", "1e５", "1²",
	} {
		if v, e := Parse(s); v != 0 || e != api.ErrSyntax {
			t.Errorf("%q: %d, %d", s, v, e)
		}
	}
}

func TestP4_1ParseOfEachByte(t *testing.T) {
	for b := range 256 {
		one := string([]byte{byte(b)})
		for _, s := range []string{one, "1" + one, "." + one, "1e" + one, one + "1", "1e5" + one, "-" + one} {
			want := api.ErrSyntax
			if isNumber(s) {
				want = api.OK
				if s == "1e"+one && b >= '5' || strings.HasPrefix(s, "1e5") && len(s) > 3 && b != '.' {
					want = api.ErrRange
				}
			}
			if _, e := Parse(s); e != want {
				t.Errorf("%q: %d, want %d", s, e, want)
			}
		}
	}
}

func TestP4_1ParseHalves(t *testing.T) {
	const half = "0.00000762939453125" // 2^-17
	checkParse(t, []parsed{
		{half, 1, api.OK},
		{"-" + half, 0, api.OK},
		{half + noughts(50), 1, api.OK},
		{"-" + half + noughts(50), 0, api.OK},
		{half + "1", 1, api.OK},
		{"-" + half + "1", -1, api.OK},
		{half + noughts(5000) + "1", 1, api.OK},
		{"-" + half + noughts(5000) + "1", -1, api.OK},
		{"-" + half + noughts(1<<20) + "1", -1, api.OK},
		{"0.00000762939453124", 0, api.OK},
		{"-0.00000762939453124", 0, api.OK},
		{"-0.00000762939453126", -1, api.OK},
		{"0.00000762939453124" + strings.Repeat("9", 5000), 0, api.OK},
		{"762939453125e-17", 1, api.OK},
		{"-762939453125e-17", 0, api.OK},
		{"-762939453125000000000000000000000000001e-44", -1, api.OK},
		{"0.00002288818359375", 2, api.OK}, // 3 times 2^-17
		{"-0.00002288818359375", -1, api.OK},
		{"-0.000022888183593750000000000000000001", -2, api.OK},
		{"0.0000228881835937499999999999999999999", 1, api.OK},
		{"1.00000762939453125", 65537, api.OK},
		{"-1.00000762939453125", -65536, api.OK},
		{"-1.000007629394531250" + noughts(400) + "2", -65537, api.OK},
		{"12345.00000762939453125", 12345<<16 + 1, api.OK},
		{"-12345.00000762939453125", -12345 << 16, api.OK},
		{"0.0000152587890625", 1, api.OK}, // 2^-16, just
		{"-0.0000152587890625", -1, api.OK},
		{"0.00000000000000001", 0, api.OK},
		{"-0.00000000000000001", 0, api.OK},
	})
}

func TestP4_1ParseBounds(t *testing.T) {
	checkParse(t, []parsed{
		{"65535", 65535 << 16, api.OK},
		{"-65535", -65535 << 16, api.OK},
		{"65535.9999847412109375", great, api.OK},
		{"-65535.9999847412109375", -great, api.OK},
		{"65535.99999237060546874", great, api.OK}, // just below the half ahead of 2^32
		{"65535.99999237060546874" + strings.Repeat("9", 3000), great, api.OK},
		{"65535.99999237060546875", 0, api.ErrRange}, // that half goes to 2^32
		{"65535.99999237060546875" + noughts(3000) + "1", 0, api.ErrRange},
		{"-65535.99999237060546875", -great, api.OK}, // and this one to -2^32 + 1
		{"-65535.99999237060546875" + noughts(3000), -great, api.OK},
		{"-65535.99999237060546875" + noughts(3000) + "1", 0, api.ErrRange},
		{"-65535.99999237060546876", 0, api.ErrRange},
		{"65535.99999999999999999999", 0, api.ErrRange},
		{"-65535.99999999999999999999", 0, api.ErrRange},
		{"65536", 0, api.ErrRange},
		{"-65536", 0, api.ErrRange},
		{"65536.0", 0, api.ErrRange},
		{"65536.00001", 0, api.ErrRange},
		{"-65536.00001", 0, api.ErrRange},
		{"6.5536e4", 0, api.ErrRange},
		{"6553599e-2", 4294966641, api.OK},
		{"99999", 0, api.ErrRange},
		{"100000", 0, api.ErrRange},
		{"-100000", 0, api.ErrRange},
		{"1e5", 0, api.ErrRange},
		{"4294967296", 0, api.ErrRange},
		{"18446744073709551616", 0, api.ErrRange}, // 2^64, and so on: none may come round
		{"18446744073709551617", 0, api.ErrRange},
		{"281474976710656", 0, api.ErrRange},
		{"340282366920938463463374607431768211456", 0, api.ErrRange},
		{"-9223372036854775808", 0, api.ErrRange},
	})
}

func TestP4_1ParseManyNoughts(t *testing.T) {
	for _, count := range []int{1, 5, 17, 18, 22, 23, 64, 1000, 1 << 20} {
		z := noughts(count)
		checkParse(t, []parsed{
			{z, 0, api.OK},
			{"-" + z, 0, api.OK},
			{z + "1", 65536, api.OK},
			{z + "1." + z, 65536, api.OK},
			{z + "." + z, 0, api.OK},
			{"." + z + "e99", 0, api.OK},
			{z + ".5" + z, 32768, api.OK},
			{"-" + z + "65535." + z, -65535 << 16, api.OK},
			{z + "65536", 0, api.ErrRange},
			{"1e" + z + "1", 655360, api.OK},
			{"1e-" + z + "1", 6554, api.OK},
			{"1e+" + z, 65536, api.OK},
		})
	}
}

func TestP4_1ParsePowersThatOutweighDigits(t *testing.T) {
	z := noughts(99)
	checkParse(t, []parsed{
		{"." + z + "15e100", 98304, api.OK},
		{"-0." + z + "15e+100", -98304, api.OK},
		{"15" + z + "e-100", 98304, api.OK},
		{"-15" + z + ".0e-100", -98304, api.OK},
		{"." + z + "65536e104", 0, api.ErrRange},
		{"." + z + "65535e104", 65535 << 16, api.OK},
		{"1" + z + "e-95", 10000 << 16, api.OK},
		{"1" + z + "e-94", 0, api.ErrRange},
		{"1" + z + "e-104", 1, api.OK},
		{"7" + z + "e-105", 0, api.OK},
		{"8" + z + "e-105", 1, api.OK},
		{"-8" + z + "e-105", -1, api.OK},
		{"9" + z + "e-106", 0, api.OK},
		{"0.5e-4", 3, api.OK},
		{"1e4", 10000 << 16, api.OK},
		{"6e4", 60000 << 16, api.OK},
		{"7e4", 0, api.ErrRange},
		{".1e6", 0, api.ErrRange},
		{".1e5", 10000 << 16, api.OK},
	})
}

func TestP4_1ParsePowersOfManyDigits(t *testing.T) {
	powers := []string{
		"99", "2147483647", "2147483648", "4294967296", "9223372036854775807", "9223372036854775808", "18446744073709551615", "18446744073709551616", "18446744073709551617",
		"1125899906842623", "1125899906842624", "1125899906842625", "340282366920938463463374607431768211456", "99999999999999999999999999", "1" + noughts(64), "1" + noughts(1<<20), strings.Repeat("9", 1<<20), noughts(1<<20) + "77",
	}
	for _, p := range powers {
		checkParse(t, []parsed{
			{"1e" + p, 0, api.ErrRange},
			{"-1e+" + p, 0, api.ErrRange},
			{".0001E" + p, 0, api.ErrRange},
			{"1e-" + p, 0, api.OK},
			{"-1E-" + p, 0, api.OK},
			{"65536e-" + p, 0, api.OK},
			{"0e" + p, 0, api.OK},
			{"-.000e" + p, 0, api.OK},
			{"0e-" + p, 0, api.OK},
		})
	}
	long := noughts(1 << 20)
	checkParse(t, []parsed{
		{"." + long + "1e1048577", 65536, api.OK},
		{"." + long + "1e1048581", 10000 << 16, api.OK},
		{"." + long + "1e1048582", 0, api.ErrRange},
		{"." + long + "1e1048576", 6554, api.OK},
		{"1" + long + "e-1048576", 65536, api.OK},
		{"1" + long + "e-1048571", 0, api.ErrRange},
		{"1" + long + "e-1048580", 7, api.OK},
		{"." + long + "1e10485770", 0, api.ErrRange}, // a power of one digit more than outweighs just as many
		{"1" + long + "e-10485760", 0, api.OK},
		{"1" + long + "e-1125899906842624", 0, api.OK},
		{"." + long + "1e1125899906842624", 0, api.ErrRange},
	})
}

func TestP4_1ParseOfEachShortText(t *testing.T) {
	for _, s := range texts("07+-.eEx", 6) {
		wantValue, want := int64(0), api.ErrSyntax
		if isNumber(s) {
			wantValue, want = bigNearest(s)
		}
		if v, e := Parse(s); v != wantValue || e != want {
			t.Fatalf("%q: %d, %d, want %d, %d", s, v, e, wantValue, want)
		}
	}
}

// spelt writes n over 10^places in some of the ways that it has.
func spelt(n *big.Int, places int) []string {
	sign, digits := "", n.String()
	if n.Sign() < 0 {
		sign, digits = "-", digits[1:]
	}
	if len(digits) <= places {
		digits = noughts(places-len(digits)+1) + digits
	}
	cut := len(digits) - places
	p := big.NewInt(int64(places)).String()
	return []string{
		sign + digits[:cut] + "." + digits[cut:],
		sign + digits + "e-" + p,
		sign + "." + digits + "E+" + big.NewInt(int64(cut)).String(),
		sign + "000" + digits[:1] + "." + digits[1:] + "000e" + big.NewInt(int64(cut-1)).String(),
	}
}

// About each half between two numbers: just it, and what lies the least bit beside it, to many places.
func TestP4_1ParseHoldsWithBigNumbers(t *testing.T) {
	for _, v := range mixed(3000) {
		n := v % (api.Bound + 3)
		for _, places := range []int{17, 18, 19, 30, 90} {
			half := new(big.Int).Exp(big.NewInt(10), big.NewInt(int64(places)), nil)
			half.Mul(half, big.NewInt(2*n+1))
			half.Rsh(half, 17) // 10^17 holds 2^17, so nothing is left over
			for off := int64(-1); off <= 1; off++ {
				for _, s := range spelt(new(big.Int).Add(half, big.NewInt(off)), places) {
					wantValue, want := bigNearest(s)
					if got, e := Parse(s); got != wantValue || e != want {
						t.Fatal(s, got, e, "want", wantValue, want)
					}
				}
			}
		}
	}
}

type scanned struct {
	s      string
	at     int
	signed bool
	end    int
	whole  bool
}

func checkScan(t *testing.T, l []scanned) {
	t.Helper()
	for _, c := range l {
		if end, whole := Scan(c.s, c.at, c.signed); end != c.end || whole != c.whole {
			t.Errorf("%.60q, %d, %t: %d, %t, want %d, %t", c.s, c.at, c.signed, end, whole, c.end, c.whole)
		}
	}
}

func TestP4_2Scan(t *testing.T) {
	checkScan(t, []scanned{
		{"12 3", 0, true, 2, true},
		{"12 3", 1, true, 2, true},
		{"12 3", 3, true, 4, true},
		{"1.5-2", 0, true, 3, true},
		{"1.5-2", 3, true, 5, true},
		{"1.5-2", 3, false, 3, false},
		{"1.5.5", 0, true, 3, true},
		{"1.5.5", 1, true, 3, true},
		{"1..5", 0, true, 2, true},
		{"1..5", 2, true, 4, true},
		{"+1", 0, true, 2, true},
		{"+1", 0, false, 0, false},
		{"+1", 1, false, 2, true},
		{"-.5", 0, true, 3, true},
		{"-.5", 0, false, 0, false},
		{".5", 0, false, 2, true},
		{"5.", 0, false, 2, true},
		{"5.x", 0, true, 2, true},
		{"5.e1x", 0, true, 4, true},
		{"1e5", 0, true, 3, true},
		{"1e+5", 0, false, 4, true}, // the power's sign is none ahead
		{"1E-05,", 0, false, 5, true},
		{"1e5.5", 0, true, 3, true},
		{"1e5-5", 0, true, 3, true},
		{"10z", 0, true, 2, true},
		{"1\xff", 0, true, 1, true},
	})
}

func TestP4_2ScanWhereNoneBegins(t *testing.T) {
	checkScan(t, []scanned{
		{"", 0, true, 0, false},
		{"", 0, false, 0, false},
		{"x", 0, true, 0, false},
		{"12 3", 2, true, 2, false},
		{"e5", 0, true, 0, false},
		{"-", 0, true, 1, false},
		{"-", 0, false, 0, false},
		{"-x", 0, true, 1, false},
		{"--1", 0, true, 1, false},
		{"--1", 0, false, 0, false},
		{"+-1", 0, true, 1, false},
		{".", 0, true, 1, false},
		{".", 0, false, 1, false},
		{".x", 0, false, 1, false},
		{"..1", 0, true, 1, false},
		{".e5", 0, true, 1, false},
		{".-1", 0, true, 1, false},
		{"-.", 0, true, 2, false},
		{"-.e", 0, true, 2, false},
		{"-e1", 0, true, 1, false},
		{"a-.b", 1, true, 3, false},
		{"１", 0, true, 0, false},
		{" 1", 0, true, 0, false},
		{",1", 0, true, 0, false},
		{"/", 0, true, 0, false},
		{":", 0, true, 0, false},
	})
}

func TestP4_2ScanPowersWithoutADigit(t *testing.T) {
	checkScan(t, []scanned{
		{"1e", 0, true, 2, false},
		{"1E", 0, false, 2, false},
		{"1e+", 0, true, 3, false},
		{"1E-", 0, true, 3, false},
		{"1ex", 0, true, 2, false},
		{"1e-x5", 0, true, 3, false},
		{"1e--5", 0, true, 3, false},
		{"1e.5", 0, true, 2, false},
		{"1ee5", 0, true, 2, false},
		{"1e 5", 0, true, 2, false},
		{"-1.e", 0, true, 4, false},
		{".5E+", 0, true, 4, false},
		{"xx7e", 2, true, 4, false},
		{"1e5e", 0, true, 3, true}, // a text has one power: behind it no letter goes on
		{"1e5e5", 0, true, 3, true},
		{"1e5e+", 0, true, 3, true},
	})
}

func TestP4_2ScanPlaces(t *testing.T) {
	checkScan(t, []scanned{
		{"12", 2, true, 2, false}, // the end itself
		{"12", 2, false, 2, false},
		{"12", 3, true, 0, false},
		{"12", 4, false, 0, false},
		{"12", -1, true, 0, false},
		{"12", math.MaxInt, true, 0, false},
		{"12", math.MinInt, false, 0, false},
		{"", 1, true, 0, false},
		{"", -1, true, 0, false},
	})
	long := strings.Repeat("7", 1<<20)
	checkScan(t, []scanned{
		{long, 0, true, 1 << 20, true},
		{long, 1 << 19, false, 1 << 20, true},
		{long + "." + long + "e" + long + "e", 0, true, 3<<20 + 2, true},
		{long + "e+", 0, true, 1<<20 + 2, false},
	})
}

// wantScan is by the chapter's words: the longest text that is one, but none where a letter behind it lacks its digit; else the first byte with which none goes on.
func wantScan(s string, signed bool) (int, bool) {
	for end := len(s); end > 0; end-- {
		if !isNumber(s[:end]) || !signed && strings.ContainsAny(s[:1], "+-") {
			continue
		}
		if isNumber(s[:end] + "e0") { // it has no power yet
			if l := lackingPower.FindString(s[end:] + "|"); l != "" {
				return end + len(l) - 1, false
			}
		}
		return end, true
	}
	end := 0
	for end < len(s) && goesOn(s[:end+1], signed) {
		end++
	}
	return end, false
}

var lackingPower = regexp.MustCompile(`^[eE]([+-][^0-9]|[^0-9+-])`)

func goesOn(s string, signed bool) bool {
	return (isNumber(s) || isNumber(s+"0")) && (signed || !strings.ContainsAny(s[:1], "+-"))
}

func TestP4_2ScanOfEachShortText(t *testing.T) {
	for _, s := range texts("07+-.eEx", 6) {
		for _, signed := range []bool{false, true} {
			wantEnd, want := wantScan(s, signed)
			if end, whole := Scan(s, 0, signed); end != wantEnd || whole != want {
				t.Fatalf("%q, %t: %d, %t, want %d, %t", s, signed, end, whole, wantEnd, want)
			}
		}
	}
}

func TestP4_2ScanBeginsAtItsPlaceAlone(t *testing.T) {
	for _, s := range texts("7-.ex", 5) {
		for at := range len(s) + 1 {
			for _, signed := range []bool{false, true} {
				wantEnd, want := Scan(s[at:], 0, signed)
				if end, whole := Scan(s, at, signed); end != at+wantEnd || whole != want {
					t.Fatalf("%q, %d, %t: %d, %t, want %d, %t", s, at, signed, end, whole, at+wantEnd, want)
				}
			}
		}
	}
}

func TestP4_3Print(t *testing.T) {
	for _, c := range []struct {
		v int64
		s string
	}{
		{0, "0"},
		{1, "0.0000152587890625"},
		{-1, "-0.0000152587890625"},
		{2, "0.000030517578125"},
		{32768, "0.5"},
		{-32768, "-0.5"},
		{65535, "0.9999847412109375"},
		{65536, "1"},
		{-65536, "-1"},
		{65537, "1.0000152587890625"},
		{98304, "1.5"},
		{-98304, "-1.5"},
		{10 << 16, "10"},
		{-100 << 16, "-100"},
		{100<<16 + 4096, "100.0625"},
		{great, "65535.9999847412109375"},
		{-great, "-65535.9999847412109375"},
		{api.Bound, "65536"},
		{-api.Bound, "-65536"},
		{most, "140737488355327.9999847412109375"},
		{-most, "-140737488355327.9999847412109375"},
		{least, "-140737488355328"},
		{least + 1<<15, "-140737488355327.5"},
	} {
		if s := Print(c.v); s != c.s {
			t.Error(c, s)
		}
	}
}

// shortest is a number's text with nothing in it that it could do without.
var shortest = regexp.MustCompile(`^-?(0|[1-9][0-9]*)(\.[0-9]*[1-9])?$`)

func checkPrint(t *testing.T, v int64) {
	t.Helper()
	s := Print(v)
	if !shortest.MatchString(s) || strings.HasPrefix(s, "-") != (v < 0) {
		t.Fatal(v, s)
	}
	if told, ok := new(big.Rat).SetString(s); !ok || told.Cmp(big.NewRat(v, api.One)) != 0 {
		t.Fatal(v, s)
	}
}

func TestP4_3PrintIsExactAndShortest(t *testing.T) {
	for _, v := range edges() {
		checkPrint(t, v)
	}
	for _, v := range mixed(20000) {
		checkPrint(t, v)
	}
	for v := int64(-1 << 17); v <= 1<<17; v++ {
		checkPrint(t, v)
	}
}

// checkAgain tells ErrRange of what is too great: it is printed all the same.
func checkAgain(t *testing.T, v int64) {
	t.Helper()
	want, wantError := v, api.OK
	if v <= -api.Bound || v >= api.Bound {
		want, wantError = 0, api.ErrRange
	}
	s := Print(v)
	if got, e := Parse(s); got != want || e != wantError {
		t.Fatal(v, s, got, e)
	}
	if end, whole := Scan(s, 0, true); end != len(s) || !whole {
		t.Fatal(v, s, end, whole)
	}
}

func TestP4_4WhatIsPrintedIsParsedAsItWas(t *testing.T) {
	for _, v := range edges() {
		checkAgain(t, v)
	}
	for _, v := range mixed(20000) {
		checkAgain(t, v)
		checkAgain(t, v%api.Bound)
	}
	for v := int64(-1 << 17); v <= 1<<17; v++ {
		checkAgain(t, v)
	}
}
