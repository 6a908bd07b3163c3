package digits_test

import (
	"math"
	"math/big"
	"math/rand"
	"strings"
	"testing"

	"hackle/api"
	"hackle/digits"
)

// noBases are numbers that are no base.
func noBases() []int {
	return []int{math.MinInt, -16, -10, -1, 0, 1, 2, 8, 9, 11, 12, 15, 17, 36, 37, 256 + 10, 1<<32 + 16, math.MaxInt}
}

// numbers has all small numbers, those about each power of a base, and others at random.
func numbers() []uint64 {
	all := []uint64{}
	for n := range uint64(1100) {
		all = append(all, n)
	}
	for _, base := range []uint64{2, 10} {
		for p := base; p <= api.MaxInt/base; p *= base {
			all = append(all, p-1, p, p+1)
		}
	}
	for d := range uint64(40) {
		all = append(all, api.MaxInt-d)
	}
	source := rand.New(rand.NewSource(3))
	for range 2000 {
		all = append(all, source.Uint64()>>(1+source.Intn(63)))
	}
	return all
}

// model tells by a row of digits, and by numbers without a limit, what the chapter says of Parse.
func model(s string, base int) (uint64, api.Errno) {
	if base != 10 && base != 16 {
		return 0, api.ErrArg
	}
	if s == "" {
		return 0, api.ErrDigit
	}
	sum := new(big.Int)
	for i := 0; i < len(s); i++ {
		v := strings.IndexByte("0123456789abcdef"[:base], s[i])
		if v < 0 && base == 16 {
			v = strings.IndexByte("0123456789ABCDEF", s[i])
		}
		if v < 0 {
			return 0, api.ErrDigit
		}
		sum.Mul(sum, big.NewInt(int64(base)))
		sum.Add(sum, big.NewInt(int64(v)))
	}
	if !sum.IsInt64() {
		return 0, api.ErrRange
	}
	return sum.Uint64(), api.OK
}

// P3.1

func TestDigitOfEachByte(t *testing.T) {
	for b := range 256 {
		ten, sixteen := -1, -1
		switch {
		case b >= '0' && b <= '9':
			ten, sixteen = b-'0', b-'0'
		case b >= 'a' && b <= 'f':
			sixteen = 10 + b - 'a'
		case b >= 'A' && b <= 'F':
			sixteen = 10 + b - 'A'
		}
		if v := digits.Digit(byte(b), 10); v != ten {
			t.Errorf("Digit(%d, 10) = %d, want %d", b, v, ten)
		}
		if v := digits.Digit(byte(b), 16); v != sixteen {
			t.Errorf("Digit(%d, 16) = %d, want %d", b, v, sixteen)
		}
	}
}

func TestDigitOfNoBase(t *testing.T) {
	for _, base := range noBases() {
		for b := range 256 {
			if v := digits.Digit(byte(b), base); v != -1 {
				t.Errorf("Digit(%d, %d) = %d, want -1", b, base, v)
			}
		}
	}
}

func TestParse(t *testing.T) {
	long := strings.Repeat("0", 100000)
	for _, x := range []struct {
		s    string
		base int
		n    uint64
		e    api.Errno
	}{
		{"00fF", 16, 255, api.OK},
		{"0", 10, 0, api.OK},
		{"0", 16, 0, api.OK},
		{"0000", 10, 0, api.OK},
		{"10", 10, 10, api.OK},
		{"10", 16, 16, api.OK},
		{"0123456789", 10, 123456789, api.OK},
		{"123456789abcdef", 16, 0x123456789abcdef, api.OK},
		{"123456789ABCDEF", 16, 0x123456789abcdef, api.OK},
		{"aBcDeF", 16, 0xabcdef, api.OK},
		{"9223372036854775806", 10, api.MaxInt - 1, api.OK},
		{"9223372036854775807", 10, api.MaxInt, api.OK},
		{"7fffffffffffffff", 16, api.MaxInt, api.OK},
		{long + "9223372036854775807", 10, api.MaxInt, api.OK},
		{long + "7FFFffffffffffff", 16, api.MaxInt, api.OK},
		{long, 10, 0, api.OK},

		{"9223372036854775808", 10, 0, api.ErrRange},
		{"9223372036854775810", 10, 0, api.ErrRange},
		{"9300000000000000000", 10, 0, api.ErrRange},
		{"10000000000000000000", 10, 0, api.ErrRange},
		{"8000000000000000", 16, 0, api.ErrRange},
		{"ffffffffffffffff", 16, 0, api.ErrRange},
		{long + "9223372036854775808", 10, 0, api.ErrRange},
		// Cut down to 64 bits these would be small numbers.
		{"18446744073709551615", 10, 0, api.ErrRange},
		{"18446744073709551616", 10, 0, api.ErrRange},
		{"18446744073709551617", 10, 0, api.ErrRange},
		{"184467440737095516160", 10, 0, api.ErrRange},
		{"10000000000000000", 16, 0, api.ErrRange},
		{"10000000000000001", 16, 0, api.ErrRange},
		{"1" + long, 16, 0, api.ErrRange},
		{"1" + long, 10, 0, api.ErrRange},
		{"1" + long + "1", 10, 0, api.ErrRange},

		{"", 10, 0, api.ErrDigit},
		{"", 16, 0, api.ErrDigit},
		{"a", 10, 0, api.ErrDigit},
		{"g", 16, 0, api.ErrDigit},
		{"G", 16, 0, api.ErrDigit},
		{"-1", 10, 0, api.ErrDigit},
		{"+1", 10, 0, api.ErrDigit},
		{" 1", 10, 0, api.ErrDigit},
		{"1 ", 10, 0, api.ErrDigit},
		{"1_0", 10, 0, api.ErrDigit},
		{"0x1", 16, 0, api.ErrDigit},
		{"1.0", 10, 0, api.ErrDigit},
		{"1\x00", 10, 0, api.ErrDigit},
		{"12\n", 10, 0, api.ErrDigit},

		{"1", 8, 0, api.ErrArg},
	} {
		if n, e := digits.Parse(x.s, x.base); n != x.n || e != x.e {
			t.Errorf("Parse(%.40q, %d) = %d, %d, want %d, %d", x.s, x.base, n, e, x.n, x.e)
		}
	}
}

func TestParseTellsTheFirstError(t *testing.T) {
	for _, base := range noBases() {
		for _, s := range []string{"", "x", "1", "99999999999999999999", "99999999999999999999x"} {
			if n, e := digits.Parse(s, base); n != 0 || e != api.ErrArg {
				t.Errorf("Parse(%q, %d) = %d, %d, want ErrArg", s, base, n, e)
			}
		}
	}
	for _, s := range []string{"x99999999999999999999", "99999999999999999999x", "9999999999x9999999999", "99999999999999999999\xff"} {
		for _, base := range []int{10, 16} {
			if n, e := digits.Parse(s, base); n != 0 || e != api.ErrDigit {
				t.Errorf("Parse(%q, %d) = %d, %d, want ErrDigit", s, base, n, e)
			}
		}
	}
}

// The second byte of some of these texts' characters, or the character cut to a byte, would be a digit.
func TestParseOfBytesThatAreNoDigits(t *testing.T) {
	for _, s := range []string{
		"\xc3\xa9", "\u0130", "\u0661", "\uff11", "\U00010031", "\u0141", "\ufffd",
		"\x80", "\xff", "\xb0", "\xc3", "\xe2\x82", "\xf0\x90\x801", "\xc31", "\xed\xa0\xb0",
	} {
		for _, base := range []int{10, 16} {
			for _, whole := range []string{s, "1" + s, s + "1", "1" + s + "1"} {
				if n, e := digits.Parse(whole, base); n != 0 || e != api.ErrDigit {
					t.Errorf("Parse(%q, %d) = %d, %d, want ErrDigit", whole, base, n, e)
				}
			}
		}
	}
}

func TestParseAgainstModel(t *testing.T) {
	source := rand.New(rand.NewSource(31))
	letters := []string{"0123456789", "0123456789abcdefABCDEF", "01", "789", "fF", "0123456789abcdefABCDEFg:/@`G\x00\xb1"}
	for range 40000 {
		from := letters[source.Intn(len(letters))]
		text := make([]byte, source.Intn(24))
		for i := range text {
			text[i] = from[source.Intn(len(from))]
		}
		for _, base := range []int{10, 16} {
			s := string(text)
			n, e := digits.Parse(s, base)
			if wantN, wantE := model(s, base); n != wantN || e != wantE {
				t.Fatalf("Parse(%q, %d) = %d, %d, want %d, %d", s, base, n, e, wantN, wantE)
			}
		}
	}
}

// P3.2

func TestPrint(t *testing.T) {
	for _, x := range []struct {
		n    uint64
		base int
		s    string
		e    api.Errno
	}{
		{255, 16, "ff", api.OK},
		{255, 10, "255", api.OK},
		{0, 10, "0", api.OK},
		{0, 16, "0", api.OK},
		{9, 10, "9", api.OK},
		{10, 10, "10", api.OK},
		{15, 16, "f", api.OK},
		{16, 16, "10", api.OK},
		{0x123456789abcdef, 16, "123456789abcdef", api.OK},
		{api.MaxInt, 10, "9223372036854775807", api.OK},
		{api.MaxInt, 16, "7fffffffffffffff", api.OK},
		{api.MaxInt + 1, 10, "", api.ErrRange},
		{api.MaxInt + 1, 16, "", api.ErrRange},
		{math.MaxUint64, 10, "", api.ErrRange},
		{math.MaxUint64, 16, "", api.ErrRange},
	} {
		if s, e := digits.Print(x.n, x.base); s != x.s || e != x.e {
			t.Errorf("Print(%d, %d) = %q, %d, want %q, %d", x.n, x.base, s, e, x.s, x.e)
		}
	}
}

func TestPrintOfNoBase(t *testing.T) {
	for _, base := range noBases() {
		for _, n := range []uint64{0, 1, 255, api.MaxInt, api.MaxInt + 1, math.MaxUint64} {
			if s, e := digits.Print(n, base); s != "" || e != api.ErrArg {
				t.Errorf("Print(%d, %d) = %q, %d, want ErrArg", n, base, s, e)
			}
		}
	}
}

func TestPrintAgainstModel(t *testing.T) {
	for _, n := range numbers() {
		for _, base := range []int{10, 16} {
			want := new(big.Int).SetUint64(n).Text(base)
			if s, e := digits.Print(n, base); s != want || e != api.OK {
				t.Fatalf("Print(%d, %d) = %q, %d, want %q", n, base, s, e, want)
			}
		}
	}
}

func TestCanon(t *testing.T) {
	for _, x := range []struct {
		s    string
		base int
		want bool
	}{
		{"0", 10, true}, {"0", 16, true},
		{"00", 10, false}, {"00", 16, false},
		{"01", 10, false}, {"0f", 16, false},
		{"10", 10, true}, {"100", 16, true},
		{"ff", 16, true}, {"FF", 16, false}, {"fF", 16, false}, {"1A", 16, false}, {"1a", 16, true},
		{"ff", 10, false}, {"g", 16, false}, {"", 10, false}, {"", 16, false},
		{"-0", 10, false}, {"+1", 10, false}, {"1 ", 10, false}, {"0x1", 16, false},
		{"\xc3\xa9", 16, false}, {"1\xff", 10, false}, {"\u0661", 10, false},
		{"9223372036854775807", 10, true}, {"9223372036854775808", 10, false},
		{"18446744073709551616", 10, false}, {"18446744073709551617", 10, false},
		{"7fffffffffffffff", 16, true}, {"8000000000000000", 16, false}, {"10000000000000001", 16, false},
	} {
		if got := digits.Canon(x.s, x.base); got != x.want {
			t.Errorf("Canon(%q, %d) = %v", x.s, x.base, got)
		}
	}
}

func TestCanonOfNoBase(t *testing.T) {
	for _, base := range noBases() {
		for _, s := range []string{"", "0", "1", "00", "x"} {
			if digits.Canon(s, base) {
				t.Errorf("Canon(%q, %d) = true", s, base)
			}
		}
	}
}

// P3.3

func TestPrintedIsParsed(t *testing.T) {
	for _, base := range []int{10, 16} {
		for _, n := range numbers() {
			s, _ := digits.Print(n, base)
			if back, e := digits.Parse(s, base); back != n || e != api.OK {
				t.Fatalf("Parse(Print(%d, %d)) = %d, %d", n, base, back, e)
			}
			for _, ahead := range []string{"0", "000", strings.Repeat("0", 70)} {
				if back, e := digits.Parse(ahead+s, base); back != n || e != api.OK {
					t.Fatalf("Parse(%q, %d) = %d, %d, want %d", ahead+s, base, back, e, n)
				}
			}
		}
	}
}

// All texts of at most three bytes out of some are canonical just if they are what is printed of what is parsed.
func TestCanonIsWhatIsPrinted(t *testing.T) {
	from := "019afgAFG/:@` \x00\xc3\xb1"
	texts := []string{""}
	for begin, end := 0, 1; len(texts[begin]) < 3; end = len(texts) {
		for ; begin < end; begin++ {
			for i := range len(from) {
				texts = append(texts, texts[begin]+from[i:i+1])
			}
		}
	}
	for _, s := range texts {
		for _, base := range []int{10, 16} {
			n, e := digits.Parse(s, base)
			want := false
			if e == api.OK {
				printed, _ := digits.Print(n, base)
				want = printed == s
			}
			if got := digits.Canon(s, base); got != want {
				t.Fatalf("Canon(%q, %d) = %v", s, base, got)
			}
		}
	}
}
