package share_test

import (
	"math"
	"math/big"
	"strings"
	"testing"

	"wardmote/api"
	"wardmote/share"
	"wardmote/wide"
)

// P2.5

func TestText(t *testing.T) {
	for _, a := range append(edges(), samples(300)...) {
		want := ratOf(a).RatString()
		if got, e := share.Text(a); got != want || e != api.OK {
			t.Errorf("Text: %q, error %d; want %q", got, e, want)
		}
	}
	for text, a := range map[string]api.Share{
		"0": whole(api.Wide{}), "4": whole(wide.Of(4)), "-3/2": {N: wide.Of(-3), D: wide.Of(2)},
		bigOf(least).String(): whole(least), "1/" + bigOf(greatest).String(): over(greatest),
	} {
		if got, e := share.Text(a); got != text || e != api.OK {
			t.Errorf("Text: %q, error %d; want %q", got, e, text)
		}
	}
	for _, bad := range invalid() {
		got, e := share.Text(bad)
		checkError(t, got, e, api.ErrShare, "Text", bad)
	}
}

func TestParse(t *testing.T) {
	for text, want := range map[string]api.Share{
		"0": whole(api.Wide{}), "-17": whole(wide.Of(-17)), "-3/2": {N: wide.Of(-3), D: wide.Of(2)}, "1/10": over(wide.Of(10)),
		bigOf(least).String(): whole(least), bigOf(least).String() + "/3": {N: least, D: wide.Of(3)}, "1/" + bigOf(greatest).String(): over(greatest),
	} {
		if got, e := share.Parse(text); got != want || e != api.OK {
			t.Errorf("Parse(%q): %v, error %d", text, got, e)
		}
	}
}

func TestParseRejectsWhatIsNoText(t *testing.T) {
	long := strings.Repeat("9", 1000)
	for _, text := range []string{
		// no text of an integer, and perhaps one of a positive integer
		"", "/", "//", "-", "-/2", "/2", "1/", "-0", "-0/2", "017", "017/2", "1/02", "1/+2", "+1/2", "1/-2", "3/-1", "1/-0", "1/0", "0/0",
		"1/2/3", "1//2", "1/2/", "/1/2", " 1/2", "1 /2", "1/ 2", "1/2 ", "1/2\n", "1.5", "1/2.5", "0x1/2", "1/0x2", "a", "a/b", "1-2", "1/2-3",
		"1\\2", "1\x00/2", "1/2\x00", "1/\xff", "\xff/2", "\u0661/2", "1/\u0662", "1\u20442", "--1/2",
		// also where a number is beyond the limits
		long + "/", "-" + long + "/0", long + "/-1", long + "/-" + long, long + "/02", "x/" + long, "/" + long, "0" + long + "/2", "1/0" + long, "1/-" + long,
		long + "/" + long + "/1", long + "x", "1/" + long + "x", "-/" + long, "-0/" + long,
		// no text of a valid share
		"2/4", "-2/4", "3/1", "-3/1", "0/1", "0/2", "6/3", bigOf(least).String() + "/2", bigOf(least).String() + "/1",
		bigOf(greatest).String() + "/" + bigOf(greatest).String(), "0/" + bigOf(greatest).String(),
	} {
		got, e := share.Parse(text)
		checkError(t, got, e, api.ErrForm, "Parse", text)
	}
}

func TestParseBeyondTheLimits(t *testing.T) {
	long := strings.Repeat("9", 1000)
	beyond := power(2, 511).String()
	for _, text := range []string{
		beyond, new(big.Int).Sub(bigOf(least), big.NewInt(1)).String(), long, "-" + long,
		"1/" + beyond, beyond + "/3", "-" + long + "/" + long, long + "/7",
		// it is seen before the common divisors
		beyond + "/2", beyond + "/1", "0/" + beyond, beyond + "/" + beyond, "-" + beyond + "/" + beyond, "2/" + beyond,
		strings.Repeat("8", 100000) + "/" + strings.Repeat("8", 100000),
	} {
		got, e := share.Parse(text)
		checkError(t, got, e, api.ErrBig, "Parse", text)
	}
}

// P2.6

// decimal returns the decimal text of x, from the chapter's terms.
func decimal(x *big.Rat, places int) string {
	scaled := new(big.Rat).Mul(x, new(big.Rat).SetInt(power(10, int64(places))))
	nearest := floor(scaled.Add(scaled, number("1/2")))
	sign := ""
	if nearest.Sign() < 0 {
		sign = "-"
	}
	digits := nearest.Abs(nearest).String()
	for len(digits) < places+1 {
		digits = "0" + digits
	}
	if places == 0 {
		return sign + digits
	}
	return sign + digits[:len(digits)-places] + "." + digits[len(digits)-places:]
}

func TestDecimal(t *testing.T) {
	for _, a := range append(edges(), samples(200)...) {
		for _, places := range []int{0, 1, 2, 7, 18, 19, 20} {
			want := decimal(ratOf(a), places)
			if got, e := share.Decimal(a, places); got != want || e != api.OK {
				t.Errorf("Decimal(%v, %d): %q, error %d; want %q", ratOf(a), places, got, e, want)
			}
		}
	}
	for n := -50; n <= 50; n++ {
		a, _ := share.Of(n, 40)
		for places := range 5 {
			want := decimal(ratOf(a), places)
			if got, e := share.Decimal(a, places); got != want || e != api.OK {
				t.Errorf("Decimal(%v, %d): %q, error %d; want %q", ratOf(a), places, got, e, want)
			}
		}
	}
}

func TestDecimalTexts(t *testing.T) {
	zeros := strings.Repeat("0", 20)
	for _, x := range []struct {
		a      api.Share
		places int
		want   string
	}{
		{of("-1/8"), 2, "-0.12"}, {of("1/8"), 2, "0.13"}, {of("1/3"), 4, "0.3333"}, {of("2/3"), 4, "0.6667"}, {of("5/2"), 0, "3"}, {of("-5/2"), 0, "-2"},
		{of("-1/1000"), 2, "0.00"}, {of("-1/2"), 0, "0"}, {of("-3/4"), 0, "-1"}, {of("0"), 0, "0"}, {of("0"), 20, "0." + zeros}, {of("7"), 20, "7." + zeros},
		{of("999/1000"), 2, "1.00"}, {of("-999/1000"), 2, "-1.00"}, {of("12345/100"), 1, "123.5"}, {of("1/100000000000000000000"), 20, "0.00000000000000000001"},
		{over(greatest), 20, "0." + zeros}, {whole(least), 0, bigOf(least).String()}, {whole(least), 20, bigOf(least).String() + "." + zeros},
		{whole(greatest), 20, bigOf(greatest).String() + "." + zeros},
	} {
		if got, e := share.Decimal(x.a, x.places); got != x.want || e != api.OK {
			t.Errorf("Decimal(%v, %d): %q, error %d; want %q", ratOf(x.a), x.places, got, e, x.want)
		}
	}
}

func TestErrorsOfDecimal(t *testing.T) {
	for _, places := range []int{-1, 21, math.MinInt, math.MaxInt} {
		for _, a := range []api.Share{of("0"), of("1/2"), whole(least)} {
			got, e := share.Decimal(a, places)
			checkError(t, got, e, api.ErrArg, "Decimal", a, places)
		}
	}
	for _, bad := range invalid() {
		for _, places := range []int{-1, 0, 20, 21} {
			got, e := share.Decimal(bad, places)
			checkError(t, got, e, api.ErrShare, "Decimal", bad, places)
		}
	}
}

// P2.7

func TestParseInvertsText(t *testing.T) {
	for _, a := range append(edges(), samples(300)...) {
		text, _ := share.Text(a)
		if got, e := share.Parse(text); got != a || e != api.OK {
			t.Errorf("Parse(%q): %v, error %d", text, got, e)
		}
		if len(text) > 320 {
			t.Errorf("Text of %d characters", len(text))
		}
	}
}

func TestDecimalIsNear(t *testing.T) {
	for _, a := range append(edges(), samples(100)...) {
		for _, places := range []int{0, 3, 20} {
			text, _ := share.Decimal(a, places)
			distance := new(big.Rat).Sub(number(text), ratOf(a))
			halfPlace := new(big.Rat).SetFrac(big.NewInt(1), new(big.Int).Mul(big.NewInt(2), power(10, int64(places))))
			if distance.Abs(distance).Cmp(halfPlace) > 0 {
				t.Errorf("Decimal(%v, %d): %q", ratOf(a), places, text)
			}
		}
	}
}
