package decimal_test

import (
	"strings"
	"testing"

	"tripwire/api"
	"tripwire/decimal"
)

func TestPlacesThatAreNone(t *testing.T) {
	for _, places := range []int{-1, 10, 11, -9, 64, most, least} {
		// ErrArg comes ahead of whatever else is wrong.
		for _, s := range []string{"1", "", "x", "1.5", "9223372036854775808", "-"} {
			expectParse(t, s, places, 0, api.ErrArg, 0)
		}
		for _, n := range []int64{0, 1, -1, least, most} {
			expectPrint(t, n, places, "", api.ErrArg)
		}
	}
}

func TestPrintWithEveryNumberOfPlaces(t *testing.T) {
	for _, c := range []struct {
		n    int64
		want [api.MaxPlaces + 1]string
	}{
		{0, [...]string{"0", "0.0", "0.00", "0.000", "0.0000", "0.00000", "0.000000", "0.0000000", "0.00000000", "0.000000000"}},
		{1, [...]string{"1", "0.1", "0.01", "0.001", "0.0001", "0.00001", "0.000001", "0.0000001", "0.00000001", "0.000000001"}},
		{-1, [...]string{"-1", "-0.1", "-0.01", "-0.001", "-0.0001", "-0.00001", "-0.000001", "-0.0000001", "-0.00000001", "-0.000000001"}},
		{-1200, [...]string{"-1200", "-120.0", "-12.00", "-1.200", "-0.1200", "-0.01200", "-0.001200", "-0.0001200", "-0.00001200", "-0.000001200"}},
		{most, [...]string{"9223372036854775807", "922337203685477580.7", "92233720368547758.07", "9223372036854775.807", "922337203685477.5807", "92233720368547.75807", "9223372036854.775807", "922337203685.4775807", "92233720368.54775807", "9223372036.854775807"}},
		{least, [...]string{"-9223372036854775808", "-922337203685477580.8", "-92233720368547758.08", "-9223372036854775.808", "-922337203685477.5808", "-92233720368547.75808", "-9223372036854.775808", "-922337203685.4775808", "-92233720368.54775808", "-9223372036.854775808"}},
	} {
		for places, want := range c.want {
			expectPrint(t, c.n, places, want, api.OK)
			expectParse(t, want, places, c.n, api.OK, 0)
		}
	}
}

// One beyond the least and the greatest number, with every number of places, and fewer digits than places.
func TestBeyondTheBounds(t *testing.T) {
	const beyondMost, beyondLeast = "9223372036854775808", "9223372036854775809"
	for places := 0; places <= api.MaxPlaces; places++ {
		point := func(digits string) string {
			if places == 0 {
				return digits
			}
			return digits[:len(digits)-places] + "." + digits[len(digits)-places:]
		}
		expectParse(t, point(beyondMost), places, 0, far, 0)
		expectParse(t, "-"+point(beyondLeast), places, 0, far, 0)
		expectParse(t, "-"+point(beyondMost), places, least, api.OK, 0)
		expectParse(t, point("9223372036854775810"), places, 0, far, 0)
		expectParse(t, "1"+strings.Repeat("0", 19-places), places, 0, far, 0)
		expectParse(t, "-1"+strings.Repeat("0", 19-places), places, 0, far, 0)
		expectParse(t, "1"+strings.Repeat("0", 18-places), places, 1000000000000000000, api.OK, 0)
	}
	// The noughts that are put behind carry these out of bounds, not their own digits.
	expectParse(t, "9223372037", 9, 0, far, 0)
	expectParse(t, "-9223372037", 9, 0, far, 0)
	expectParse(t, "9223372036", 9, 9223372036000000000, api.OK, 0)
	expectParse(t, "-9223372036.9", 9, 0, far, 0)
	expectParse(t, "9223372036.8", 9, 9223372036800000000, api.OK, 0)
	expectParse(t, "18446744073709551616", 0, 0, far, 0)
	expectParse(t, "18446744073709551617", 0, 0, far, 0)
	expectParse(t, "-18446744073709551616", 0, 0, far, 0)
}

func TestNoughts(t *testing.T) {
	for places := 0; places <= api.MaxPlaces; places++ {
		expectParse(t, "0", places, 0, api.OK, 0)
		expectParse(t, "-0", places, 0, api.OK, 0)
		for behind := 1; behind <= places; behind++ {
			expectParse(t, "0."+strings.Repeat("0", behind), places, 0, api.OK, 0)
			expectParse(t, "-0."+strings.Repeat("0", behind), places, 0, api.OK, 0)
		}
		expectParse(t, "00", places, 0, form, 1)
		expectParse(t, "-00", places, 0, form, 2)
		expectParse(t, "-01", places, 0, form, 2)
	}
}

func TestDigitsBehindThePoint(t *testing.T) {
	want := int64(700000000)
	for behind := 1; behind <= api.MaxPlaces; behind++ {
		digits := strings.Repeat("0", behind-1) + "7"
		for places := 0; places <= api.MaxPlaces; places++ {
			at := 2 + places
			if places == 0 {
				at = 1
			}
			if behind > places {
				expectParse(t, "0."+digits, places, 0, form, at)
				expectParse(t, "-3."+digits, places, 0, form, at+1)
			}
		}
		expectParse(t, "0."+digits, api.MaxPlaces, want, api.OK, 0)
		expectParse(t, "-0."+digits, api.MaxPlaces, -want, api.OK, 0)
		expectParse(t, "0."+digits, behind, 7, api.OK, 0)
		want /= 10
	}
	expectParse(t, "3.1", 2, 310, api.OK, 0)
	expectParse(t, "3.14", 2, 314, api.OK, 0)
	expectParse(t, "-3.14", 2, -314, api.OK, 0)
	expectParse(t, "3.141", 2, 0, form, 4)
	expectParse(t, "3", 2, 300, api.OK, 0)
	expectParse(t, "3.100", 2, 0, form, 4)
}

func TestTextsThatAreNone(t *testing.T) {
	for _, c := range []struct {
		s           string
		with0, with int // the place with no places, and with three
	}{
		{"", 0, 0}, {"-", 1, 1}, {"--", 1, 1}, {"--1", 1, 1}, {"+", 0, 0}, {"+1", 0, 0}, {"-+1", 1, 1},
		{".", 0, 0}, {".5", 0, 0}, {"-.", 1, 1}, {"-.5", 1, 1},
		{"0.", 1, 2}, {"1.", 1, 2}, {"-1.", 2, 3}, {"12.", 2, 3}, {"1..", 1, 2}, {"1..5", 1, 2}, {"1.5.", 1, 3}, {"1.555.", 1, 5}, {"1.5.5", 1, 3},
		{"1.-5", 1, 2}, {"1-", 1, 1}, {"1-2", 1, 1}, {"1.5-", 1, 3}, {"-1-", 2, 2},
		{"01", 1, 1}, {"01.5", 1, 1}, {"00.5", 1, 1}, {"-01", 2, 2},
		{"1,5", 1, 1}, {"1_000", 1, 1}, {"1e3", 1, 1}, {"0x10", 1, 1}, {"1/", 1, 1}, {"1:", 1, 1}, {"/1", 0, 0}, {":1", 0, 0}, {"1./", 1, 2}, {"1.:", 1, 2},
		{" ", 0, 0}, {"\n1", 0, 0}, {"1\n", 1, 1}, {"\x00", 0, 0}, {"1\x00", 1, 1}, {"\xff", 0, 0}, {"1\xff", 1, 1}, {"1.\xff", 1, 2},
		{"\uff11", 0, 0}, {"1\uff11", 1, 1}, {"\u22121", 0, 0}, {"1\u00b7", 1, 1}, {"NaN", 0, 0}, {"Inf", 0, 0}, {"-Inf", 1, 1},
	} {
		expectParse(t, c.s, 0, 0, form, c.with0)
		expectParse(t, c.s, 3, 0, form, c.with)
	}
}

// A byte that is none, at each place of a right text: all ahead of it counts, and nothing behind it.
func TestAWrongByteAtEachPlace(t *testing.T) {
	for _, right := range []string{"-1234.567", "1234.567", "-1234", "1234", "-0.567", "0.5"} {
		for at := 0; at <= len(right); at++ {
			for _, wrong := range []string{" ", "x", "+", "\x00", "/", ":"} {
				expectParse(t, right[:at]+wrong+right[at:], 3, 0, form, at)
			}
		}
	}
}

func TestFormComesAheadOfRange(t *testing.T) {
	expectParse(t, "99999999999999999999x", 2, 0, form, 20)
	expectParse(t, "-99999999999999999999 ", 2, 0, form, 21)
	expectParse(t, "99999999999999999999.", 2, 0, form, 21)
	expectParse(t, "99999999999999999999.123", 2, 0, form, 23)
	expectParse(t, "99999999999999999999.12", 2, 0, far, 0)
	expectParse(t, "99999999999999999999.5", 0, 0, form, 20)
}

func TestFarLongerThanAnyNumber(t *testing.T) {
	const many = 1 << 20
	nines := strings.Repeat("9", many)
	noughts := strings.Repeat("0", many)
	for _, places := range []int{0, 1, 9} {
		expectParse(t, nines, places, 0, far, 0)
		expectParse(t, "-"+nines, places, 0, far, 0)
		expectParse(t, "1"+noughts, places, 0, far, 0)
		expectParse(t, noughts, places, 0, form, 1)
		expectParse(t, "-"+noughts, places, 0, form, 2)
		expectParse(t, nines+"x", places, 0, form, many)
		expectParse(t, "-"+nines+"-", places, 0, form, many+1)
	}
	expectParse(t, nines+".9", 1, 0, far, 0)
	expectParse(t, nines+".99", 1, 0, form, many+2)
	expectParse(t, nines+".", 9, 0, form, many+1)
	expectParse(t, nines+".9", 0, 0, form, many)
	expectParse(t, "0."+noughts, 9, 0, form, 11)
	expectParse(t, "0."+nines, 9, 0, form, 11)
	expectParse(t, "0."+nines, 0, 0, form, 1)
}

// A text cut out of another one ends where it ends.
func TestWhatLiesBehindATextIsNotRead(t *testing.T) {
	whole := "-12.345x"
	expectParse(t, whole[:3], 2, -1200, api.OK, 0)
	expectParse(t, whole[:4], 2, 0, form, 4)
	expectParse(t, whole[:6], 2, -1234, api.OK, 0)
	expectParse(t, whole[1:2], 2, 100, api.OK, 0)
	expectParse(t, whole[:0], 2, 0, form, 0)
}

func TestTheSameAgain(t *testing.T) {
	for range 3 {
		expectParse(t, "12.5", 2, 1250, api.OK, 0)
		expectParse(t, "12.x", 2, 0, form, 3)
		expectParse(t, "99999999999999999999", 2, 0, far, 0)
		expectPrint(t, -1250, 2, "-12.50", api.OK)
	}
	if n, e, at := decimal.Parse("-12.5", 2); n != -1250 || e != api.OK || at != 0 {
		t.Error(n, e, at)
	}
}
