package lex_test

import (
	"strings"
	"testing"

	"tripwire/api"
)

// typeOf is what a number's letter tells.
var typeOf = map[string]api.Type{"": api.TypeInt, "q": api.TypeQty, "p": api.TypePrice, "t": api.TypeTime}

func TestNumbersOfOneDigit(t *testing.T) {
	for d := range 10 {
		for letter, kind := range typeOf {
			s := digits[d:d+1] + letter
			expectTokens(t, s, number(s, kind, int64(d), 0), end(len(s)))
			expectTokens(t, " "+s+" ", number(s, kind, int64(d), 1), end(len(s)+2))
		}
	}
}

func TestNoughtsAhead(t *testing.T) {
	for letter := range typeOf {
		for _, s := range []string{"00", "01", "09", "10", "007", "000", "0000000000000000001", "09223372036854775807"} {
			if s == "10" {
				expectTokens(t, s+letter, number(s+letter, typeOf[letter], 10, 0), end(2+len(letter)))
				continue
			}
			expectNoTokens(t, s+letter, wrongNumber, 0)
			expectNoTokens(t, "x "+s+letter, wrongNumber, 2)
		}
	}
	expectNoTokens(t, strings.Repeat("0", most), wrongNumber, 0)
	expectTokens(t, "0 0", number("0", api.TypeInt, 0, 0), number("0", api.TypeInt, 0, 2), end(3))
	expectTokens(t, "0-0", number("0", api.TypeInt, 0, 0), mark("-", 1), number("0", api.TypeInt, 0, 2), end(3))
	// A sign is no part of a number.
	expectTokens(t, "-5", mark("-", 0), number("5", api.TypeInt, 5, 1), end(2))
	expectNoNext(t, "007", 1, wrongNumber)
	expectNext(t, "007", 2, number("7", api.TypeInt, 7, 2), 3)
}

func TestTheGreatestNumber(t *testing.T) {
	for letter, kind := range typeOf {
		for s, n := range map[string]int64{
			"9223372036854775807": greatest,
			"9223372036854775806": greatest - 1,
			"9223372036854775799": greatest - 8,
			"9199999999999999999": 9199999999999999999,
			"1000000000000000000": 1000000000000000000,
			"999999999999999999":  999999999999999999,
			"922337203685477580":  greatest / 10,
			"922337203685477581":  greatest/10 + 1,
		} {
			expectTokens(t, s+letter, number(s+letter, kind, n, 0), end(len(s+letter)))
		}
		for _, s := range []string{
			"9223372036854775808", "9223372036854775809", "9223372036854775810", "9223372036854775817",
			"9300000000000000000", "9999999999999999999",
			"10000000000000000000", "18446744073709551615", "18446744073709551616", "18446744073709551617",
			"27670116110564327423", "36893488147419103232", "92233720368547758070", "99999999999999999999",
			"340282366920938463463374607431768211456",
		} {
			expectNoTokens(t, s+letter, wrongNumber, 0)
			expectNoTokens(t, "( "+s+letter+")", wrongNumber, 2)
		}
		for n := 20; n+len(letter) <= most; n += 1 + n/7 {
			for _, d := range []string{"1", "9"} {
				expectNoTokens(t, d+strings.Repeat("0", n-1)+letter, wrongNumber, 0)
				expectNoTokens(t, strings.Repeat(d, n)+letter, wrongNumber, 0)
			}
		}
		expectNoTokens(t, "1"+strings.Repeat("0", most-1-len(letter))+letter, wrongNumber, 0)
		expectNoTokens(t, "1"+strings.Repeat("0", most-len(letter))+letter, tooLong, 0)
	}
}

func TestWhatStandsBehindALetter(t *testing.T) {
	for letter, kind := range typeOf {
		if letter == "" {
			continue
		}
		s := "12" + letter
		for _, c := range strings.Split(letters+capitals+digits+"_", "") {
			expectNoTokens(t, s+c, wrongNumber, 0)
			expectNoTokens(t, "x="+s+c+" ", wrongNumber, 2)
		}
		for _, m := range theMarks {
			expectTokens(t, s+m, number(s, kind, 12, 0), mark(m, 3), end(3+len(m)))
		}
		for _, c := range strings.Split(blanks, "") {
			expectTokens(t, s+c+"q", number(s, kind, 12, 0), name("q", 4), end(5))
		}
		expectTokens(t, s+"#q", number(s, kind, 12, 0), end(5))
		for _, c := range []string{"&", "|", ".", "$", "\x00", "\x80", "\xff", "@", "[", "`", "\"", "'"} {
			expectNoTokens(t, s+c, wrongByte, 3)
		}
	}
}

func TestWhatStandsBehindDigits(t *testing.T) {
	twelve := number("12", api.TypeInt, 12, 0)
	for _, c := range strings.Split(letters+capitals+"_", "") {
		if typeOf[c] == 0 {
			expectNoTokens(t, "12"+c, wrongNumber, 0)
			expectNoTokens(t, "x 12"+c+"q", wrongNumber, 2)
		}
	}
	for _, m := range theMarks {
		expectTokens(t, "12"+m, twelve, mark(m, 2), end(2+len(m)))
	}
	for _, c := range strings.Split(blanks, "") {
		expectTokens(t, "12"+c+"q", twelve, name("q", 3), end(4))
	}
	for _, c := range []string{"&", "|", ".", "$", "\x00", "\x80", "\xff", "@", "[", "`", "\"", "'", "/&"} {
		at := 2 + strings.Count(c, "/")
		expectNoTokens(t, "12"+c, wrongByte, at)
	}
	// The capital of a type's letter tells no type.
	for _, c := range []string{"Q", "P", "T"} {
		expectNoTokens(t, "12"+c, wrongNumber, 0)
	}
}
