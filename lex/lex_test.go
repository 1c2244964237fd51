package lex_test

import (
	"slices"
	"strings"
	"testing"

	"tripwire/api"
	"tripwire/lex"
)

func TestTheEmptyText(t *testing.T) {
	expectTokens(t, "", end(0))
	expectNext(t, "", 0, end(0), 0)
	expectNoNext(t, "", -1, wrongArg)
	expectNoNext(t, "", 1, wrongArg)
	expectAll(t, "")
}

// A text's length counts whatever it is made of: blanks, one remark, names.
func TestTheLongestTexts(t *testing.T) {
	for _, n := range []int{most - 1, most, most + 1} {
		blank := strings.Repeat(" ", n)
		remark := "#" + strings.Repeat("r", n-1)
		names := strings.Repeat("a ", n)[:n]
		wrong := strings.Repeat("a ", n)[:n-1] + "&"
		if n > most {
			for _, s := range []string{blank, remark, names, wrong, "&" + names[1:], strings.Repeat("a", n), strings.Repeat("1", n)} {
				expectNoTokens(t, s, tooLong, 0)
				expectAll(t, s)
				expectNoNext(t, s, 0, tooLong)
			}
			continue
		}
		expectTokens(t, blank, end(n))
		expectTokens(t, remark, end(n))
		var each []api.Token
		for at := 0; at < n; at += 2 {
			each = append(each, name("a", at))
		}
		expectAll(t, names, each...)
		expectTokens(t, names, append(each, end(n))...)
		expectNoTokens(t, wrong, wrongByte, n-1)
		expectNoTokens(t, "&"+names[1:], wrongByte, 0)
		expectNoTokens(t, strings.Repeat("a", n), wrongName, 0)
		expectNoTokens(t, strings.Repeat("1", n), wrongNumber, 0)
		expectNext(t, blank, n, end(n), n)
		expectNext(t, blank, 0, end(n), n)
		expectNext(t, remark, 0, end(n), n)
	}
}

// alone is what each byte is that stands by itself.
func alone(c byte, at int) ([]api.Token, api.Errno) {
	s := string([]byte{c})
	switch {
	case strings.Contains(blanks+"#", s):
		return nil, api.OK
	case strings.Contains(letters, s):
		return []api.Token{name(s, at)}, api.OK
	case strings.Contains(digits, s):
		return []api.Token{number(s, api.TypeInt, int64(strings.Index(digits, s)), at)}, api.OK
	case slices.Contains(theMarks, s):
		return []api.Token{mark(s, at)}, api.OK
	}
	return nil, wrongByte
}

func TestEachByteByItself(t *testing.T) {
	counts := map[api.Errno]int{}
	for c := range 256 {
		for _, ahead := range []string{"", " ", "\n", "\t\r", "#\n"} {
			s := ahead + string([]byte{byte(c)})
			l, no := alone(byte(c), len(ahead))
			counts[no]++
			if no != api.OK {
				expectNoTokens(t, s, no, len(ahead))
				expectNoNext(t, s, 0, no)
				expectAll(t, s)
				continue
			}
			expectTokens(t, s, append(l, end(len(s)))...)
			expectAll(t, s, l...)
		}
	}
	if counts[wrongByte] != 5*(256-26-10-5-17) {
		t.Errorf("%d bytes begin nothing", counts[wrongByte]/5)
	}
}

func TestEachByteBehindALetter(t *testing.T) {
	for c := range 256 {
		s := "x" + string([]byte{byte(c)})
		if strings.ContainsRune(letters+digits+"_", rune(c)) {
			expectTokens(t, s, name(s, 0), end(2))
			continue
		}
		l, no := alone(byte(c), 1)
		if no != api.OK {
			expectNoTokens(t, s, no, 1)
			expectAll(t, s, name("x", 0))
			continue
		}
		expectTokens(t, s, slices.Concat([]api.Token{name("x", 0)}, l, []api.Token{end(2)})...)
	}
}

func TestEachByteBehindADigit(t *testing.T) {
	types := map[rune]api.Type{'q': api.TypeQty, 'p': api.TypePrice, 't': api.TypeTime}
	for c := range 256 {
		s := "7" + string([]byte{byte(c)})
		switch {
		case types[rune(c)] != 0:
			expectTokens(t, s, number(s, types[rune(c)], 7, 0), end(2))
			continue
		case strings.ContainsRune(digits, rune(c)):
			expectTokens(t, s, number(s, api.TypeInt, 70+int64(c-'0'), 0), end(2))
			continue
		case strings.ContainsRune(letters+capitals+"_", rune(c)):
			expectNoTokens(t, s, wrongNumber, 0)
			expectAll(t, s)
			continue
		}
		l, no := alone(byte(c), 1)
		seven := number("7", api.TypeInt, 7, 0)
		if no != api.OK {
			expectNoTokens(t, s, no, 1)
			expectAll(t, s, seven)
			continue
		}
		expectTokens(t, s, slices.Concat([]api.Token{seven}, l, []api.Token{end(2)})...)
	}
}

func TestEachByteWithinARemark(t *testing.T) {
	for c := range 256 {
		in := string([]byte{byte(c)})
		if c == '\n' {
			expectTokens(t, "x#"+in+"y", name("x", 0), name("y", 3), end(4))
			expectTokens(t, "x#r"+in+"1", name("x", 0), number("1", api.TypeInt, 1, 4), end(5))
			continue
		}
		expectTokens(t, "x#"+in+"y", name("x", 0), end(4))
		expectTokens(t, "x#r"+in+"&\ny", name("x", 0), name("y", 6), end(7))
		expectTokens(t, "#"+in, end(2))
		expectTokens(t, "#"+in+"\n", end(3))
	}
}

func TestEachBlank(t *testing.T) {
	for i := range len(blanks) {
		c := blanks[i : i+1]
		expectTokens(t, c, end(1))
		expectTokens(t, c+c+"x"+c+"1"+c+"<"+c+"="+c,
			name("x", 2), number("1", api.TypeInt, 1, 4), mark("<", 6), mark("=", 8), end(10))
	}
	// What other languages take for blanks is none.
	for _, s := range []string{"\v", "\f", "\x00", "\x85", "\xa0", "\u00a0", "\u2028", "\ufeff"} {
		expectNoTokens(t, "x "+s, wrongByte, 2)
	}
}

func TestRemarks(t *testing.T) {
	for s, want := range map[string][]api.Token{
		"#":               {end(1)},
		"#\n":             {end(2)},
		"# so":            {end(4)},
		"# so\n":          {end(5)},
		"x#":              {name("x", 0), end(2)},
		"x#\n":            {name("x", 0), end(3)},
		"x # so":          {name("x", 0), end(6)},
		"x # so\n":        {name("x", 0), end(7)},
		"x#a#b":           {name("x", 0), end(5)},
		"x#a#b\ny":        {name("x", 0), name("y", 6), end(7)},
		"##\n#\n\n#x\ry":  {end(10)},
		"#a\n#b\nx":       {name("x", 6), end(7)},
		"5#q":             {number("5", api.TypeInt, 5, 0), end(3)},
		"5q#q":            {number("5q", api.TypeQty, 5, 0), end(4)},
		"<#\n=":           {mark("<", 0), mark("=", 3), end(4)},
		"bid#\nder":       {word("bid", 0), name("der", 5), end(8)},
		"a#&\x00\xff A\n": {name("a", 0), end(8)},
		"#a\rb":           {end(4)},
	} {
		expectTokens(t, s, want...)
	}
	expectNoTokens(t, "&#\n&", wrongByte, 0)
	expectNoTokens(t, "a#\n&", wrongByte, 3)
	expectNoTokens(t, "a&#", wrongByte, 1)
	expectNoTokens(t, "a#&\n 07#", wrongNumber, 5)
}

func TestEachWord(t *testing.T) {
	if len(theWords) != 41 {
		t.Fatal(len(theWords))
	}
	met := 0
	expect := func(s string) {
		expectTokens(t, s, said(s, 0), end(len(s)))
		is := slices.Contains(theWords, s)
		expectWord(t, s, is)
		expectName(t, s, !is)
		if is {
			met++
		}
	}
	for _, w := range theWords {
		expect(w)
		for i := range len(letters) {
			expect(w + letters[i:i+1])
			expect(letters[i:i+1] + w)
		}
		for i := range len(digits) {
			expect(w + digits[i:i+1])
			expect(w + "_" + digits[i:i+1])
		}
		expect(w + "_")
		expect(w[:len(w)-1])
		expect(w[1:])
		for _, other := range theWords {
			if len(w+other) <= longest {
				expect(w + other)
			}
		}
		expectNoTokens(t, strings.ToUpper(w), wrongByte, 0)
		expectNoTokens(t, w[:1]+strings.ToUpper(w[1:]), wrongByte, 1)
		expectTokens(t, w+" "+w, word(w, 0), word(w, len(w)+1), end(2*len(w)+1))
	}
	// ask out of as, and the other way round, are words again, and so on.
	if met <= len(theWords) {
		t.Errorf("only %d words were met", met)
	}
}

func TestTheLengthOfANameCounts(t *testing.T) {
	long := "a" + letters + digits + "_" + letters
	for n := 1; n <= longest; n++ {
		expectTokens(t, long[:n], name(long[:n], 0), end(n))
		expectName(t, long[:n], true)
		expectTokens(t, " "+long[:n]+"+", name(long[:n], 1), mark("+", n+1), end(n+2))
	}
	for n := longest + 1; n <= len(long); n++ {
		expectNoTokens(t, long[:n], wrongName, 0)
		expectName(t, long[:n], false)
		expectNoTokens(t, " "+long[:n]+"+", wrongName, 1)
		expectNoNext(t, long[:n], 0, wrongName)
	}
	for _, tail := range []string{"a", "_", "0"} {
		expectNoTokens(t, "abcdefghijklmnop"+tail, wrongName, 0)
	}
	// What cannot be of a name ends it: 16 bytes are not too many then.
	for _, tail := range []string{"A", "&", "\xc8", "."} {
		expectNoTokens(t, "abcdefghijklmnop"+tail, wrongByte, 16)
	}
	for _, w := range theWords {
		s := w + strings.Repeat("_", longest+1-len(w))
		expectNoTokens(t, s, wrongName, 0)
		expectTokens(t, s[:longest], name(s[:longest], 0), end(longest))
	}
	expectNext(t, "abcdefghijklmnopq", 1, name("bcdefghijklmnopq", 1), 17)
}

func TestNamesBegin(t *testing.T) {
	for _, s := range []string{"a", "z", "a0", "z9", "a_", "z__", "a_0", "q", "p", "t", "x1y2"} {
		expectTokens(t, s, name(s, 0), end(len(s)))
	}
	expectNoTokens(t, "_a", wrongByte, 0)
	expectNoTokens(t, "_", wrongByte, 0)
	expectNoTokens(t, "aB", wrongByte, 1)
	expectNoTokens(t, "Ab", wrongByte, 0)
	expectNoTokens(t, "0a", wrongNumber, 0)
	expectNoTokens(t, "a\xc3\xa9", wrongByte, 1)
}

func TestEachMark(t *testing.T) {
	if len(theMarks) != 23 {
		t.Fatal(len(theMarks))
	}
	for _, m := range theMarks {
		n := len(m)
		expectTokens(t, m, mark(m, 0), end(n))
		expectTokens(t, "a"+m+"1", name("a", 0), mark(m, 1), number("1", api.TypeInt, 1, n+1), end(n+2))
		expectTokens(t, "1"+m+"a", number("1", api.TypeInt, 1, 0), mark(m, 1), name("a", n+1), end(n+2))
		expectTokens(t, " "+m+"#", mark(m, 1), end(n+2))
	}
}

// cut is what marks side by side are: the longest that stands there, again and again.
func cut(s string) []api.Token {
	var l []api.Token
	for at := 0; at < len(s); at = l[len(l)-1].At + len(l[len(l)-1].Text) {
		m := s[at : at+1]
		if at+1 < len(s) && slices.Contains(theMarks, s[at:at+2]) {
			m = s[at : at+2]
		}
		l = append(l, mark(m, at))
	}
	return append(l, end(len(s)))
}

func TestMarksSideBySide(t *testing.T) {
	for _, a := range theMarks {
		for _, b := range theMarks {
			expectTokens(t, a+b, cut(a+b)...)
			expectTokens(t, a+" "+b, mark(a, 0), mark(b, len(a)+1), end(len(a+b)+1))
			for _, c := range theMarks {
				expectTokens(t, a+b+c, cut(a+b+c)...)
				expectTokens(t, a+"\n"+b+"\t"+c, mark(a, 0), mark(b, len(a)+1), mark(c, len(a+b)+2), end(len(a+b+c)+2))
				expectTokens(t, a+" "+b+c, append([]api.Token{mark(a, 0)}, moved(cut(b+c), len(a)+1)...)...)
			}
		}
	}
}

// moved are tokens as they stand so many bytes further on.
func moved(l []api.Token, by int) []api.Token {
	l = slices.Clone(l)
	for i := range l {
		l[i].At += by
	}
	return l
}

func TestTheLongestMark(t *testing.T) {
	expectTokens(t, "<==", mark("<=", 0), mark("=", 2), end(3))
	expectTokens(t, "===", mark("==", 0), mark("=", 2), end(3))
	expectTokens(t, "!==", mark("!=", 0), mark("=", 2), end(3))
	expectTokens(t, ">>=", mark(">", 0), mark(">=", 1), end(3))
	expectTokens(t, "<>=", mark("<", 0), mark(">=", 1), end(3))
	expectTokens(t, "= =", mark("=", 0), mark("=", 2), end(3))
	expectTokens(t, "=!=", mark("=", 0), mark("!=", 1), end(3))
	expectTokens(t, "====", mark("==", 0), mark("==", 2), end(4))
	expectTokens(t, "&&&&||||", mark("&&", 0), mark("&&", 2), mark("||", 4), mark("||", 6), end(8))
	expectTokens(t, "=>", mark("=", 0), mark(">", 1), end(2))
	expectTokens(t, "=<", mark("=", 0), mark("<", 1), end(2))
	expectTokens(t, "=!", mark("=", 0), mark("!", 1), end(2))
	expectTokens(t, "--1", mark("-", 0), mark("-", 1), number("1", api.TypeInt, 1, 2), end(3))
}

func TestOneOfTwoBytes(t *testing.T) {
	for _, m := range []string{"&", "|"} {
		expectNoTokens(t, m, wrongByte, 0)
		expectNoTokens(t, "a "+m, wrongByte, 2)
		expectNoTokens(t, m+m+m, wrongByte, 2)
		expectNoTokens(t, "a"+m+m+m+"b", wrongByte, 3)
		expectNoTokens(t, m+" "+m, wrongByte, 0)
		expectNoTokens(t, m+"#\n"+m, wrongByte, 0)
		expectTokens(t, m+m, mark(m+m, 0), end(2))
		expectTokens(t, m+m+m+m, mark(m+m, 0), mark(m+m, 2), end(4))
		expectNext(t, m+m+m, 0, mark(m+m, 0), 2)
		expectNext(t, m+m+m, 1, mark(m+m, 1), 3)
		expectNoNext(t, m+m+m, 2, wrongByte)
		expectAll(t, m+m+m, mark(m+m, 0))
		for c := range 256 {
			if s := m + string([]byte{byte(c)}); s != m+m {
				expectNoTokens(t, s, wrongByte, 0)
				expectNoTokens(t, "x "+s, wrongByte, 2)
			}
		}
	}
	expectNoTokens(t, "&|", wrongByte, 0)
	expectNoTokens(t, "||&", wrongByte, 2)
}

func TestSeveralWrongPlaces(t *testing.T) {
	for _, c := range []struct {
		s  string
		no api.Errno
		at int
	}{
		{"a 07 & abcdefghijklmnopq", wrongNumber, 2},
		{"a & 07 abcdefghijklmnopq", wrongByte, 2},
		{"a abcdefghijklmnopq & 07", wrongName, 2},
		{"07&", wrongNumber, 0},
		{"&07", wrongByte, 0},
		{"abcdefghijklmnopq&", wrongName, 0},
		{"abcdefghijklmnop&07", wrongByte, 16},
		{"0A&", wrongNumber, 0},
		{"A0&", wrongByte, 0},
		{"1_A", wrongNumber, 0},
		{"007x", wrongNumber, 0},
		{"99999999999999999999x", wrongNumber, 0},
		{"#07\n#&\n  A 07", wrongByte, 9},
		{"x\n\n\n1abcdefghijklmnopq", wrongNumber, 4},
	} {
		expectNoTokens(t, c.s, c.no, c.at)
		expectNoNext(t, c.s, c.at, c.no)
	}
	// A text that is too long is just that, whatever else is wrong with it.
	for _, s := range []string{"&", "07", strings.Repeat("a", 17), "x &"} {
		long := s + strings.Repeat(" ", most+1-len(s))
		expectNoTokens(t, long, tooLong, 0)
		expectNoNext(t, long, 0, tooLong)
		expectNoNext(t, long, -1, tooLong)
		expectAll(t, long)
	}
}

// Lists that came out belong to who asked.
func TestWhatComesOutIsNew(t *testing.T) {
	s := "bid+2p >= lim"
	want, _, _ := lex.Tokens(s)
	want = slices.Clone(want)
	one, _, _ := lex.Tokens(s)
	two, _, _ := lex.Tokens(s)
	for i := range one {
		one[i] = api.Token{Text: "spoilt", N: 7}
	}
	one = append(one, end(1))
	clear(one[len(one):cap(one)])
	if !slices.Equal(two, want) {
		t.Errorf("another list has changed: %+v", two)
	}
	expectTokens(t, s, want...)
}
