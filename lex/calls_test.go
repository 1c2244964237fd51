package lex_test

import (
	"slices"
	"strings"
	"testing"

	"tripwire/api"
	"tripwire/lex"
)

func TestNextFromEveryPlace(t *testing.T) {
	s := "ab 12q #&\n<= x"
	for at, want := range []struct {
		x  api.Token
		to int
		no api.Errno
	}{
		{name("ab", 0), 2, api.OK},
		{name("b", 1), 2, api.OK},
		{number("12q", api.TypeQty, 12, 3), 6, api.OK},
		{number("12q", api.TypeQty, 12, 3), 6, api.OK},
		{number("2q", api.TypeQty, 2, 4), 6, api.OK},
		{name("q", 5), 6, api.OK},
		{mark("<=", 10), 12, api.OK},
		{mark("<=", 10), 12, api.OK},
		{api.Token{}, 0, wrongByte}, // as if the text began within the remark
		{mark("<=", 10), 12, api.OK},
		{mark("<=", 10), 12, api.OK},
		{mark("=", 11), 12, api.OK},
		{name("x", 13), 14, api.OK},
		{name("x", 13), 14, api.OK},
		{end(14), 14, api.OK},
	} {
		expectAnswer(t, s, at, want.x, want.to, want.no)
	}
	for _, at := range []int{-1, -2, len(s) + 1, len(s) + 2, least, greatest, most, most + 1} {
		expectNoNext(t, s, at, wrongArg)
	}
}

func expectAnswer(t *testing.T, s string, at int, x api.Token, to int, no api.Errno) {
	t.Helper()
	if no != api.OK {
		expectNoNext(t, s, at, no)
		return
	}
	expectNext(t, s, at, x, to)
}

// The words of the language are found from within names, too, and names from within words.
func TestNextWithinNames(t *testing.T) {
	expectNext(t, "xbid", 1, word("bid", 1), 4)
	expectNext(t, "bid", 1, name("id", 1), 3)
	expectNext(t, "task", 0, name("task", 0), 4)
	expectNext(t, "task", 1, word("ask", 1), 4)
	expectNoNext(t, "a_b", 1, wrongByte)
	expectNext(t, "a1b", 2, name("b", 2), 3)
	expectNoNext(t, "a1b", 1, wrongNumber)
	expectNoNext(t, "a07", 1, wrongNumber)
	expectNext(t, "a07", 2, number("7", api.TypeInt, 7, 2), 3)
}

func TestNextOfATextThatIsTooLong(t *testing.T) {
	long := strings.Repeat("a ", most)
	for _, n := range []int{most + 1, most + 2, 2 * most} {
		for _, at := range []int{0, 1, most, n, -1, n + 1, least, greatest} {
			expectNoNext(t, long[:n], at, tooLong)
		}
	}
	for _, at := range []int{-1, most + 1, least, greatest} {
		expectNoNext(t, long[:most], at, wrongArg)
	}
	expectNext(t, long[:most], most-2, name("a", most-2), most-1)
	expectNext(t, long[:most], most-1, end(most), most)
	expectNext(t, long[:most], most, end(most), most)
}

// A place that may not be is told ahead of what is no token.
func TestNextWithSeveralWrong(t *testing.T) {
	for _, s := range []string{"&", "07", "1x", "A", strings.Repeat("a", 17)} {
		expectNoNext(t, s, -1, wrongArg)
		expectNoNext(t, s, len(s)+1, wrongArg)
		expectNext(t, s, len(s), end(len(s)), len(s))
	}
	expectNoNext(t, "a  &", 1, wrongByte)
	expectNoNext(t, "a  07", 1, wrongNumber)
	expectNoNext(t, "a  "+strings.Repeat("a", 17), 1, wrongName)
}

func TestNextGoesThroughWhatTokensTells(t *testing.T) {
	s := "when has bid#\n&& bid>3p do halt;#"
	l, _, _ := lex.Tokens(s)
	at := 0
	for _, want := range l {
		x, to, no := lex.Next(s, at)
		if x != want || to != want.At+len(want.Text) || no != api.OK {
			t.Fatalf("Next(%q, %d) is %+v, %d, %d; want %+v", s, at, x, to, no, want)
		}
		at = to
	}
	if at != len(s) || len(l) != 11 {
		t.Errorf("%d tokens, up to %d", len(l), at)
	}
}

func TestAllLeftEarly(t *testing.T) {
	s := "when has bid && bid > 3p do halt;"
	want, _, _ := lex.Tokens(s)
	want = want[:len(want)-1]
	all := lex.All(s)
	for n := range want {
		var got []api.Token
		for x := range all {
			got = append(got, x)
			if len(got) == n+1 {
				break
			}
		}
		if !slices.Equal(got, want[:n+1]) {
			t.Errorf("left behind %d: %+v", n+1, got)
		}
	}
	expectAll(t, s, want...)
	for range 2 {
		if got := slices.Collect(all); !slices.Equal(got, want) {
			t.Errorf("gone over again: %+v", got)
		}
	}
}

func TestAllWithinItself(t *testing.T) {
	all := lex.All("a + 1 07")
	var texts []string
	for x := range all {
		for y := range all {
			texts = append(texts, x.Text+y.Text)
			if y.Text == x.Text {
				break
			}
		}
	}
	if want := []string{"aa", "+a", "++", "1a", "1+", "11"}; !slices.Equal(texts, want) {
		t.Errorf("%q; want %q", texts, want)
	}
}

func TestAllOfATextThatGoesWrong(t *testing.T) {
	expectAll(t, "a + 07 b", name("a", 0), mark("+", 2))
	expectAll(t, "a &b", name("a", 0))
	expectAll(t, "&")
	expectAll(t, "a\n"+strings.Repeat("b", 17)+" c", name("a", 0))
	expectAll(t, "# nothing")
	expectAll(t, " ")
	for _, long := range []string{strings.Repeat("a ", most), strings.Repeat(" ", most+1), "a" + strings.Repeat("#", most), strings.Repeat("&", most+1)} {
		all := lex.All(long)
		for range 2 {
			for x := range all {
				t.Fatalf("a text that is too long has %+v", x)
			}
		}
	}
	// What is no token in the end does not hide what stands ahead of it, nor does leaving ahead of it meet it.
	all := lex.All("a b &")
	for range 2 {
		if got := slices.Collect(all); !slices.Equal(got, []api.Token{name("a", 0), name("b", 2)}) {
			t.Errorf("%+v", got)
		}
	}
}

func TestAllOfTwoTextsAtATime(t *testing.T) {
	one, two := lex.All("a b c"), lex.All("x y")
	var texts []string
	for x := range one {
		for y := range two {
			texts = append(texts, x.Text+y.Text)
		}
	}
	if want := []string{"ax", "ay", "bx", "by", "cx", "cy"}; !slices.Equal(texts, want) {
		t.Errorf("%q", texts)
	}
}

func TestWords(t *testing.T) {
	if l := lex.Words(); !slices.Equal(l, theWords) || !slices.IsSorted(l) {
		t.Errorf("Words() is %q", l)
	}
}

func TestWordsChangedByTheirOwner(t *testing.T) {
	one, two := lex.Words(), lex.Words()
	for i := range one {
		one[i] = "spoilt"
	}
	one = append(one, "spoilt")
	for i := range one[:cap(one)] {
		one[:cap(one)][i] = "spoilt"
	}
	_ = append(two[:3], "spoilt", "spoilt")
	if l := lex.Words(); !slices.Equal(l, theWords) {
		t.Errorf("Words() is %q", l)
	}
	if !slices.Equal(two[5:], theWords[5:]) {
		t.Errorf("another list has changed: %q", two)
	}
	for _, w := range theWords {
		expectWord(t, w, true)
		expectTokens(t, w, word(w, 0), end(len(w)))
	}
	expectWord(t, "spoilt", false)
	expectName(t, "spoilt", true)
}

func TestWordAndNameOfWhatIsNeither(t *testing.T) {
	for _, s := range []string{
		"", " ", "\n", "#", "#bid", "#x\n", "A", "_", "_a", "0", "1q", "12", "+", "&&", "&", "\x00", "\xc8", "é",
		"a b", "bid ask", "a+b", "a#", "a-b", "aB", "a.b", "bid;", "BID", "Bid",
		strings.Repeat("a", 17), strings.Repeat("a", most), strings.Repeat("a", most+1),
		"a" + strings.Repeat(" ", most), strings.Repeat(" ", most) + "a", "bid" + strings.Repeat(" ", most),
	} {
		expectWord(t, s, false)
		expectName(t, s, false)
	}
}

func TestWordAndNameWithSomethingBeside(t *testing.T) {
	for _, s := range []string{"bid", "when", "x", "bids", "q", "abcdefghijklmnop"} {
		is := slices.Contains(theWords, s)
		expectWord(t, s, is)
		expectName(t, s, !is)
		for _, beside := range []string{" ", "\t", "\n", "\r", "#\n", "# so\n", "  ", "\r\n"} {
			for _, with := range []string{beside + s, s + beside, beside + s + beside} {
				expectWord(t, with, false)
				expectName(t, with, false)
			}
		}
		for _, with := range []string{s + "#", s + "# so", s + "\x00", s + "&", s + "A", "1" + s, "_" + s, s + "+", "!" + s} {
			expectWord(t, with, false)
			expectName(t, with, false)
		}
	}
}

// Name is what Tokens tells of a text that is one name and nothing else.
func TestNameIsOneToken(t *testing.T) {
	for s := range textsOf("aq_0 #\nB+", 4) {
		l, no, _ := lex.Tokens(s)
		is := no == api.OK && len(l) == 2 && l[0] == name(s, 0)
		expectName(t, s, is)
		expectWord(t, s, false)
	}
}
