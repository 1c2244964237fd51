package lex_test

import (
	"math/big"
	"regexp"
	"slices"
	"strings"
	"testing"

	"tripwire/api"
	"tripwire/lex"
)

// The tests of this file hold the calls against a model, regular expressions by the chapter's words and numbers without bounds, and look whether the rows of 'What holds' do.

var (
	skipForm   = regexp.MustCompile(`\A(?:[ \t\n\r]|#[^\n]*(?:\n|\z))*`)
	wordForm   = regexp.MustCompile(`\A[a-z][a-z0-9_]*`)
	numberForm = regexp.MustCompile(`\A([0-9]+)([qpt]?)([a-zA-Z0-9_]?)`)
	markForm   = regexp.MustCompile(`\A(?:==|!=|<=|>=|&&|\|\||[{}(),;?:=!<>+*/%-])`)
)

// modelNext is the token that stands first in a text, and its error; its place is told of what is no token, too.
func modelNext(s string) (api.Token, api.Errno) {
	at := len(skipForm.FindString(s))
	s = s[at:]
	if s == "" {
		return end(at), api.OK
	}
	if w := wordForm.FindString(s); w != "" {
		if len(w) > longest {
			return end(at), wrongName
		}
		return said(w, at), api.OK
	}
	if m := markForm.FindString(s); m != "" {
		return mark(m, at), api.OK
	}
	l := numberForm.FindStringSubmatch(s)
	if l == nil {
		return end(at), wrongByte
	}
	n, is := new(big.Int).SetString(l[1], 10)
	if !is {
		panic(l[1])
	}
	if !n.IsInt64() || l[3] != "" || n.String() != l[1] {
		return end(at), wrongNumber
	}
	return number(l[1]+l[2], typeOf[l[2]], n.Int64(), at), api.OK
}

// modelTokens are a text's tokens up to what is no token (or TokenEnd, that one, too), and the error and the place.
func modelTokens(s string) ([]api.Token, api.Errno, int) {
	if len(s) > most {
		return nil, tooLong, 0
	}
	var l []api.Token
	at := 0
	for {
		x, no := modelNext(s[at:])
		x.At += at
		if no != api.OK {
			return l, no, x.At
		}
		l = append(l, x)
		if x.Kind == api.TokenEnd {
			return l, api.OK, 0
		}
		at = x.At + len(x.Text)
	}
}

// expectModel holds Tokens and All of a text against the model, and tells the error.
func expectModel(t *testing.T, s string) api.Errno {
	t.Helper()
	l, no, at := modelTokens(s)
	if no != api.OK {
		expectNoTokens(t, s, no, at)
		expectAll(t, s, l...)
		return no
	}
	expectTokens(t, s, l...)
	expectAll(t, s, l[:len(l)-1]...)
	return no
}

// expectModelNext holds Next against it from a place on.
func expectModelNext(t *testing.T, s string, at int) {
	t.Helper()
	x, no := modelNext(s[at:])
	if no != api.OK {
		expectNoNext(t, s, at, no)
		return
	}
	x.At += at
	expectNext(t, s, at, x, x.At+len(x.Text))
}

// textsOf goes through all texts of at most so many bytes out of an alphabet.
func textsOf(alphabet string, most int) func(yield func(s string) bool) {
	return func(yield func(s string) bool) {
		var grow func(s string) bool
		grow = func(s string) bool {
			if !yield(s) {
				return false
			}
			for i := 0; i < len(alphabet) && len(s) < most; i++ {
				if !grow(s + alphabet[i:i+1]) {
					return false
				}
			}
			return true
		}
		grow("")
	}
}

// draw answers numbers that look drawn, and are the same each time.
func draw(from uint64) func(below int) int {
	return func(below int) int {
		from += 0x9e3779b97f4a7c15
		z := from
		z = (z ^ z>>30) * 0xbf58476d1ce4e5b9
		z = (z ^ z>>27) * 0x94d049bb133111eb
		return int((z ^ z>>31) % uint64(below))
	}
}

func TestEveryTwoBytes(t *testing.T) {
	for a := range 256 {
		for b := range 256 {
			expectModel(t, string([]byte{byte(a), byte(b)}))
		}
	}
}

func TestEveryShortText(t *testing.T) {
	seen := map[api.Errno]int{}
	for _, c := range []struct {
		alphabet string
		most     int
	}{
		{" \n#aq0_=&|A5<\x80", 4},
		{"#\n a", 7},
		{"0q1 ", 7},
		{"=!<>", 6},
		{"&| =", 6},
		{"aso_1", 6},
	} {
		for s := range textsOf(c.alphabet, c.most) {
			seen[expectModel(t, s)]++
			for at := 0; at <= len(s) && len(s) < c.most; at++ {
				expectModelNext(t, s, at)
			}
			if t.Failed() {
				return
			}
		}
	}
	for _, no := range []api.Errno{api.OK, wrongByte, wrongNumber} {
		if seen[no] < 5000 {
			t.Errorf("%d was met %d times", no, seen[no])
		}
	}
}

// drawGap is blanks and remarks, each remark with its byte 10.
func drawGap(below func(int) int, parts int) string {
	s := ""
	for range parts {
		if below(4) > 0 {
			s += blanks[below(4):][:1]
			continue
		}
		s += "#"
		for range below(5) {
			if c := byte(below(256)); c != '\n' {
				s += string([]byte{c})
			}
		}
		s += "\n"
	}
	return s
}

func drawSaid(below func(int) int, length int) string {
	s := letters[below(26):][:1]
	for len(s) < length {
		s += (letters + digits + "_")[below(37):][:1]
	}
	return s
}

func drawDigits(below func(int) int, length int) string {
	s := digits[1+below(9):][:1]
	for len(s) < length {
		s += digits[below(10):][:1]
	}
	return s
}

// drawToken is the text of one token.
func drawToken(below func(int) int) string {
	letter := []string{"", "q", "p", "t"}[below(4)]
	switch below(6) {
	case 0:
		return drawSaid(below, 1+below(longest))
	case 1:
		return theWords[below(len(theWords))]
	case 2:
		return drawDigits(below, 1+below(18)) + letter
	case 3:
		return []string{"0", "1", "9223372036854775807", "9223372036854775806"}[below(4)] + letter
	}
	return theMarks[below(len(theMarks))]
}

// drawWrong is a text that is no token, or not one alone.
func drawWrong(below func(int) int) string {
	switch below(7) {
	case 0:
		return drawSaid(below, longest+1+below(10))
	case 1:
		return drawDigits(below, 19+below(3))
	case 2:
		return "0" + drawDigits(below, 1+below(3))
	case 3:
		return drawToken(below) + drawToken(below)
	case 4:
		return drawDigits(below, 2) + (letters + capitals + "_")[below(53):][:1]
	case 5:
		return []string{"&", "|", "A", "_", ".", "\x00", "\xff"}[below(7)]
	}
	return string([]byte{byte(below(256))})
}

// drawTexts are the texts of so many tokens.
func drawTexts(below func(int) int, count int) []string {
	var l []string
	for range count {
		l = append(l, drawToken(below))
	}
	return l
}

// laid are tokens' texts with gaps ahead, between and behind.
func laid(below func(int) int, l []string) string {
	s := drawGap(below, below(3))
	for i, x := range l {
		if i > 0 {
			s += drawGap(below, 1+below(3))
		}
		s += x
	}
	return s + drawGap(below, below(3))
}

// drawText is a text that is right most of the time; its tokens may stand side by side, and it may end in a remark without its byte 10.
func drawText(below func(int) int, count, wrong int) string {
	s := ""
	for range below(count + 1) {
		s += drawGap(below, below(3))
		if below(wrong) == 0 {
			s += drawWrong(below)
			continue
		}
		s += drawToken(below)
	}
	s += drawGap(below, below(2))
	if below(4) == 0 {
		s += "#" + strings.ReplaceAll(drawGap(below, below(4)), "\n", "")
	}
	return s
}

func TestDrawnTexts(t *testing.T) {
	below := draw(1)
	seen := map[api.Errno]int{}
	for range 20000 {
		s := drawText(below, 1+below(30), 1+below(100))
		seen[expectModel(t, s)]++
		expectModelNext(t, s, below(len(s)+1))
	}
	for _, no := range []api.Errno{api.OK, wrongByte, wrongName, wrongNumber} {
		if seen[no] < 500 {
			t.Errorf("%d was met %d times", no, seen[no])
		}
	}
}

func TestDrawnTextsFromEveryPlace(t *testing.T) {
	below := draw(2)
	for range 2000 {
		s := drawText(below, 8, 20)
		for at := range len(s) + 1 {
			expectModelNext(t, s, at)
		}
		expectNoNext(t, s, -1-below(100), wrongArg)
		expectNoNext(t, s, len(s)+1+below(100), wrongArg)
	}
}

// Drawn texts about as long as they may be.
func TestDrawnLongTexts(t *testing.T) {
	below := draw(3)
	seen := map[api.Errno]int{}
	for range 200 {
		var b strings.Builder
		size := most - 4 + below(8)
		for b.Len() < size {
			b.WriteString(drawGap(below, 1+below(2)))
			b.WriteString(drawToken(below))
		}
		s := b.String()[:size]
		no := expectModel(t, s)
		seen[no]++
		for range 5 {
			at := below(size + 1)
			if no == tooLong {
				expectNoNext(t, s, at, tooLong)
				continue
			}
			expectModelNext(t, s, at)
		}
	}
	if seen[api.OK] < 50 || seen[tooLong] < 50 {
		t.Errorf("%v", seen)
	}
}

var (
	between = regexp.MustCompile(`\A(?:[ \t\n\r]|#[^\n]*\n)*\z`)
	tail    = regexp.MustCompile(`\A(?:[ \t\n\r]|#[^\n]*\n)*(?:#[^\n]*)?\z`)
)

func TestPlacesRise(t *testing.T) {
	below := draw(4)
	seen := 0
	for range 20000 {
		s := drawText(below, 10, 200)
		l, no, _ := lex.Tokens(s)
		if no != api.OK {
			continue
		}
		at := 0
		for i, x := range l {
			gap := s[at:x.At]
			last := i == len(l)-1
			if i > 0 && x.At <= l[i-1].At && !last || x.Kind == api.TokenEnd != last {
				t.Fatalf("Tokens(%q): %+v", s, l)
			}
			if !last && !between.MatchString(gap) || last && !tail.MatchString(gap) {
				t.Fatalf("Tokens(%q): %q stands ahead of token %d", s, gap, i)
			}
			at = x.At + len(x.Text)
			if s[x.At:at] != x.Text || (x.Text == "") != last {
				t.Fatalf("Tokens(%q): %+v", s, x)
			}
			seen++
		}
		if at != len(s) {
			t.Fatalf("Tokens(%q) ends at %d", s, at)
		}
	}
	if seen < 20000 {
		t.Errorf("only %d tokens were met", seen)
	}
}

func TestATokenAsATextOfItsOwn(t *testing.T) {
	below := draw(5)
	seen := map[api.TokenKind]int{}
	for range 10000 {
		for x := range lex.All(drawText(below, 10, 50)) {
			x.At = 0
			expectTokens(t, x.Text, x, end(len(x.Text)))
			seen[x.Kind]++
		}
	}
	for kind := api.TokenWord; kind <= api.TokenMark; kind++ {
		if seen[kind] < 1000 {
			t.Errorf("kind %d was met %d times", kind, seen[kind])
		}
	}
}

// joined are the tokens of two texts with a byte 10 between them.
func joined(one, two []api.Token) []api.Token {
	last := one[len(one)-1]
	return slices.Concat(one[:len(one)-1], moved(two, last.At+1))
}

func TestTwoTextsJoined(t *testing.T) {
	below := draw(6)
	remarks, right := 0, 0
	for range 20000 {
		a, b := drawText(below, 5, 100), drawText(below, 5, 100)
		if below(3) == 0 {
			a += "# so"
		}
		one, no1, _ := lex.Tokens(a)
		two, no2, _ := lex.Tokens(b)
		if no1 != api.OK || no2 != api.OK {
			continue
		}
		expectTokens(t, a+"\n"+b, joined(one, two)...)
		right++
		if strings.Contains(a[strings.LastIndex(a, "\n")+1:], "#") {
			remarks++
		}
	}
	if right < 10000 || remarks < 3000 {
		t.Errorf("%d right ones, %d of them with a remark at the first one's end", right, remarks)
	}
}

// Only what is joined counts: each half may be as long as a text may be.
func TestLongTextsJoined(t *testing.T) {
	for _, n := range []int{0, 1, 2047, 2048, 4094, 4095} {
		a := strings.Repeat("a ", most)[:n]
		b := strings.Repeat("#", most-1-n)
		one, _, _ := lex.Tokens(a)
		two, _, _ := lex.Tokens(b)
		expectTokens(t, a+"\n"+b, joined(one, two)...)
		expectNoTokens(t, a+"\n"+b+"#", tooLong, 0)
	}
}

// bare are tokens without their places.
func bare(l []api.Token) []api.Token {
	l = slices.Clone(l)
	for i := range l {
		l[i].At = 0
	}
	return l
}

func TestOtherBlanksAndRemarks(t *testing.T) {
	below := draw(7)
	for range 10000 {
		texts := drawTexts(below, below(12))
		a, b := laid(below, texts), laid(below, texts)
		one, no1, _ := lex.Tokens(a)
		two, no2, _ := lex.Tokens(b)
		if no1 != api.OK || no2 != api.OK || !slices.Equal(bare(one), bare(two)) || len(one) != len(texts)+1 {
			t.Fatalf("%q and %q: %+v, %d; %+v, %d", a, b, one, no1, two, no2)
		}
		for i, x := range texts {
			if one[i].Text != x {
				t.Fatalf("Tokens(%q): %q is %+v", a, x, one[i])
			}
		}
	}
}

// Tokens that stand side by side may be set apart.
func TestMoreBlanksBetweenTokens(t *testing.T) {
	below := draw(8)
	apart := 0
	for range 10000 {
		s := drawText(below, 8, 1000)
		l, no, _ := lex.Tokens(s)
		if no != api.OK {
			continue
		}
		wide, at := "", 0
		for _, x := range l {
			wide += s[at:x.At] + drawGap(below, 1+below(2)) + x.Text
			if at == x.At && at > 0 {
				apart++
			}
			at = x.At + len(x.Text)
		}
		// The gap ahead of TokenEnd would be within a remark that has no byte 10 yet: its end is as good a place.
		other, no, _ := lex.Tokens(wide)
		if no != api.OK || !slices.Equal(bare(other), bare(l)) {
			t.Fatalf("%q and %q: %+v; %+v, %d", s, wide, l, other, no)
		}
	}
	if apart < 5000 {
		t.Errorf("only %d stood side by side", apart)
	}
}

// What is no token stays so, wherever blanks are put, and is told where it stands then.
func TestWrongPlacesAmongOtherBlanks(t *testing.T) {
	below := draw(9)
	for range 5000 {
		texts := drawTexts(below, below(5))
		wrong := []string{"07", "1x", "&", "A", strings.Repeat("x", 17), "9223372036854775808", "2qq"}[below(7)]
		ahead := laid(below, texts) + drawGap(below, 1)
		_, no := modelNext(wrong)
		expectNoTokens(t, ahead+wrong+" "+laid(below, texts), no, len(ahead))
	}
}
