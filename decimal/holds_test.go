package decimal_test

import (
	"math/big"
	"regexp"
	"strconv"
	"strings"
	"testing"

	"tripwire/api"
	"tripwire/decimal"
)

// The tests of this file hold both calls against a model: the form as a regular expression, numbers without bounds, and the place found by trying every beginning.

// rightForm is the form of a text with so many places.
func rightForm(places int) *regexp.Regexp {
	behind := ""
	if places > 0 {
		behind = `(\.[0-9]{1,` + strconv.Itoa(places) + `})?`
	}
	return regexp.MustCompile(`\A-?(0|[1-9][0-9]*)` + behind + `\z`)
}

// modelPlace tries the beginnings of s, the longest first: one digit is all that a beginning can lack.
func modelPlace(right *regexp.Regexp, s string) int {
	at := len(s)
	for !right.MatchString(s[:at]) && !right.MatchString(s[:at]+"1") {
		at--
	}
	return at
}

func modelParse(right *regexp.Regexp, s string, places int) (int64, api.Errno, int) {
	if !right.MatchString(s) {
		return 0, form, modelPlace(right, s)
	}
	whole, behind, _ := strings.Cut(s, ".")
	digits := whole + behind + strings.Repeat("0", places-len(behind))
	n, ok := new(big.Int).SetString(digits, 10)
	if !ok {
		panic(digits)
	}
	if !n.IsInt64() {
		return 0, far, 0
	}
	return n.Int64(), api.OK, 0
}

// texts goes through all texts of at most so many bytes out of an alphabet.
func texts(alphabet string, most int) func(yield func(s string) bool) {
	return func(yield func(s string) bool) {
		var grow func(s string) bool
		grow = func(s string) bool {
			if !yield(s) {
				return false
			}
			if len(s) == most {
				return true
			}
			for i := range len(alphabet) {
				if !grow(s + alphabet[i:i+1]) {
					return false
				}
			}
			return true
		}
		grow("")
	}
}

func TestEveryShortText(t *testing.T) {
	for _, places := range []int{0, 1, 2, 3, 9} {
		right := rightForm(places)
		for s := range texts("-.019x", 6) {
			n, e, at := modelParse(right, s, places)
			expectParse(t, s, places, n, e, at)
		}
		if t.Failed() {
			return
		}
	}
}

// draw gives numbers of every length, the same ones in each run.
type draw uint64

func (d *draw) word() uint64 {
	*d += 0x9e3779b97f4a7c15
	z := uint64(*d)
	z = (z ^ z>>30) * 0xbf58476d1ce4e5b9
	z = (z ^ z>>27) * 0x94d049bb133111eb
	return z ^ z>>31
}

func (d *draw) below(n int) int { return int(d.word() % uint64(n)) }

func (d *draw) number() int64 {
	short := d.below(64)
	return int64(d.word()) >> short
}

// text is a right text most of the time, its digits about as many as 64 bits hold; then perhaps one byte of it is spoilt.
func (d *draw) text() string {
	b := []byte{}
	if d.below(2) == 0 {
		b = append(b, '-')
	}
	for range d.below(21) {
		b = append(b, byte('0'+d.below(10)))
	}
	if d.below(2) == 0 {
		b = append(b, '.')
		for range d.below(11) {
			b = append(b, byte('0'+d.below(10)))
		}
	}
	if len(b) > 0 && d.below(4) == 0 {
		b[d.below(len(b))] = byte(d.below(256))
	}
	return string(b)
}

func TestDrawnTexts(t *testing.T) {
	d := draw(1)
	for range 100000 {
		places := d.below(api.MaxPlaces + 1)
		s := d.text()
		n, e, at := modelParse(rightForms[places], s, places)
		expectParse(t, s, places, n, e, at)
	}
}

var rightForms = func() (l [api.MaxPlaces + 1]*regexp.Regexp) {
	for places := range l {
		l[places] = rightForm(places)
	}
	return l
}()

// numbers are those about each power of ten and each bound, and drawn ones.
func numbers() []int64 {
	l := []int64{0, least, least + 1, most - 1, most}
	for power := int64(1); ; power *= 10 {
		for near := int64(-1); near <= 1; near++ {
			l = append(l, power+near, -power+near)
		}
		if power > most/10 {
			break
		}
	}
	d := draw(2)
	for range 5000 {
		l = append(l, d.number())
	}
	return l
}

func TestParseOfPrintIsTheNumber(t *testing.T) {
	for _, n := range numbers() {
		for places := 0; places <= api.MaxPlaces; places++ {
			s, e := decimal.Print(n, places)
			if e != api.OK {
				t.Fatalf("Print(%d, %d): %d", n, places, e)
			}
			expectParse(t, s, places, n, api.OK, 0)
			if _, behind, _ := strings.Cut(s, "."); len(behind) != places {
				t.Fatalf("Print(%d, %d) is %q: not so many places", n, places, s)
			}
		}
	}
}

// filled is a right text with noughts put behind, and without the '-' of a nought.
func filled(s string, places int) string {
	whole, behind, _ := strings.Cut(s, ".")
	behind += strings.Repeat("0", places-len(behind))
	if strings.Trim(whole+behind, "-0") == "" {
		whole = strings.TrimPrefix(whole, "-")
	}
	if places == 0 {
		return whole
	}
	return whole + "." + behind
}

func TestPrintOfParseIsTheText(t *testing.T) {
	seen := 0
	check := func(s string, places int) {
		n, e, _ := decimal.Parse(s, places)
		if e != api.OK {
			return
		}
		seen++
		expectPrint(t, n, places, filled(s, places), api.OK)
	}
	for _, places := range []int{0, 1, 3, 9} {
		for s := range texts("-.019", 6) {
			check(s, places)
		}
	}
	d := draw(3)
	for range 50000 {
		check(d.text(), d.below(api.MaxPlaces+1))
	}
	if seen < 20000 {
		t.Errorf("only %d right texts were tried", seen)
	}
}

// bare is what two texts of one number have in common.
func bare(s string) string {
	if strings.Contains(s, ".") {
		s = strings.TrimRight(s, "0")
		s = strings.TrimSuffix(s, ".")
	}
	if s == "-0" {
		s = "0"
	}
	return s
}

func TestTwoTextsOfOneNumber(t *testing.T) {
	for _, places := range []int{0, 1, 2, 4} {
		bareOf := map[int64]string{}
		numberOf := map[string]int64{}
		for s := range texts("-.012", 6) {
			n, e, _ := decimal.Parse(s, places)
			if e != api.OK {
				continue
			}
			if other, met := bareOf[n]; met && other != bare(s) {
				t.Fatalf("with %d places, %d is %q and like %q", places, n, s, other)
			}
			if other, met := numberOf[bare(s)]; met && other != n {
				t.Fatalf("with %d places, %q is %d; one like it is %d", places, s, n, other)
			}
			bareOf[n], numberOf[bare(s)] = bare(s), n
		}
		if len(bareOf) < 100 {
			t.Errorf("with %d places only %d numbers were met", places, len(bareOf))
		}
	}
}
