package decimal_test

import (
	"math"
	"testing"

	"tripwire/api"
	"tripwire/decimal"
)

const (
	least = math.MinInt64
	most  = math.MaxInt64
	form  = api.ErrDecimalForm
	far   = api.ErrDecimalRange
)

func expectPrint(t *testing.T, n int64, places int, want string, wantErr api.Errno) {
	t.Helper()
	if s, e := decimal.Print(n, places); s != want || e != wantErr {
		t.Errorf("Print(%d, %d) is %q, %d; want %q, %d", n, places, s, e, want, wantErr)
	}
}

func expectParse(t *testing.T, s string, places int, want int64, wantErr api.Errno, wantAt int) {
	t.Helper()
	if n, e, at := decimal.Parse(s, places); n != want || e != wantErr || at != wantAt {
		if len(s) > 60 {
			s = s[:60] + ".."
		}
		t.Errorf("Parse(%q, %d) is %d, %d, %d; want %d, %d, %d", s, places, n, e, at, want, wantErr, wantAt)
	}
}

// TestExamples has the chapter's examples, and those within its text.
func TestExamples(t *testing.T) {
	expectPrint(t, 1250, 2, "12.50", api.OK)
	expectPrint(t, -5, 2, "-0.05", api.OK)
	expectPrint(t, 7, 0, "7", api.OK)
	expectPrint(t, -9223372036854775808, 9, "-9223372036.854775808", api.OK)
	expectPrint(t, 1, 10, "", api.ErrArg)
	expectPrint(t, 0, 2, "0.00", api.OK)

	expectParse(t, "12.5", 2, 1250, api.OK, 0)
	expectParse(t, "-0.00", 2, 0, api.OK, 0)
	expectParse(t, "-0", 2, 0, api.OK, 0)
	expectParse(t, "9223372036854775808", 0, 0, far, 0)
	expectParse(t, "-9223372036854775808", 0, least, api.OK, 0)

	expectParse(t, "012", 2, 0, form, 1)
	expectParse(t, "1.", 2, 0, form, 2)
	expectParse(t, "1.234", 2, 0, form, 4)
	expectParse(t, ".5", 2, 0, form, 0)
	expectParse(t, "-", 2, 0, form, 1)
	expectParse(t, "", 2, 0, form, 0)
	expectParse(t, "+5", 2, 0, form, 0)
	expectParse(t, "1 ", 2, 0, form, 1)
	expectParse(t, "1.0", 0, 0, form, 1)
}
