package eval_test

import (
	"fmt"
	"math"
	"reflect"
	"slices"
	"strings"
	"testing"

	"tripwire/api"
	"tripwire/eval"
)

const (
	over   = api.ErrOver
	zero   = api.ErrZero
	absent = api.ErrMeanAbsent
	noSide = api.ErrMachineSide

	ended     = api.ErrEvalEnded
	snapRange = api.ErrSnapRange

	wrongForm  = api.ErrTableForm
	wrongCode  = api.ErrTableCode
	wrongStack = api.ErrTableStack
	wrongMask  = api.ErrTableMask

	least, greatest = math.MinInt64, math.MaxInt64
)

// mode is a state and registers; begun is laid's as it begins.
func mode(state int, regs ...int64) api.Mode { return api.Mode{State: state, Regs: regs} }

func begun() api.Mode { return mode(0, 5, -6, 7) }

// seen is a snapshot in which each field is another number, none of them 0.
func seen() api.Snap {
	return api.Snap{Bid: 11, Ask: 13, Last: 12, Volume: 1001, Now: 77, Open: 55}
}

// edges are numbers about nought, about the ends of 64 bits, and about their roots.
func edges() []int64 {
	return []int64{least, least + 1, least / 2, -3037000500, -1000000007, -256, -7, -3, -2, -1, 0, 1, 2, 3, 7, 256, 1000000007, 3037000499, 3037000500, greatest / 2, greatest/2 + 1, greatest - 1, greatest}
}

// times is a list with the same thing so many times.
func times[T any](n int, x T) []T {
	var l []T
	for range n {
		l = append(l, x)
	}
	return l
}

// change is a copy of a table that something was done to.
func change(x api.Table, turn func(x *api.Table)) api.Table {
	x = copied(x)
	turn(&x)
	return x
}

// short is a thing as a fault is told.
func short(x any) string {
	s := fmt.Sprintf("%+v", x)
	if len(s) > 600 {
		return s[:600] + ".."
	}
	return s
}

// sameMode tells whether two modes are one; a list that is nil is an empty one.
func sameMode(a, b api.Mode) bool { return a.State == b.State && slices.Equal(a.Regs, b.Regs) }

// sameFiring tells whether two firings are one.
func sameFiring(a, b api.Firing) bool {
	actions := slices.Equal(a.Actions, b.Actions)
	a.Actions, b.Actions = nil, nil
	return actions && reflect.DeepEqual(a, b)
}

// What a turn may come to, in how many steps.

func fires(steps, rule int, l ...api.Action) api.Firing {
	return api.Firing{Rule: rule, Actions: l, Status: api.Running, Steps: steps}
}

func halts(steps, rule int, l ...api.Action) api.Firing {
	return api.Firing{Rule: rule, Actions: l, Status: api.Halted, Steps: steps}
}

func isRefused(steps, rule int) api.Firing {
	return api.Firing{Rule: rule, Refused: true, Status: api.Running, Steps: steps}
}

func nothing(steps int) api.Firing { return api.Firing{Rule: -1, Status: api.Running, Steps: steps} }

func faults(steps int, code api.Errno) api.Firing {
	return api.Firing{Rule: -1, Status: api.Faulted, Code: code, Steps: steps}
}

// runner is an evaluator, beside what its grants were asked.
type runner struct {
	*eval.Eval
	asked []int
}

// made is one that does not run yet.
func made(t *testing.T, x api.Table, w api.Snap) *runner {
	t.Helper()
	e, no := eval.New(x, w)
	if e == nil || no != api.OK {
		t.Fatalf("New(%s, %v) is refused by %d", short(x), w, no)
	}
	return &runner{Eval: e}
}

// started is one that does.
func started(t *testing.T, x api.Table, w api.Snap) *runner {
	t.Helper()
	r := made(t, x, w)
	r.Start()
	return r
}

// turn is a Turn whose grant answers so.
func (r *runner) turn(granted bool, batch ...api.Feed) api.Firing {
	r.asked = nil
	return r.Turn(batch, func(n int) bool {
		r.asked = append(r.asked, n)
		return granted
	})
}

// Feeds, by their kinds.

func bid(n int64) api.Feed { return api.Feed{Kind: api.FeedBid, A: n} }

func ask(n int64) api.Feed { return api.Feed{Kind: api.FeedAsk, A: n} }

func trade(price, qty int64) api.Feed { return api.Feed{Kind: api.FeedTrade, A: price, B: qty} }

func now(n int64) api.Feed { return api.Feed{Kind: api.FeedTime, A: n} }

func open(by int64) api.Feed { return api.Feed{Kind: api.FeedOpen, A: by} }

// standing is all that an evaluator tells of itself.
type standing struct {
	mode   api.Mode
	status api.Status
	code   api.Errno
	snap   api.Snap
	known  string
	steps  int
}

func (r *runner) standing() standing {
	s := standing{mode: r.Mode(), snap: r.Snap(), known: r.knows(), steps: r.Steps()}
	s.status, s.code = r.Status()
	return s
}

func (s standing) same(other standing) bool {
	return sameMode(s.mode, other.mode) && s.status == other.status && s.code == other.code && s.snap == other.snap && s.known == other.known && s.steps == other.steps
}

// knows is what is known of guards, as a text: - where that is nothing, a value, or ! and a fault; states stand apart by |.
func (r *runner) knows() string {
	var states []string
	for _, l := range r.Caches() {
		var all []string
		for _, c := range l {
			all = append(all, knownText(c))
		}
		states = append(states, strings.Join(all, " "))
	}
	return strings.Join(states, " | ")
}

func knownText(c api.Cached) string {
	switch {
	case c == api.Cached{}:
		return "-"
	case c.Clean && c.Code == api.OK:
		return fmt.Sprint(c.Value)
	case c.Clean && c.Value == 0:
		return fmt.Sprint("!", int(c.Code))
	}
	return fmt.Sprintf("%+v", c)
}

// expectTurn tells whether a turn comes to this, and grant was asked as that says: once, of what it let out, or would have; else never.
func expectTurn(t *testing.T, r *runner, granted bool, want api.Firing, batch ...api.Feed) {
	t.Helper()
	f := r.turn(granted, batch...)
	if !sameFiring(f, want) {
		t.Errorf("the turn is %+v; want %+v", f, want)
	}
	var asked []int
	if n := len(want.Actions); n > 0 {
		asked = []int{n}
	}
	if want.Refused && len(r.asked) == 1 && r.asked[0] > 0 {
		// How many they would have been, the firing does not say.
		asked = r.asked
	}
	if !slices.Equal(r.asked, asked) || want.Refused && len(asked) == 0 {
		t.Errorf("%+v, and grant was asked of %v", f, r.asked)
	}
}

// expectMode tells whether an evaluator is in this mode.
func expectMode(t *testing.T, r *runner, want api.Mode) {
	t.Helper()
	if m := r.Mode(); !sameMode(m, want) {
		t.Errorf("the mode is %v; want %v", m, want)
	}
}

// expectKnows tells whether this is known.
func expectKnows(t *testing.T, r *runner, want string) {
	t.Helper()
	if is := r.knows(); is != want {
		t.Errorf("%q is known; want %q", is, want)
	}
}

// expectStatus tells whether an evaluator stands so.
func expectStatus(t *testing.T, r *runner, want api.Status, code api.Errno) {
	t.Helper()
	if s, no := r.Status(); s != want || no != code {
		t.Errorf("it stands %d, %d; want %d, %d", s, no, want, code)
	}
}

// expectFold tells whether a fold answers this.
func expectFold(t *testing.T, r *runner, want api.Errno, batch ...api.Feed) {
	t.Helper()
	if no := r.Fold(batch...); no != want {
		t.Errorf("Fold(%v) is %d; want %d", batch, no, want)
	}
}

// expectStanding tells whether an evaluator tells this of itself.
func expectStanding(t *testing.T, r *runner, want standing) {
	t.Helper()
	if is := r.standing(); !is.same(want) {
		t.Errorf("it is %+v; want %+v", is, want)
	}
}

// copied is a thing with memory of its own: behind each of its lists there is room in which a wrong part stands.
func copied[T any](x T) T {
	return deepCopy(reflect.ValueOf(x)).Interface().(T)
}

func deepCopy(v reflect.Value) reflect.Value {
	out := reflect.New(v.Type()).Elem()
	switch v.Kind() {
	case reflect.Struct:
		for i := range v.NumField() {
			out.Field(i).Set(deepCopy(v.Field(i)))
		}
	case reflect.Slice:
		if v.IsNil() {
			break
		}
		room := reflect.MakeSlice(v.Type(), v.Len()+1, v.Len()+1)
		for i := range v.Len() {
			room.Index(i).Set(deepCopy(v.Index(i)))
		}
		room.Index(v.Len()).Set(behind(v.Type().Elem()))
		out.Set(room.Slice(0, v.Len()))
	default:
		out.Set(v)
	}
	return out
}

// behind is the wrong part that stands behind a list.
func behind(t reflect.Type) reflect.Value {
	out := reflect.New(t).Elem()
	if t.Kind() == reflect.Slice {
		out.Set(reflect.MakeSlice(t, 1, 1))
		out.Index(0).Set(behind(t.Elem()))
		return out
	}
	leaves(out, func(v reflect.Value) {
		if v.CanInt() {
			v.SetInt(77)
		} else if v.CanUint() {
			v.SetUint(77)
		}
	})
	return out
}

// leaves hands each field of a thing that is no struct and no list, in order, and may change it: of a copy.
func leaves(v reflect.Value, see func(v reflect.Value)) {
	switch v.Kind() {
	case reflect.Struct:
		for i := range v.NumField() {
			leaves(v.Field(i), see)
		}
	case reflect.Slice:
		for i := range v.Len() {
			leaves(v.Index(i), see)
		}
	default:
		see(v)
	}
}

// lists hands each list of a thing, and may change it: of a copy.
func lists(v reflect.Value, see func(v reflect.Value)) {
	switch v.Kind() {
	case reflect.Struct:
		for i := range v.NumField() {
			lists(v.Field(i), see)
		}
	case reflect.Slice:
		see(v)
		for i := range v.Len() {
			lists(v.Index(i), see)
		}
	}
}

// elem is what a pointer points to, as it is gone through above.
func elem(p any) reflect.Value { return reflect.ValueOf(p).Elem() }

// draw answers numbers that look drawn, and are the same each time.
func draw(from uint64) func(below int) int {
	return func(below int) int {
		from += 0x9e3779b97f4a7c15
		z := from
		z = (z ^ z>>30) * 0xbf58476d1ce4e5b9
		z = (z ^ z>>27) * 0x94d049bb133111eb
		return int((z ^ z>>31) % uint64(below))
	}
}

// expectReached tells whether each of these came so often.
func expectReached[K comparable](t *testing.T, reached map[K]int, least int, all ...K) {
	t.Helper()
	for _, k := range all {
		if reached[k] < least {
			t.Errorf("%v was reached %d times; all: %v", k, reached[k], reached)
		}
	}
}
