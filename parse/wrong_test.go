package parse_test

import (
	"errors"
	"fmt"
	"reflect"
	"strings"
	"testing"

	"tripwire/api"
	"tripwire/parse"
)

func failure(call string, at int, err error) error {
	return &api.Failure{Call: call, At: at, Err: err}
}

func expectWrong(t *testing.T, err error, no api.Errno, at int) {
	t.Helper()
	if got, place := parse.Wrong(err); got != no || place != at {
		t.Errorf("Wrong(%#v) is %d, %d; want %d, %d", err, got, place, no, at)
	}
}

func TestWrongOfNil(t *testing.T) {
	expectWrong(t, nil, api.OK, 0)
	_, err := parse.Expr("1")
	expectWrong(t, err, api.OK, 0)
	_, err = parse.Strategy("strategy s{state a{}}")
	expectWrong(t, err, api.OK, 0)
}

// An Errno is an error itself, without a place; so is OK, and what no layer tells.
func TestWrongOfAnErrno(t *testing.T) {
	for _, no := range []api.Errno{api.OK, 1, 10, 110, wrongToken, tooMany, tooDeep, 245, 246, 9999, -1, -2, least, greatest} {
		expectWrong(t, no, no, 0)
		expectWrong(t, failure("Any", 7, no), no, 7)
		expectWrong(t, failure("", -7, no), no, -7)
		expectWrong(t, failure("Any", least, no), no, least)
		expectWrong(t, failure("Any", greatest, no), no, greatest)
		expectWrong(t, failure("Any", 0, no), no, 0)
		expectWrong(t, wrapped{"x", no}, no, 0)
	}
}

func TestWrongOfFailuresWithinOneAnother(t *testing.T) {
	expectWrong(t, failure("Any", 3, nil), -1, 3)
	expectWrong(t, failure("Any", 3, failure("Other", 4, nil)), -1, 3)
	expectWrong(t, failure("Any", 3, failure("Other", 4, tooMany)), tooMany, 3)
	expectWrong(t, failure("Any", 0, failure("Other", 4, tooMany)), tooMany, 0)
	expectWrong(t, failure("Any", 3, failure("Other", 4, failure("Third", 5, wrongByte))), wrongByte, 3)
	expectWrong(t, failure("Any", 3, errors.New("x")), -1, 3)
	expectWrong(t, failure("Any", 3, wrapped{"x", failure("Other", 4, tooDeep)}), tooDeep, 3)
	expectWrong(t, wrapped{"x", failure("Other", 4, tooDeep)}, tooDeep, 4)
	expectWrong(t, wrapped{"x", wrapped{"y", failure("Other", 4, wrapped{"z", tooDeep})}}, tooDeep, 4)
	expectWrong(t, wrapped{"x", failure("Other", 4, nil)}, -1, 4)
	deep := error(tooMany)
	for i := range 1000 {
		deep = failure("Any", i, deep)
	}
	expectWrong(t, deep, tooMany, 999)
	expectWrong(t, fmt.Errorf("x: %w", deep), tooMany, 999)
}

// Of errors that wrap several the first is taken that is found, all of what it wraps ahead of the next.
func TestWrongOfErrorsThatWrapSeveral(t *testing.T) {
	one, two := failure("One", 1, wrongToken), failure("Two", 2, tooMany)
	expectWrong(t, errors.Join(one, two), wrongToken, 1)
	expectWrong(t, errors.Join(two, one), tooMany, 2)
	expectWrong(t, several{one, two}, wrongToken, 1)
	expectWrong(t, several{tooDeep, one, two}, tooDeep, 1)
	expectWrong(t, several{errors.New("x"), two, one}, tooMany, 2)
	expectWrong(t, several{failure("Any", 3, nil), two}, tooMany, 3)
	expectWrong(t, several{failure("Any", 3, errors.New("x")), tooDeep}, tooDeep, 3)
	expectWrong(t, several{wrapped{"x", several{errors.New("y"), tooDeep}}, one}, tooDeep, 1)
	expectWrong(t, several{several{}, several{two}, one}, tooMany, 2)
	expectWrong(t, several{tooDeep, tooMany}, tooDeep, 0)
	expectWrong(t, fmt.Errorf("%w and %w", two, one), tooMany, 2)
	expectWrong(t, failure("Any", 9, several{one, two}), wrongToken, 9)
	expectWrong(t, several{errors.New("x"), errors.New("y")}, -1, 0)
	expectWrong(t, several{}, -1, 0)
	expectWrong(t, several(nil), -1, 0)
}

func TestWrongOfErrorsWithNeither(t *testing.T) {
	for _, err := range []error{
		errors.New("x"), errors.New(""), errors.New("error 130"), wrapped{"x", nil}, wrapped{"x", errors.New("y")}, wrapped{"x", wrapped{"y", nil}}, fmt.Errorf("at %d: %d", 3, tooMany), actor{errors.New("x")}, &named{},
	} {
		expectWrong(t, err, -1, 0)
	}
}

// named has fields like a Failure's, and is none.
type named struct{ api.Failure }

func (n *named) Error() string { return "named" }

func (n *named) Unwrap() error { return n.Err }

// What an error says of itself, by a method As, counts.
func TestWrongOfErrorsThatSayWhatTheyAre(t *testing.T) {
	expectWrong(t, actor{tooMany}, tooMany, 0)
	expectWrong(t, actor{failure("Any", 5, tooMany)}, tooMany, 5)
	expectWrong(t, wrapped{"x", actor{failure("Any", 5, nil)}}, -1, 5)
	expectWrong(t, &named{api.Failure{At: 5, Err: tooMany}}, tooMany, 0)
	expectWrong(t, &named{api.Failure{At: 5, Err: failure("Any", 6, tooMany)}}, tooMany, 6)
}

// An error's owner may change it: another call makes another one; and Wrong changes none.
func TestErrorsChangedByTheirOwner(t *testing.T) {
	for _, s := range []string{"1 2", "1 &", strings.Repeat("(", 25), strings.Repeat(" ", most+1)} {
		_, err := parse.Expr(s)
		_, other := parse.Expr(s)
		no, at := parse.Wrong(err)
		if !reflect.DeepEqual(err, other) {
			t.Errorf("%q: %#v and %#v", s, err, other)
		}
		f := err.(*api.Failure)
		if within, is := f.Err.(*api.Failure); is {
			*within = api.Failure{Call: "spoilt", At: 4711}
		}
		*f = api.Failure{Call: "spoilt", At: 4711}
		expectFailure(t, "Expr", s, other, no, at)
		expectNoExpr(t, s, no, at)
		expectWrong(t, err, -1, 4711)
	}
}
