package slots_test

import (
	"slices"
	"testing"

	"tripwire/api"
	"tripwire/slots"
)

const (
	full  = api.ErrSlotsFull
	wrong = api.ErrArg
)

// placed is one step of a walk: a number, and the thing that has it.
type placed[T comparable] struct {
	n     int
	thing T
}

// made is an arena that may be.
func made[T any](t *testing.T, rows, room int) *slots.Arena[T] {
	t.Helper()
	a, e := slots.New[T](rows, room)
	if a == nil || e != api.OK {
		t.Fatalf("New(%d, %d) is %v, %d", rows, room, a, e)
	}
	return a
}

// walked is what All tells of a row.
func walked[T comparable](a *slots.Arena[T], row int) []placed[T] {
	var l []placed[T]
	for n, thing := range a.All(row) {
		l = append(l, placed[T]{n, thing})
	}
	return l
}

// stepped is what First and Next tell of a row.
func stepped[T comparable](a *slots.Arena[T], row int) []placed[T] {
	var l []placed[T]
	for n := a.First(row); n != -1; n = a.Next(n) {
		thing, _ := a.Get(n)
		l = append(l, placed[T]{n, thing})
	}
	return l
}

func expectPush[T any](t *testing.T, a *slots.Arena[T], row int, thing T, wantN int, wantErr api.Errno) {
	t.Helper()
	if n, e := a.Push(row, thing); n != wantN || e != wantErr {
		t.Errorf("Push(%d, %v) is %d, %d; want %d, %d", row, thing, n, e, wantN, wantErr)
	}
}

// expectRow holds all that is told of a row against what it should be.
func expectRow[T comparable](t *testing.T, a *slots.Arena[T], row int, want ...placed[T]) {
	t.Helper()
	if got := walked(a, row); !slices.Equal(got, want) {
		t.Errorf("All(%d) is %v; want %v", row, got, want)
	}
	if got := stepped(a, row); !slices.Equal(got, want) {
		t.Errorf("First(%d) and Next go through %v; want %v", row, got, want)
	}
	if got := a.Len(row); got != len(want) {
		t.Errorf("Len(%d) is %d; want %d", row, got, len(want))
	}
	for _, p := range want {
		if got := a.Row(p.n); got != row {
			t.Errorf("Row(%d) is %d; want %d", p.n, got, row)
		}
	}
}

// expectThing holds what Get and Take tell against what they should: a thing.
func expectThing[T comparable](t *testing.T, call string, n int, got T, is bool, want T) {
	t.Helper()
	if got != want || !is {
		t.Errorf("%s(%d) is %v, %t; want %v, true", call, n, got, is, want)
	}
}

// expectNothing asks all that can be asked of a number that no thing has.
func expectNothing[T comparable](t *testing.T, a *slots.Arena[T], n int) {
	t.Helper()
	var zero, other T
	if thing, is := a.Get(n); thing != zero || is {
		t.Errorf("Get(%d) is %v, %t; want nothing", n, thing, is)
	}
	if thing, is := a.Take(n); thing != zero || is {
		t.Errorf("Take(%d) is %v, %t; want nothing", n, thing, is)
	}
	if a.Set(n, other) {
		t.Errorf("Set(%d) is true", n)
	}
	if row := a.Row(n); row != -1 {
		t.Errorf("Row(%d) is %d; want -1", n, row)
	}
	if next := a.Next(n); next != -1 {
		t.Errorf("Next(%d) is %d; want -1", n, next)
	}
}

// expectNoRow asks all that can be asked of a row that an arena has not.
func expectNoRow[T comparable](t *testing.T, a *slots.Arena[T], row int) {
	t.Helper()
	var thing T
	expectPush(t, a, row, thing, 0, wrong)
	expectRow(t, a, row)
	if got := a.First(row); got != -1 {
		t.Errorf("First(%d) is %d; want -1", row, got)
	}
	if got := a.Clear(row); got != 0 {
		t.Errorf("Clear(%d) is %d; want 0", row, got)
	}
}

func expectFree[T any](t *testing.T, a *slots.Arena[T], want int) {
	t.Helper()
	if got := a.Free(); got != want {
		t.Errorf("Free is %d; want %d", got, want)
	}
}

// TestExamples has the chapter's examples.
func TestExamples(t *testing.T) {
	type at = placed[string]
	a := made[string](t, 2, 3)
	expectPush(t, a, 0, "a", 0, api.OK)
	expectPush(t, a, 1, "b", 1, api.OK)
	expectPush(t, a, 0, "c", 2, api.OK)
	expectPush(t, a, 0, "d", 0, full)
	expectRow(t, a, 0, at{0, "a"}, at{2, "c"})
	if a.Next(0) != 2 || a.Next(2) != -1 || a.First(1) != 1 || a.Row(2) != 0 {
		t.Error("links:", a.Next(0), a.Next(2), a.First(1), a.Row(2))
	}
	thing, is := a.Take(0)
	expectThing(t, "Take", 0, thing, is, "a")
	if a.First(0) != 2 {
		t.Error("First(0) is", a.First(0))
	}
	expectPush(t, a, 1, "e", 0, api.OK)
	expectRow(t, a, 1, at{1, "b"}, at{0, "e"})

	if n := a.Clear(1); n != 2 {
		t.Error("Clear(1) is", n)
	}
	expectFree(t, a, 2)
	expectNothing(t, a, 1)
	expectPush(t, a, 2, "a", 0, wrong)
	if b, e := slots.New[string](0, 5); b != nil || e != wrong {
		t.Error("New(0, 5) is", b, e)
	}
}
