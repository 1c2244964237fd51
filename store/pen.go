package store

import (
	"math"
	"strings"

	"tripwire/api"
	"tripwire/wire"
)

// pen goes over numbers and texts, one behind the other: a writer writes each one down and answers it as it is, a reader answers what it reads in its place. So one list says both what is written and what is read.
type pen interface {
	number(n uint64) uint64
	text(s string) string
}

// signed goes over numbers by Zig.
func signed[N int | int64](p pen, l ...*N) {
	for _, n := range l {
		*n = N(wire.Zag(p.number(wire.Zig(int64(*n)))))
	}
}

// small goes over a number that is written as it is.
func small[N ~uint8](p pen, n *N) {
	is := p.number(uint64(*n))
	need(is <= math.MaxUint8)
	*n = N(is)
}

// fault is what gives up where something can't be written, or does not stand there.
type fault struct{}

func need(is bool) {
	if !is {
		panic(fault{})
	}
}

// whole tells whether a pen has gone over all of a thing: if it can't, it has given up on the way.
func whole(through func(p pen), p pen) (is bool) {
	defer func() {
		is = recover() == nil
	}()
	through(p)
	return true
}

type writer struct {
	bytes string
}

func (w *writer) number(n uint64) uint64 {
	w.bytes = wire.Put(w.bytes, n)
	return n
}

func (w *writer) text(s string) string {
	need(len(s) <= api.MaxWireText)
	w.bytes = wire.PutText(w.bytes, s)
	return s
}

type reader struct {
	bytes string
	at    int
}

func (r *reader) number(uint64) uint64 {
	n, behind, no := wire.Take(r.bytes, r.at)
	need(no == api.OK)
	r.at = behind
	return n
}

func (r *reader) text(string) string {
	s, behind, no := wire.TakeText(r.bytes, r.at)
	need(no == api.OK)
	r.at = behind
	// A piece of the bytes would keep all of them.
	return strings.Clone(s)
}
