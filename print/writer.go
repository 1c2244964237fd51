package print

import (
	"strings"

	"tripwire/api"
)

// writer lays a text piece by piece.
type writer struct {
	text strings.Builder
}

func (w *writer) put(piece string) {
	w.text.WriteString(piece)
}

func (w *writer) long() bool {
	return w.text.Len() > api.MaxSource
}

// whole is all that was laid, if it is not too long.
func (w *writer) whole() (string, api.Errno) {
	if w.long() {
		return "", api.ErrPrintLong
	}
	return w.text.String(), api.OK
}

// row lays parts one behind the other, and between any two of them what is between.
func (w *writer) row(between func(), parts ...func()) {
	for i, part := range parts {
		if i > 0 {
			between()
		}
		part()
	}
}

// line lays a line of a strategy: what stands ahead of it, its parts with blanks between, and its end.
func (w *writer) line(ahead, end string, parts ...func()) {
	w.put(ahead)
	w.row(w.blank, parts...)
	w.put(end)
}

func (w *writer) blank() { w.put(" ") }

func (w *writer) comma() { w.put(", ") }

// word is a part that is just this word or mark.
func (w *writer) word(s string) func() {
	return func() { w.put(s) }
}

// words is a part that is several, with blanks between.
func (w *writer) words(parts ...func()) func() {
	return func() { w.row(w.blank, parts...) }
}
