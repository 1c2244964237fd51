package store

import (
	"iter"

	"tripwire/api"
	"tripwire/wire"
)

// firstFrame is a config in its frame. (Its numbers are few: a frame has always room for them.)
func firstFrame(c api.Config) string {
	x, w := config{c}, &writer{}
	x.through(w)
	f, _ := wire.Frame(w.bytes)
	return f
}

// first is the config whose frame bytes begin with, and the place behind that; false: there is none.
func first(b string) (api.Config, int, bool) {
	content, behind, no := wire.Unframe(b, 0)
	x, r := config{}, &reader{bytes: content}
	if no != api.OK || !whole(x.through, r) || r.at != len(content) {
		return api.Config{}, 0, false
	}
	return x.Config, behind, true
}

// frame is a command in its frame.
func frame(c api.Command) (string, api.Errno) {
	b, no := Command(c)
	if no != api.OK {
		return "", no
	}
	f, no := wire.Frame(b)
	if no != api.OK {
		return "", api.ErrStoreForm
	}
	return f, api.OK
}

// unframe is the command whose frame stands at a place, and the place behind that; false: there is none.
func unframe(b string, at int) (api.Command, int, bool) {
	content, behind, no := wire.Unframe(b, at)
	if no != api.OK {
		return api.Command{}, 0, false
	}
	c, end, no := Read(content, 0)
	if no != api.OK || end != len(content) {
		return api.Command{}, 0, false
	}
	return c, behind, true
}

// commands are those whose frames stand one behind the other from a place on, each with the place behind it.
func commands(b string, from int) iter.Seq2[api.Command, int] {
	return func(yield func(c api.Command, behind int) bool) {
		at := from
		for {
			c, behind, is := unframe(b, at)
			if !is || !yield(c, behind) {
				return
			}
			at = behind
		}
	}
}
