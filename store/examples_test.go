package store_test

import (
	"testing"

	"tripwire/api"
	"tripwire/store"
)

// The chapter's examples, one behind the other.
func TestExamples(t *testing.T) {
	// 1.
	if b, no := store.Command(tick(5)); b != "\x04\x0a" || no != api.OK {
		t.Errorf("% x, %d", b, no)
	}
	if b, no := store.Command(enter(1, api.Limit, api.Buy, 10, 7)); b != "\x01\x02\x01\x01\x14\x0e" || no != api.OK {
		t.Errorf("% x, %d", b, no)
	}
	if b, no := store.Command(api.Command{Op: 12}); b != "" || no != api.ErrStoreForm {
		t.Errorf("% x, %d", b, no)
	}
	if c, to, no := store.Read("\x04\x0a", 0); c != (api.Command{Op: api.OpTick, Time: 5}) || to != 2 || no != api.OK {
		t.Error(c, to, no)
	}
	if c, to, no := store.Read("\x04", 0); c != (api.Command{}) || to != 0 || no != api.ErrStoreForm {
		t.Error(c, to, no)
	}

	// 2.
	j, v := written(t, plain(), upload(1, hunter), start(1, 1), sell(2, 10, 5))
	ahead, bytes := seen(v), j.Bytes()
	done(t, j, tick(4))
	_, w := opened(t, j.Bytes()[:len(j.Bytes())-1], len(bytes))
	if !same(seen(w), ahead) || same(seen(v), ahead) {
		t.Errorf("%+v; ahead of the last command it was %+v", seen(w), ahead)
	}
}

// DOC.md's example 9: the last byte of a journal is cut off.
func TestTheLastByteIsCutOff(t *testing.T) {
	j, _ := made(t, plain())
	_, last := made(t, plain())
	for k, c := range busy() {
		ends := len(j.Bytes())
		done(t, j, c)
		b := j.Bytes()
		_, v := opened(t, b[:len(b)-1], ends)
		if !same(seen(v), seen(last)) {
			t.Errorf("behind %d commands, and a part of another one: %+v; want %+v", k, seen(v), seen(last))
		}
		last.Do(c)
	}
}
