package store_test

import (
	"encoding/binary"
	"hash/fnv"

	"tripwire/api"
)

// The model writes and reads by the library's own numbers and checks, and finds out by writing again whether what it has read has the one form that may be.

// modelBytes are a command's.
func modelBytes(c api.Command) (string, bool) {
	b := binary.AppendUvarint(nil, uint64(c.Op))
	signed := func(l ...int64) {
		for _, n := range l {
			b = binary.AppendVarint(b, n)
		}
	}
	switch c.Op {
	case api.OpEnter:
		signed(int64(c.Client))
		b = binary.AppendUvarint(b, uint64(c.Entry.Kind))
		b = binary.AppendUvarint(b, uint64(c.Entry.Side))
		signed(c.Entry.Price, c.Entry.Qty)
	case api.OpAmend:
		signed(int64(c.Client), int64(c.ID), c.Price, c.Qty)
	case api.OpCancel, api.OpStart, api.OpStop, api.OpDrop:
		signed(int64(c.Client), int64(c.ID))
	case api.OpTick:
		signed(c.Time)
	case api.OpUpload:
		if len(c.Source) > mostText {
			return "", false
		}
		signed(int64(c.Client))
		b = binary.AppendUvarint(b, uint64(len(c.Source)))
		b = append(b, c.Source...)
	case api.OpBook:
	case api.OpStatus:
		signed(int64(c.ID))
	case api.OpQuota:
		signed(int64(c.Client))
	default:
		return "", false
	}
	return string(b), true
}

// modelReader reads without a look at how a number is written; once it cannot go on, what it says means nothing.
type modelReader struct {
	left []byte
	ends bool
}

func (r *modelReader) number() uint64 {
	n, size := binary.Uvarint(r.left)
	if size <= 0 {
		r.ends = true
		return 0
	}
	r.left = r.left[size:]
	return n
}

func (r *modelReader) signed() int64 {
	n := r.number()
	if n%2 == 1 {
		return -int64(n/2) - 1
	}
	return int64(n / 2)
}

func (r *modelReader) int() int { return int(r.signed()) }

func (r *modelReader) small() uint8 {
	n := r.number()
	r.ends = r.ends || n > 255
	return uint8(n)
}

func (r *modelReader) text() string {
	n := r.number()
	if n > mostText || n > uint64(len(r.left)) {
		r.ends = true
		return ""
	}
	s := string(r.left[:n])
	r.left = r.left[n:]
	return s
}

// modelRead is the command at a place, and the place behind it.
func modelRead(b string, at int) (api.Command, int, bool) {
	if at < 0 || at > len(b) {
		return api.Command{}, at, false
	}
	r := &modelReader{left: []byte(b[at:])}
	c := api.Command{Op: api.Op(r.small())}
	switch c.Op {
	case api.OpEnter:
		c.Client = r.int()
		c.Entry.Kind, c.Entry.Side = api.Kind(r.small()), api.Side(r.small())
		c.Entry.Price, c.Entry.Qty = r.signed(), r.signed()
	case api.OpAmend:
		c.Client, c.ID = r.int(), r.int()
		c.Price, c.Qty = r.signed(), r.signed()
	case api.OpCancel, api.OpStart, api.OpStop, api.OpDrop:
		c.Client, c.ID = r.int(), r.int()
	case api.OpTick:
		c.Time = r.signed()
	case api.OpUpload:
		c.Client, c.Source = r.int(), r.text()
	case api.OpStatus:
		c.ID = r.int()
	case api.OpQuota:
		c.Client = r.int()
	}
	to := len(b) - len(r.left)
	if again, is := modelBytes(c); !is || r.ends || again != b[at:to] {
		return api.Command{}, at, false
	}
	return c, to, true
}

// modelNumbers are a config's.
func modelNumbers(c api.Config) []int64 {
	r := c.Rules
	return []int64{int64(r.Clients), r.Tick, r.Lot, r.Low, r.High, r.Most, int64(c.Orders), int64(c.Levels), c.Volume, int64(c.IDs), int64(c.Rounds), int64(c.Strats), int64(c.Open), int64(c.Acts), c.Window}
}

// numbersByZig are numbers as they are written.
func numbersByZig(l ...int64) string {
	var b []byte
	for _, n := range l {
		b = binary.AppendVarint(b, n)
	}
	return string(b)
}

// modelFrame is a frame, of whatever length.
func modelFrame(content string) string {
	b := binary.AppendUvarint(nil, uint64(len(content)))
	b = append(b, content...)
	h := fnv.New32a()
	h.Write([]byte(content))
	return string(binary.LittleEndian.AppendUint32(b, h.Sum32()))
}

// modelUnframe is what a frame has that stands at a place, and the place behind it.
func modelUnframe(b string, at int) (string, int, bool) {
	r := &modelReader{left: []byte(b[at:])}
	content := r.text()
	if to := at + len(modelFrame(content)); !r.ends && to <= len(b) && b[at:to] == modelFrame(content) {
		return content, to, true
	}
	return "", at, false
}

// modelJournal is what a journal's bytes say: its config, its commands, and the place behind the first frame and behind each command's.
type modelJournal struct {
	config   api.Config
	commands []api.Command
	ends     []int
}

// modelOpen reads a journal's bytes; false: its first frame is none of a config.
func modelOpen(b string) (modelJournal, bool) {
	content, at, is := modelUnframe(b, 0)
	if len(b) > mostBytes || !is {
		return modelJournal{}, false
	}
	r := &modelReader{left: []byte(content)}
	j := modelJournal{
		config: api.Config{
			Rules:  api.Rules{Clients: r.int(), Tick: r.signed(), Lot: r.signed(), Low: r.signed(), High: r.signed(), Most: r.signed()},
			Orders: r.int(), Levels: r.int(), Volume: r.signed(), IDs: r.int(), Rounds: r.int(), Strats: r.int(), Open: r.int(), Acts: r.int(), Window: r.signed(),
		},
		ends: []int{at},
	}
	if r.ends || numbersByZig(modelNumbers(j.config)...) != content {
		return modelJournal{}, false
	}
	for {
		content, to, is := modelUnframe(b, at)
		c, behind, isOne := modelRead(content, 0)
		if !is || !isOne || behind != len(content) {
			return j, true
		}
		j.commands, j.ends, at = append(j.commands, c), append(j.ends, to), to
	}
}

// modelWritten is a journal's bytes.
func modelWritten(c api.Config, l ...api.Command) string {
	b := modelFrame(numbersByZig(modelNumbers(c)...))
	for _, x := range l {
		content, _ := modelBytes(x)
		b += modelFrame(content)
	}
	return b
}
