package table_test

import (
	"encoding/binary"
	"hash/fnv"
	"regexp"
	"slices"
	"strings"

	"tripwire/api"
	"tripwire/lex"
)

// A model by the chapter's words: which spans there must be is reckoned from their lengths, and held against those that there are; heights are sets of pairs that grow until nothing new is come to; bytes are written by the library, and read by whatever way, and then written again.

// asked is what the chapter's table says of a kind of row: Order from and to, Index from and to, and whether it has Side, Qty, Price, Value.
func asked(x api.Table, r api.Row) (orders, indexes [2]int, has [4]bool) {
	slots, regs, states := x.Slots, len(x.Regs)-1, len(x.States)-1
	switch {
	case r.Kind == api.DoSubmit && r.Order == 2:
		return [2]int{2, 2}, [2]int{0, slots}, [4]bool{true, true, false, false}
	case r.Kind == api.DoSubmit:
		return [2]int{1, 5}, [2]int{0, slots}, [4]bool{true, true, true, false}
	case r.Kind == api.DoAmend:
		return [2]int{}, [2]int{1, slots}, [4]bool{false, true, true, false}
	case r.Kind == api.DoCancel:
		return [2]int{}, [2]int{1, slots}, [4]bool{}
	case r.Kind == api.DoSet:
		return [2]int{}, [2]int{0, regs}, [4]bool{3: true}
	case r.Kind == api.DoGoto:
		return [2]int{}, [2]int{0, states}, [4]bool{}
	case r.Kind == api.DoHalt:
		return [2]int{}, [2]int{}, [4]bool{}
	}
	return [2]int{1, 0}, [2]int{1, 0}, [4]bool{}
}

func between(n int, l [2]int) bool { return l[0] <= n && n <= l[1] }

// relaid is a table whose spans lie as they must, by their lengths; whether each has one, and whether they are as many as there are instructions in all.
func relaid(x api.Table) (api.Table, bool) {
	fine, at := true, 0
	move := func(s *api.Span) {
		n := s.To - s.From
		fine = fine && s.To > s.From
		s.From, s.To = at, at+n
		at += n
	}
	x.States = slices.Clone(x.States)
	for i := range x.States {
		guards := slices.Clone(x.States[i])
		x.States[i] = guards
		for g := range guards {
			guards[g].Rows = slices.Clone(guards[g].Rows)
			move(&guards[g].When)
			for k := range guards[g].Rows {
				r := &guards[g].Rows[k]
				_, _, has := asked(x, *r)
				for i, s := range []*api.Span{&r.Side, &r.Qty, &r.Price, &r.Value} {
					if has[i] {
						move(s)
					} else {
						*s = api.Span{}
					}
				}
			}
		}
	}
	return x, fine && at == len(x.Code)
}

var nameForm = regexp.MustCompile(`\A[a-z][a-z0-9_]{0,15}\z`)

func modelForm(x api.Table) bool {
	if !nameForm.MatchString(x.Name) || slices.Contains(lex.Words(), x.Name) || len(x.Regs) > 12 || x.Slots < 0 || x.Slots > 4 ||
		len(x.Consts) > 1024 || len(x.Code) > 4096 || len(x.States) == 0 || len(x.States) > 12 {
		return false
	}
	for _, guards := range x.States {
		if len(guards) > 12 {
			return false
		}
		for _, g := range guards {
			if len(g.Rows) == 0 || len(g.Rows) > 8 {
				return false
			}
			ended := false
			for _, r := range g.Rows {
				orders, indexes, _ := asked(x, r)
				if ended || !between(int(r.Order), orders) || !between(r.Index, indexes) {
					return false
				}
				ended = r.Kind >= api.DoGoto
			}
		}
	}
	must, fine := relaid(x)
	return fine && sameTable(x, must)
}

func modelStands(x api.Table, at, to int) bool {
	in := x.Code[at]
	ranges := [][2]int{{1, 0}, {0, len(x.Consts) - 1}, {1, 6}, {1, 3}, {0, len(x.Regs) - 1}, {1, 16}, {at + 1, to}, {at + 1, to}, {at + 1, to}, {at + 1, to}}
	return int(in.Kind) < len(ranges) && between(in.A, ranges[in.Kind])
}

// pair is a place, and a height with which it is come to.
type pair struct{ at, high int }

// ways are the pairs to which one comes on from a pair, and how much must lie there at least.
func ways(in api.Instr, p pair) (next []pair, atLeast int) {
	on := func(by int) pair { return pair{p.at + 1, p.high + by} }
	there := func(by int) pair { return pair{in.A, p.high + by} }
	switch in.Kind {
	case api.InstrConst, api.InstrField, api.InstrHas, api.InstrReg:
		return []pair{on(1)}, 0
	case api.InstrOper:
		if in.A <= 3 {
			return []pair{on(0)}, 1
		}
		return []pair{on(-1)}, 2
	case api.InstrAnd, api.InstrOr:
		return []pair{there(0), on(-1)}, 1
	case api.InstrElse:
		return []pair{there(-1), on(-1)}, 1
	}
	return []pair{there(0)}, 0
}

func modelFits(x api.Table, s api.Span) bool {
	come := []pair{{s.From, 0}}
	known := map[int]int{s.From: 0}
	for i := 0; i < len(come); i++ {
		p := come[i]
		if p.high > 64 {
			return false
		}
		if p.at == s.To {
			continue
		}
		next, atLeast := ways(x.Code[p.at], p)
		if p.high < atLeast {
			return false
		}
		for _, q := range next {
			high, is := known[q.at]
			if is && high != q.high {
				return false
			}
			if !is {
				come, known[q.at] = append(come, q), q.high
			}
		}
	}
	return len(come) == s.To-s.From+1 && known[s.To] == 1
}

// spansOf are all spans of a table that is well formed, and the guard of each When.
func spansOf(x api.Table) (all []api.Span, guards []*api.Guard) {
	for _, l := range x.States {
		for g := range l {
			all, guards = append(all, l[g].When), append(guards, &l[g])
			for _, r := range l[g].Rows {
				for _, s := range []api.Span{r.Side, r.Qty, r.Price, r.Value} {
					if s != (api.Span{}) {
						all, guards = append(all, s), append(guards, nil)
					}
				}
			}
		}
	}
	return all, guards
}

func modelCheck(x api.Table) api.Errno {
	if !modelForm(x) {
		return wrongForm
	}
	all, guards := spansOf(x)
	for i, s := range all {
		for at := s.From; at < s.To; at++ {
			if !modelStands(x, at, s.To) {
				return wrongCode
			}
		}
		if !modelFits(x, s) {
			return wrongStack
		}
		if g := guards[i]; g != nil {
			if fields, regs := modelReads(x, s); fields != g.Fields || regs != g.Regs {
				return wrongMask
			}
		}
	}
	return api.OK
}

// modelReads asks each instruction of the code whether it stands in the span.
func modelReads(x api.Table, s api.Span) (fields api.Mask, regs uint16) {
	for at, in := range x.Code {
		if at < s.From || at >= s.To {
			continue
		}
		for bit := range 16 {
			if in.A != bit {
				continue
			}
			if in.Kind == api.InstrField || in.Kind == api.InstrHas {
				fields |= 1 << bit
			}
			if in.Kind == api.InstrReg {
				regs |= 1 << bit
			}
		}
	}
	return fields, regs
}

// modelBound is that of a table that may be: of each state all guards, with each one's rows in turn.
func modelBound(x api.Table) api.Cost {
	var most api.Cost
	for _, guards := range x.States {
		for _, g := range guards {
			steps, acts := 0, 0
			for _, other := range guards {
				steps += other.When.To - other.When.From
			}
			for _, r := range g.Rows {
				for _, s := range []api.Span{r.Side, r.Qty, r.Price, r.Value} {
					steps += s.To - s.From
				}
				if strings.Contains("\x01\x02\x03", string(rune(r.Kind))) {
					acts++
				}
			}
			most = api.Cost{Steps: max(most.Steps, steps), Acts: max(most.Acts, acts)}
		}
	}
	return most
}

// framed is a frame of bytes, whatever they are.
func framed(content string) string {
	sum := fnv.New32a()
	sum.Write([]byte(content))
	b := append(binary.AppendUvarint(nil, uint64(len(content))), content...)
	return string(binary.LittleEndian.AppendUint32(b, sum.Sum32()))
}

// modelContent is what a frame has of a table whose numbers are not below 0, where they may not be.
func modelContent(x api.Table) string {
	b := append(binary.AppendUvarint(nil, uint64(len(x.Name))), x.Name...)
	put := func(l ...int) {
		for _, n := range l {
			b = binary.AppendUvarint(b, uint64(n))
		}
	}
	put(len(x.Regs))
	for _, n := range x.Regs {
		b = binary.AppendVarint(b, n)
	}
	put(x.Slots, len(x.Consts))
	for _, n := range x.Consts {
		b = binary.AppendVarint(b, n)
	}
	put(len(x.Code))
	for _, in := range x.Code {
		put(int(in.Kind), in.A)
	}
	put(len(x.States))
	for _, guards := range x.States {
		put(len(guards))
		for _, g := range guards {
			put(g.When.To-g.When.From, len(g.Rows))
			for _, r := range g.Rows {
				put(int(r.Kind), int(r.Order), r.Index)
				_, _, has := asked(x, r)
				for i, s := range []api.Span{r.Side, r.Qty, r.Price, r.Value} {
					if has[i] {
						put(s.To - s.From)
					}
				}
			}
		}
	}
	return string(b)
}

// guess is a table that these bytes could be meant to be: numbers are read as they come, nought where there are none.
func guess(b []byte) (x api.Table) {
	_, n := binary.Uvarint(b)
	b = b[max(n, 0):]
	read := func(most int) int {
		v, n := binary.Uvarint(b)
		b = b[max(n, 0):]
		if v > uint64(most) {
			return 0
		}
		return int(v)
	}
	signed := func() int64 {
		v, n := binary.Varint(b)
		b = b[max(n, 0):]
		return v
	}
	size := read(len(b))
	if size > len(b) {
		return x
	}
	x.Name, b = string(b[:size]), b[size:]
	for range read(12) {
		x.Regs = append(x.Regs, signed())
	}
	x.Slots = read(4)
	for range read(1024) {
		x.Consts = append(x.Consts, signed())
	}
	for range read(4096) {
		x.Code = append(x.Code, api.Instr{Kind: api.InstrKind(read(9)), A: read(4096)})
	}
	at := 0
	next := func() api.Span {
		from := at
		at += read(4096)
		return span(from, at)
	}
	for range read(12) {
		var guards []api.Guard
		for range read(12) {
			g := api.Guard{When: next()}
			g.Fields, g.Regs = modelReads(x, g.When)
			for range read(8) {
				r := api.Row{Kind: api.DoKind(read(6)), Order: api.Kind(read(5)), Index: read(12)}
				_, _, has := asked(x, r)
				for i, s := range []*api.Span{&r.Side, &r.Qty, &r.Price, &r.Value} {
					if has[i] {
						*s = next()
					}
				}
				g.Rows = append(g.Rows, r)
			}
			guards = append(guards, g)
		}
		x.States = append(x.States, guards)
	}
	return x
}

// modelDecode is the table of which these are the bytes: what may be, and is written so.
func modelDecode(b string) (api.Table, api.Errno) {
	x := guess([]byte(b))
	if modelCheck(x) != api.OK || framed(modelContent(x)) != b {
		return api.Table{}, wrongBytes
	}
	return x, api.OK
}
