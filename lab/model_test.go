package lab_test

import (
	"fmt"
	"math/big"
	"regexp"
	"strings"

	"tripwire/api"
	"tripwire/venue"
	"tripwire/wire"
)

// The model of the layer: the chapter's words, one behind the other, over the venue alone, with patterns for lines and big numbers for prices.

// goes is a command of a script: its line, its words, its source.
type goes struct {
	line   int
	words  []string
	source string
}

// forms are what a command's words may be, each parted by one blank.
func forms() []*regexp.Regexp {
	const n, p, side = `-?(?:0|[1-9][0-9]*)`, `-?(?:0|[1-9][0-9]*)(?:\.[0-9]{1,9})?`, `(?:buy|sell)`
	var all []*regexp.Regexp
	for _, form := range []string{
		"market" + strings.Repeat(" N", 16), "enter N (?:limit|now|all|post) SIDE N P", "enter N market SIDE N", "amend N N N P", "(?:cancel|start|stop|drop) N N",
		"(?:tick|upload|status|quota|torn) N", "book|top",
	} {
		form = strings.NewReplacer("N", n, "P", p, "SIDE", side).Replace(form)
		all = append(all, regexp.MustCompile(`\A(?:`+form+`)\z`))
	}
	return all
}

var modelForms = forms()

var modelWords, modelNumber = regexp.MustCompile(`[^ ]+`), regexp.MustCompile(`\A-?[0-9]+(\.[0-9]+)?\z`)

// isRight tells whether words are a command's.
func isRight(words []string) bool {
	right := false
	for _, form := range modelForms {
		right = right || form.MatchString(strings.Join(words, " "))
	}
	for _, w := range words {
		if modelNumber.MatchString(w) && !whole(w, 0).IsInt64() {
			right = false
		}
	}
	return right
}

// whole is a number's digits without its point, with noughts behind.
func whole(w string, noughts int) *big.Int {
	n, is := new(big.Int).SetString(strings.Replace(w, ".", "", 1)+strings.Repeat("0", noughts), 10)
	if !is {
		panic(w)
	}
	return n
}

func modelRead(script string) ([]goes, api.Errno, int) {
	if len(script) > 65536 {
		return nil, api.ErrLabLong, 0
	}
	var all []goes
	lines := strings.Split(script, "\n")
	for at := 0; at < len(lines); at++ {
		g := goes{line: at + 1, words: modelWords.FindAllString(lines[at], -1)}
		if len(g.words) == 0 || g.words[0][0] == '#' {
			continue
		}
		if !isRight(g.words) {
			return nil, api.ErrLabLine, g.line
		}
		if g.words[0] == "upload" {
			for at++; at < len(lines) && lines[at] != "."; at++ {
				g.source += lines[at] + "\n"
			}
			if at == len(lines) {
				return nil, api.ErrLabLine, g.line
			}
		}
		if len(all) == 1000 {
			return nil, api.ErrLabMuch, g.line
		}
		all = append(all, g)
	}
	return all, api.OK, 0
}

func modelRun(script string) (string, api.Errno, int) {
	all, no, line := modelRead(script)
	if no != api.OK {
		return "", no, line
	}
	m := &model{told: &strings.Builder{}}
	for _, g := range all {
		m.does(g)
		if m.told.Len() > 1048576 {
			return "", api.ErrLabMuch, g.line
		}
	}
	return m.told.String(), api.OK, 0
}

// model is a market: its config, its venue, the commands that were written down, how many bytes its journal has behind each.
type model struct {
	config api.Config
	places int
	venue  *venue.Venue
	done   []api.Command
	ends   []int
	told   *strings.Builder
}

func (m *model) tell(form string, a ...any) { fmt.Fprintf(m.told, form+"\n", a...) }

// price is one with the market's places.
func (m *model) price(n int64) string {
	s := fmt.Sprintf("%0*d", m.places+1, n)
	if n < 0 {
		s = fmt.Sprintf("%0*d", m.places+2, n)
	}
	if m.places == 0 {
		return s
	}
	return s[:len(s)-m.places] + "." + s[len(s)-m.places:]
}

// ticks is a price's number, if it is one here.
func (m *model) ticks(w string) (int64, api.Errno) {
	_, behind, _ := strings.Cut(w, ".")
	if len(behind) > m.places {
		return 0, 20
	}
	n := whole(w, m.places-len(behind))
	if !n.IsInt64() {
		return 0, 21
	}
	return n.Int64(), 0
}

func (m *model) does(g goes) {
	if g.words[0] == "market" {
		m.market(g)
		return
	}
	if m.venue == nil {
		m.tell("none")
		return
	}
	if g.words[0] == "top" {
		m.tell("ok")
		p := m.venue.Top()
		m.tell("top %s %s %s %d %d", m.price(p.Bid), m.price(p.Ask), m.price(p.Last), p.Volume, m.venue.Now())
		return
	}
	if g.words[0] == "torn" {
		m.torn(whole(g.words[1], 0).Int64())
		return
	}
	c, no := m.command(g)
	if no != api.OK {
		m.tell("refused %d", no)
		return
	}
	m.done, m.ends = append(m.done, c), append(m.ends, m.ends[len(m.ends)-1]+size(c))
	m.answer(c, m.venue.Do(c))
}

func (m *model) market(g goes) {
	var n [16]int64
	for k := range n {
		n[k] = whole(g.words[k+1], 0).Int64()
	}
	c := api.Config{}
	c.Rules.Clients, c.Rules.Tick, c.Rules.Lot, c.Rules.Low, c.Rules.High, c.Rules.Most = int(n[0]), n[1], n[2], n[3], n[4], n[5]
	c.Orders, c.Levels, c.Volume, c.IDs, c.Rounds, c.Strats, c.Open, c.Acts, c.Window = int(n[6]), int(n[7]), n[8], int(n[9]), int(n[10]), int(n[11]), int(n[12]), int(n[13]), n[14]
	if n[15] < 0 || n[15] > 9 {
		m.tell("refused 1")
		return
	}
	v, no := venue.New(c)
	if no != api.OK {
		m.tell("refused %d", no)
		return
	}
	b := ""
	for k := range 15 {
		b = wire.Put(b, wire.Zig(n[k]))
	}
	f, _ := wire.Frame(b)
	*m = model{config: c, places: int(n[15]), venue: v, ends: []int{len(f)}, told: m.told}
	m.tell("ok")
}

func (m *model) torn(n int64) {
	left := int64(m.ends[len(m.ends)-1])
	if n >= left {
		left = 0
	} else if n > 0 {
		left -= n
	}
	if left < int64(m.ends[0]) {
		m.tell("refused 250")
		return
	}
	for int64(m.ends[len(m.ends)-1]) > left {
		m.ends, m.done = m.ends[:len(m.ends)-1], m.done[:len(m.done)-1]
	}
	m.venue, _ = venue.New(m.config)
	for _, c := range m.done {
		m.venue.Do(c)
	}
	m.tell("ok %d", m.ends[len(m.ends)-1])
}

// command is what a command's words ask of the venue.
func (m *model) command(g goes) (api.Command, api.Errno) {
	w := append(g.words, make([]string, 6)...)
	number := func(k int) int64 { return whole(w[k], 0).Int64() }
	who := func(op api.Op) (api.Command, api.Errno) {
		return api.Command{Op: op, Client: int(number(1)), ID: int(number(2))}, api.OK
	}
	switch w[0] {
	case "enter":
		c := api.Command{Op: api.OpEnter, Client: int(number(1)), Entry: api.Entry{Kind: kindOf(w[2]), Side: api.Buy, Qty: number(4)}}
		if w[3] == "sell" {
			c.Entry.Side = api.Sell
		}
		no := api.OK
		if w[2] != "market" {
			c.Entry.Price, no = m.ticks(w[5])
		}
		return c, no
	case "amend":
		price, no := m.ticks(w[4])
		return api.Command{Op: api.OpAmend, Client: int(number(1)), ID: int(number(2)), Qty: number(3), Price: price}, no
	case "cancel":
		return who(api.OpCancel)
	case "start":
		return who(api.OpStart)
	case "stop":
		return who(api.OpStop)
	case "drop":
		return who(api.OpDrop)
	case "tick":
		return api.Command{Op: api.OpTick, Time: number(1)}, api.OK
	case "upload":
		return api.Command{Op: api.OpUpload, Client: int(number(1)), Source: g.source}, api.OK
	case "book":
		return api.Command{Op: api.OpBook}, api.OK
	case "status":
		return api.Command{Op: api.OpStatus, ID: int(number(1))}, api.OK
	case "quota":
		return api.Command{Op: api.OpQuota, Client: int(number(1))}, api.OK
	}
	panic(w[0])
}

func kindOf(w string) api.Kind {
	switch w {
	case "limit":
		return api.Limit
	case "market":
		return api.Market
	case "now":
		return api.Now
	case "all":
		return api.All
	}
	return api.Post
}

// size is how many bytes a journal has more with a command.
func size(c api.Command) int {
	zig := func(n int) uint64 { return wire.Zig(int64(n)) }
	b := wire.Put("", uint64(c.Op))
	switch c.Op {
	case api.OpEnter:
		b = wire.Put(b, zig(c.Client), uint64(c.Entry.Kind), uint64(c.Entry.Side), wire.Zig(c.Entry.Price), wire.Zig(c.Entry.Qty))
	case api.OpAmend:
		b = wire.Put(b, zig(c.Client), zig(c.ID), wire.Zig(c.Price), wire.Zig(c.Qty))
	case api.OpCancel, api.OpStart, api.OpStop, api.OpDrop:
		b = wire.Put(b, zig(c.Client), zig(c.ID))
	case api.OpTick:
		b = wire.Put(b, wire.Zig(c.Time))
	case api.OpUpload:
		b = wire.PutText(wire.Put(b, zig(c.Client)), c.Source)
	case api.OpStatus:
		b = wire.Put(b, zig(c.ID))
	case api.OpQuota:
		b = wire.Put(b, zig(c.Client))
	}
	f, no := wire.Frame(b)
	if no != api.OK {
		panic(no)
	}
	return len(f)
}

// answer tells a reply.
func (m *model) answer(c api.Command, r api.Reply) {
	switch {
	case r.Err != api.OK && c.Op == api.OpUpload && r.Err >= 110 && r.Err < 190:
		m.tell("refused %d at %d", r.Err, r.At)
		return
	case r.Err != api.OK:
		m.tell("refused %d", r.Err)
		return
	case c.Op == api.OpEnter || c.Op == api.OpUpload:
		m.tell("ok %d", r.ID)
	default:
		m.tell("ok")
	}
	for _, x := range r.Told {
		m.thing(x)
	}
	switch c.Op {
	case api.OpBook:
		for _, o := range r.Orders {
			m.tell("%d %d %s", o.ID, o.Client, m.lots(o.Side, o.Price, o.Qty))
		}
	case api.OpStatus:
		s := r.Stand
		m.tell("strategy %d %d %d %d %d", s.ID, s.Client, s.Status, int(s.Code), s.State)
		m.tell("%s", strings.Trim(strings.NewReplacer("[", "", "]", "").Replace(fmt.Sprint("regs ", s.Regs)), " "))
		m.tell("%s", strings.Trim(strings.NewReplacer("[", "", "]", "").Replace(fmt.Sprint("slots ", s.Slots)), " "))
		m.tell("sees %s %s %s %d %d %d", m.price(s.Snap.Bid), m.price(s.Snap.Ask), m.price(s.Snap.Last), s.Snap.Volume, s.Snap.Now, s.Snap.Open)
	case api.OpQuota:
		m.tell("used %d %d %d %d", r.Usage.Strats, r.Usage.Orders, r.Usage.Lots, r.Usage.Acts)
	}
}

func (m *model) lots(side api.Side, price, qty int64) string {
	word := "buy"
	if side == api.Sell {
		word = "sell"
	}
	return fmt.Sprintf("%s %s %d", word, m.price(price), qty)
}

// thing tells one thing that a reply tells.
func (m *model) thing(x api.Told) {
	e := x.Event
	lots := m.lots(e.Side, e.Price, e.Qty)
	switch x.Tell {
	case api.TellFired:
		m.tell("fired %d %d", x.Strategy, x.Rule)
	case api.TellRefused:
		m.tell("over %d %d", x.Strategy, x.Rule)
	case api.TellReject:
		m.tell("rejected %d %d %d", x.Strategy, x.Action, int(x.Code))
	case api.TellHalted:
		m.tell("halted %d", x.Strategy)
	case api.TellFaulted:
		m.tell("faulted %d %d", x.Strategy, int(x.Code))
	case api.TellCutoff:
		m.tell("cut")
	case api.TellEvent:
		switch e.What {
		case api.Accepted:
			m.tell("accepted %d %d %s", e.ID, e.Client, lots)
		case api.Withdrawn:
			m.tell("withdrawn %d %d %s", e.ID, e.Client, lots)
		case api.Dropped:
			m.tell("dropped %d %d %s", e.ID, e.Client, lots)
		case api.Rested:
			m.tell("rested %d %d %s", e.ID, e.Client, lots)
		case api.Traded:
			m.tell("traded %d %d %d %d %s", e.ID, e.Other, e.Client, e.Holder, lots)
		case api.Yielded:
			m.tell("yielded %d %d %d %s", e.ID, e.Other, e.Client, lots)
		case api.Amended:
			m.tell("amended %d %d %s %d", e.ID, e.Client, lots, e.Was)
		case api.Reduced:
			m.tell("reduced %d %d %s %d", e.ID, e.Client, lots, e.Was)
		}
	}
}
