package lab

import (
	"strconv"
	"strings"

	"tripwire/api"
	"tripwire/decimal"
	"tripwire/store"
)

// bench is where a script is done: the journal at hand, and what was told.
type bench struct {
	journal *store.Journal // nil: no market was made yet
	shown   shown          // what the journal's venue shows without a command
	places  int            // of prices
	told    strings.Builder
	line    int // that of the command that is done
}

// shown is what can be seen of a venue, and stands in no journal.
type shown interface {
	Top() api.Top
	Now() int64
}

// do does a command.
func (b *bench) do(s step) {
	b.line = s.line
	if b.journal == nil && !s.ahead {
		b.tell("none")
		return
	}
	s.deed(b, s)
}

// begin makes a market.
func (b *bench) begin(s step) {
	places := s.numbers[configNumbers]
	if places < 0 || places > api.MaxPlaces {
		b.refused(api.ErrArg)
		return
	}
	j, v, no := store.New(config(s.numbers))
	if no != api.OK {
		b.refused(no)
		return
	}
	b.journal, b.shown, b.places = j, v, int(places)
	b.tell("ok")
}

// config is one of its numbers, in the order in which a journal has them.
func config(n []int64) api.Config {
	return api.Config{
		Rules:  api.Rules{Clients: int(n[0]), Tick: n[1], Lot: n[2], Low: n[3], High: n[4], Most: n[5]},
		Orders: int(n[6]), Levels: int(n[7]), Volume: n[8], IDs: int(n[9]),
		Rounds: int(n[10]), Strats: int(n[11]), Open: int(n[12]), Acts: int(n[13]), Window: n[14],
	}
}

// torn opens what is left of the journal.
func (b *bench) torn(s step) {
	j, v, taken, no := store.Open(without(b.journal.Bytes(), s.numbers[0]))
	if no != api.OK {
		b.refused(no)
		return
	}
	b.journal, b.shown = j, v
	b.tell("ok" + numbers(taken))
}

// without is a text less its last n bytes.
func without(text string, n int64) string {
	if n < 0 {
		return text
	}
	return text[:max(int64(len(text))-n, 0)]
}

// plain does a command of which nothing is told but how it went.
func (b *bench) plain(s step) { b.asked(s) }

func (b *bench) enter(s step) {
	if s.Entry.Kind == api.Market || b.priced(s, &s.Entry.Price) {
		b.asked(s)
	}
}

func (b *bench) amend(s step) {
	if b.priced(s, &s.Price) {
		b.asked(s)
	}
}

// priced reads a step's price with the market's places; false: it can't be, and that is told.
func (b *bench) priced(s step, price *int64) bool {
	ticks, no, _ := decimal.Parse(s.digits, b.places)
	if no != api.OK {
		b.refused(no)
		return false
	}
	*price = ticks
	return true
}

func (b *bench) book(s step) {
	r, _ := b.asked(s)
	for _, o := range r.Orders {
		b.tell(strconv.Itoa(o.ID) + numbers(o.Client) + b.lots(o.Side, o.Price, o.Qty))
	}
}

func (b *bench) status(s step) {
	r, done := b.asked(s)
	if !done {
		return
	}
	x, sees := r.Stand, r.Stand.Snap
	b.tell("strategy" + numbers(x.ID, x.Client, int(x.Status), int(x.Code), x.State))
	b.tell("regs" + numbers(x.Regs...))
	b.tell("slots" + numbers(x.Slots...))
	b.tell("sees" + b.prices(sees.Bid, sees.Ask, sees.Last) + numbers(sees.Volume, sees.Now, sees.Open))
}

func (b *bench) quota(s step) {
	if r, done := b.asked(s); done {
		b.tell("used" + numbers(r.Usage.Strats, r.Usage.Orders) + numbers(r.Usage.Lots) + numbers(r.Usage.Acts))
	}
}

func (b *bench) top(step) {
	t := b.shown.Top()
	b.tell("ok")
	b.tell("top" + b.prices(t.Bid, t.Ask, t.Last) + numbers(t.Volume, b.shown.Now()))
}

// asked asks the venue, and tells how that went; the reply, and whether it was done.
func (b *bench) asked(s step) (api.Reply, bool) {
	r, no := b.journal.Do(s.Command)
	switch {
	case no != api.OK:
		b.refused(no)
	case s.Op == api.OpUpload && isOfSource(r.Err):
		b.tell("refused" + numbers(r.Err) + " at" + numbers(r.At))
	case r.Err != api.OK:
		b.refused(r.Err)
	default:
		b.done(r)
		return r, true
	}
	return api.Reply{}, false
}

// isOfSource tells whether an upload was refused for its source, and not for who asked.
func isOfSource(no api.Errno) bool {
	return no != api.OK && no != api.ErrVenueClient && no != api.ErrQuotaPlan
}
