package lab

import (
	"strconv"

	"tripwire/api"
	"tripwire/decimal"
)

// tell puts a line behind what was told.
func (b *bench) tell(line string) {
	b.told.WriteString(line)
	b.told.WriteByte('\n')
	if b.told.Len() > api.MaxTold {
		panic(fault{api.ErrLabMuch, b.line})
	}
}

func (b *bench) refused(no api.Errno) { b.tell("refused" + numbers(no)) }

// done tells that a command was, and what came about by it.
func (b *bench) done(r api.Reply) {
	// The numbers of orders and of strategies begin with 1: a reply that has none is one of an Op that has none.
	if r.ID == 0 {
		b.tell("ok")
	} else {
		b.tell("ok" + numbers(r.ID))
	}
	lines := [...]func(b *bench, x api.Told){
		api.TellEvent:   (*bench).event,
		api.TellFired:   (*bench).fired,
		api.TellRefused: (*bench).over,
		api.TellReject:  (*bench).rejected,
		api.TellHalted:  (*bench).halted,
		api.TellFaulted: (*bench).faulted,
		api.TellCutoff:  (*bench).cut,
	}
	for _, x := range r.Told {
		lines[x.Tell](b, x)
	}
}

func (b *bench) event(x api.Told) {
	e := x.Event
	names := [...]string{
		api.Accepted: "accepted", api.Traded: "traded", api.Withdrawn: "withdrawn", api.Yielded: "yielded",
		api.Dropped: "dropped", api.Rested: "rested", api.Amended: "amended", api.Reduced: "reduced",
	}
	name, lots := names[e.What], b.lots(e.Side, e.Price, e.Qty)
	switch e.What {
	case api.Traded:
		b.tell(name + numbers(e.ID, e.Other, e.Client, e.Holder) + lots)
	case api.Yielded:
		b.tell(name + numbers(e.ID, e.Other, e.Client) + lots)
	case api.Amended, api.Reduced:
		b.tell(name + numbers(e.ID, e.Client) + lots + numbers(e.Was))
	default:
		b.tell(name + numbers(e.ID, e.Client) + lots)
	}
}

func (b *bench) fired(x api.Told)    { b.tell("fired" + numbers(x.Strategy, x.Rule)) }
func (b *bench) over(x api.Told)     { b.tell("over" + numbers(x.Strategy, x.Rule)) }
func (b *bench) rejected(x api.Told) { b.tell("rejected" + numbers(x.Strategy, x.Action, int(x.Code))) }
func (b *bench) halted(x api.Told)   { b.tell("halted" + numbers(x.Strategy)) }
func (b *bench) faulted(x api.Told)  { b.tell("faulted" + numbers(x.Strategy, int(x.Code))) }
func (b *bench) cut(api.Told)        { b.tell("cut") }

// numbers are words of a line, each with a blank ahead.
func numbers[N ~int | ~int64](all ...N) string {
	words := ""
	for _, n := range all {
		words += " " + strconv.FormatInt(int64(n), 10)
	}
	return words
}

// prices are words of a line, each with a blank ahead, with the market's places.
func (b *bench) prices(all ...int64) string {
	words := ""
	for _, p := range all {
		digits, _ := decimal.Print(p, b.places)
		words += " " + digits
	}
	return words
}

// lots are a side, a price and a quantity, each with a blank ahead.
func (b *bench) lots(side api.Side, price, qty int64) string {
	return " " + sides()[side] + b.prices(price) + numbers(qty)
}
