package eval

import "tripwire/api"

// Which of a row's spans is which, in the order in which they are run.
const (
	side = iota
	qty
	price
	value
	spans
)

// numbers are what a row's spans came to; 0 of those that it has not.
type numbers [spans]int64

// body is what a rule's rows have done so far; it is the evaluator's, or nobody's, when all of it has been reckoned.
type body struct {
	mode
	actions []api.Action
	halted  bool
}

// reckon is what rows do, each in the mode that those ahead of it leave; or nothing, and the first fault.
func (e *Eval) reckon(all []api.Row) (body, api.Errno) {
	b := body{mode: e.mode}
	why := api.OK
rows:
	for _, row := range all {
		var is numbers
		for i, x := range [spans]api.Span{side: row.Side, qty: row.Qty, price: row.Price, value: row.Value} {
			if x == (api.Span{}) {
				continue
			}
			if is[i], why = e.run(x, b.mode); why != api.OK {
				break rows
			}
			if i == side && !isSide(is[i]) {
				why = api.ErrMachineSide
				break rows
			}
		}
		deed(row.Kind)(&b, row, is)
	}
	if why != api.OK {
		return body{}, why
	}
	return b, api.OK
}

func isSide(n int64) bool { return n == int64(api.Buy) || n == int64(api.Sell) }

// deed is what a row of a kind does.
func deed(kind api.DoKind) func(b *body, row api.Row, is numbers) {
	deeds := [...]func(b *body, row api.Row, is numbers){
		api.DoSubmit: (*body).submit,
		api.DoAmend:  (*body).amend,
		api.DoCancel: (*body).cancel,
		api.DoSet:    (*body).set,
		api.DoGoto:   (*body).goOn,
		api.DoHalt:   (*body).halt,
	}
	return deeds[kind]
}

func (b *body) submit(row api.Row, is numbers) {
	b.actions = append(b.actions, api.Action{Act: api.ActSubmit, Kind: row.Order, Side: api.Side(is[side]), Price: is[price], Qty: is[qty], Slot: row.Index})
}

func (b *body) amend(row api.Row, is numbers) {
	b.actions = append(b.actions, api.Action{Act: api.ActAmend, Price: is[price], Qty: is[qty], Slot: row.Index})
}

func (b *body) cancel(row api.Row, _ numbers) {
	b.actions = append(b.actions, api.Action{Act: api.ActCancel, Slot: row.Index})
}

func (b *body) set(row api.Row, is numbers) { b.regs[row.Index] = is[value] }

func (b *body) goOn(row api.Row, _ numbers) { b.state = row.Index }

func (b *body) halt(api.Row, numbers) { b.halted = true }
