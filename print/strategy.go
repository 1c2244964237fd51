package print

import "tripwire/api"

// What stands ahead of the lines within a strategy, and within a state.
const (
	inStrategy = "  "
	inState    = "    "
)

// How lines end: one that is a statement of its own, and one that opens or closes what others stand in.
const (
	endOfStatement = ";\n"
	endOfLine      = "\n"
)

func (w *writer) strategy(s api.Strategy) {
	w.line("", endOfLine, w.word("strategy"), w.word(s.Name), w.word("{"))
	for _, r := range s.Regs {
		w.line(inStrategy, endOfStatement, w.word("reg"), w.word(r.Name), w.word(typeWords[r.Type]), w.word("="), w.expr(r.Init))
	}
	for _, x := range s.Slots {
		w.line(inStrategy, endOfStatement, w.word("slot"), w.word(x.Name))
	}
	for _, x := range s.States {
		w.state(x)
	}
	w.line("", endOfLine, w.word("}"))
}

func (w *writer) state(s api.State) {
	w.line(inStrategy, endOfLine, w.word("state"), w.word(s.Name), w.word("{"))
	for _, r := range s.Rules {
		w.line(inState, endOfStatement, w.word("when"), w.expr(r.When), w.word("do"), w.dos(r.Dos))
	}
	w.line(inStrategy, endOfLine, w.word("}"))
}

// dos is a part that is all that a rule does.
func (w *writer) dos(l []api.Do) func() {
	var parts []func()
	for _, d := range l {
		parts = append(parts, w.do(d))
	}
	return func() { w.row(w.comma, parts...) }
}

// do is a part that is one thing done.
func (w *writer) do(d api.Do) func() {
	switch d.Kind {
	case api.DoSubmit:
		return w.submit(d)
	case api.DoAmend:
		return w.words(w.word("amend"), w.word(d.Name), w.word("to"), w.expr(d.Qty), w.word("at"), w.expr(d.Price))
	case api.DoCancel:
		return w.words(w.word("cancel"), w.word(d.Name))
	case api.DoSet:
		return w.words(w.word("set"), w.word(d.Name), w.word("="), w.expr(d.Value))
	case api.DoGoto:
		return w.words(w.word("goto"), w.word(d.Name))
	}
	return w.word("halt")
}

func (w *writer) submit(d api.Do) func() {
	parts := []func(){w.word("submit"), w.expr(d.Side), w.word("of"), w.expr(d.Qty)}
	if d.Order != api.Market {
		parts = append(parts, w.word("at"), w.expr(d.Price))
	}
	parts = append(parts, w.word(orderWords[d.Order]))
	if d.Name != "" {
		parts = append(parts, w.word("as"), w.word(d.Name))
	}
	return w.words(parts...)
}
