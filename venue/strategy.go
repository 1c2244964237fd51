package venue

import (
	"slices"

	"tripwire/api"
	"tripwire/eval"
)

// strategy is one that was uploaded. While it runs, its evaluator is fed.
type strategy struct {
	*eval.Eval
	id     int
	client int
	table  api.Table
	slots  []int // from 1 on; at 0, which is no slot, stands none
	feeds  []api.Feed
	news   bool // there is some, be it without a feed
}

// newStrategy is one that was never started.
func newStrategy(id, client int, table api.Table) *strategy {
	s := &strategy{id: id, client: client, table: table}
	s.lay(api.Snap{})
	return s
}

// lay lets it stand as its text begins, with a snapshot. (A table that lower made, and a snapshot that is a market's, are never refused.)
func (s *strategy) lay(seen api.Snap) {
	s.Eval, _ = eval.New(s.table, seen)
	s.slots = make([]int, 1+s.table.Slots)
}

// begin lets it run from its beginning: what it sees is news to it.
func (s *strategy) begin(seen api.Snap) {
	s.lay(seen)
	s.Start()
	s.news = true
}

func (s *strategy) runs() bool {
	status, _ := s.Status()
	return status == api.Running
}

// hear puts feeds behind what is still to be fed to it.
func (s *strategy) hear(l []api.Feed) {
	if len(l) > 0 {
		s.feeds = append(s.feeds, l...)
		s.news = true
	}
}

// heard is all that is still to be fed to it: nothing is then.
func (s *strategy) heard() []api.Feed {
	l := s.feeds
	s.feeds, s.news = nil, false
	return l
}

func (s *strategy) stand() api.Standing {
	m := s.Mode()
	status, code := s.Status()
	return api.Standing{
		ID: s.id, Client: s.client, Status: status, Code: code,
		State: m.State, Regs: m.Regs, Slots: slices.Clone(s.slots[1:]), Snap: s.Snap(),
	}
}

// tell is what is told of a firing.
func (s *strategy) tell(f api.Firing) []api.Told {
	var l []api.Told
	switch {
	case f.Refused:
		l = append(l, api.Told{Tell: api.TellRefused, Strategy: s.id, Rule: f.Rule})
	case f.Rule >= 0:
		l = append(l, api.Told{Tell: api.TellFired, Strategy: s.id, Rule: f.Rule})
	}
	switch f.Status {
	case api.Halted:
		l = append(l, api.Told{Tell: api.TellHalted, Strategy: s.id})
	case api.Faulted:
		l = append(l, api.Told{Tell: api.TellFaulted, Strategy: s.id, Code: f.Code})
	}
	return l
}
