package venue_test

import (
	"cmp"
	"slices"

	"tripwire/api"
	"tripwire/lower"
	"tripwire/machine"
	"tripwire/mean"
	"tripwire/parse"
	"tripwire/snap"
)

// list is a market whose book is a list: the orders that rest, as they came.
type list struct {
	c      api.Config
	rest   []api.Order
	ids    int
	last   int64
	volume int64
}

// side is a side's orders, the best first.
func side(rest []api.Order, of api.Side) []api.Order {
	var l []api.Order
	for _, o := range rest {
		if o.Side == of {
			l = append(l, o)
		}
	}
	slices.SortStableFunc(l, func(a, b api.Order) int {
		if of == api.Buy {
			a, b = b, a
		}
		return cmp.Compare(a.Price, b.Price)
	})
	return l
}

func best(rest []api.Order, of api.Side) int64 {
	if l := side(rest, of); len(l) > 0 {
		return l[0].Price
	}
	return 0
}

func (m *list) top() api.Top {
	return api.Top{Bid: best(m.rest, api.Buy), Ask: best(m.rest, api.Sell), Last: m.last, Volume: m.volume}
}

func (m *list) orders() []api.Order { return append(side(m.rest, api.Buy), side(m.rest, api.Sell)...) }

func (m *list) open(client int) (orders int, lots int64) {
	for _, o := range m.rest {
		if o.Client == client {
			orders++
			lots += o.Qty
		}
	}
	return orders, lots
}

func (m *list) find(id int) int {
	return slices.IndexFunc(m.rest, func(o api.Order) bool { return o.ID == id })
}

func fitsPrice(r api.Rules, n int64) bool { return n >= r.Low && n <= r.High && n%r.Tick == 0 }

func fitsQty(r api.Rules, n int64) bool { return n >= 1 && n <= r.Most && n%r.Lot == 0 }

func (m *list) enter(e api.Entry) (int, []api.Event, api.Errno) {
	r := m.c.Rules
	switch {
	case e.Client < 1 || e.Client > r.Clients:
		return 0, nil, api.ErrRulesClient
	case e.Kind < 1 || e.Kind > 5:
		return 0, nil, api.ErrRulesKind
	case e.Side != api.Buy && e.Side != api.Sell:
		return 0, nil, api.ErrRulesSide
	case !fitsQty(r, e.Qty):
		return 0, nil, api.ErrRulesQty
	case e.Kind == api.Market && e.Price != 0 || e.Kind != api.Market && !fitsPrice(r, e.Price):
		return 0, nil, api.ErrRulesPrice
	case m.ids == m.c.IDs:
		return 0, nil, api.ErrEngineIDs
	}
	o := api.Order{ID: m.ids + 1, Client: e.Client, Side: e.Side, Price: e.Price, Qty: e.Qty}
	l, no := m.come(m.rest, o, e.Kind, of(api.Accepted, o))
	if no != api.OK {
		return 0, nil, no
	}
	m.ids++
	return m.ids, l, api.OK
}

func of(what api.What, o api.Order) api.Event {
	return api.Event{What: what, ID: o.ID, Client: o.Client, Side: o.Side, Price: o.Price, Qty: o.Qty}
}

// come lets an order meet those that rest, and is what happened; where it is refused, nothing is.
func (m *list) come(rest []api.Order, o api.Order, kind api.Kind, first api.Event) ([]api.Event, api.Errno) {
	met := facing(rest, o)
	others := int64(0)
	for _, x := range met {
		if x.Client != o.Client {
			others += x.Qty
		}
	}
	if kind == api.Post && len(met) > 0 {
		return nil, api.ErrPlanCross
	}
	if kind == api.All && others < o.Qty {
		return nil, api.ErrPlanKill
	}
	rest = slices.Clone(rest)
	l := []api.Event{first}
	last, volume, left := m.last, m.volume, o.Qty
	for _, x := range met {
		if left == 0 {
			break
		}
		if x.Client == o.Client {
			y := of(api.Yielded, x)
			y.Other = o.ID
			l = append(l, y)
			rest = less(rest, x.ID, x.Qty)
			continue
		}
		n := min(left, x.Qty)
		l = append(l, api.Event{What: api.Traded, ID: o.ID, Other: x.ID, Client: o.Client, Holder: x.Client, Side: o.Side, Price: x.Price, Qty: n})
		rest = less(rest, x.ID, n)
		last, volume, left = x.Price, volume+n, left-n
	}
	if o.Qty = left; left > 0 && (kind == api.Limit || kind == api.Post) {
		if no := m.room(rest, o); no != api.OK {
			return nil, no
		}
		l, rest = append(l, of(api.Rested, o)), append(rest, o)
	} else if left > 0 {
		l = append(l, of(api.Dropped, o))
	}
	if volume > m.c.Volume {
		return nil, api.ErrEngineVolume
	}
	m.rest, m.last, m.volume = rest, last, volume
	return l, api.OK
}

// facing are those of the other side at prices as good as an order's own, or any, if it has none; the best first.
func facing(rest []api.Order, o api.Order) []api.Order {
	var l []api.Order
	for _, x := range side(rest, api.Buy+api.Sell-o.Side) {
		if o.Price == 0 || o.Side == api.Buy && x.Price <= o.Price || o.Side == api.Sell && x.Price >= o.Price {
			l = append(l, x)
		}
	}
	return l
}

// less is a list in which so much less is open of an order.
func less(rest []api.Order, id int, n int64) []api.Order {
	var l []api.Order
	for _, o := range rest {
		if o.ID == id {
			o.Qty -= n
		}
		if o.Qty > 0 {
			l = append(l, o)
		}
	}
	return l
}

func (m *list) room(rest []api.Order, o api.Order) api.Errno {
	prices := map[int64]int{}
	for _, x := range side(rest, o.Side) {
		prices[x.Price]++
	}
	switch {
	case len(rest) >= m.c.Orders:
		return api.ErrBookFull
	case prices[o.Price] == 0 && len(prices) >= m.c.Levels:
		return api.ErrBookPrice
	}
	return api.OK
}

func (m *list) amend(client, id int, price, qty int64) ([]api.Event, api.Errno) {
	at := m.find(id)
	if at < 0 {
		return nil, api.ErrEngineOrder
	}
	o := m.rest[at]
	switch {
	case o.Client != client:
		return nil, api.ErrEngineOwner
	case !fitsQty(m.c.Rules, qty):
		return nil, api.ErrRulesQty
	case !fitsPrice(m.c.Rules, price):
		return nil, api.ErrRulesPrice
	case price == o.Price && qty == o.Qty:
		return nil, api.ErrEngineSame
	}
	was := o.Qty
	o.Price, o.Qty = price, qty
	first := of(api.Amended, o)
	first.Was = was
	if price == m.rest[at].Price && qty < was {
		m.rest = less(m.rest, id, was-qty)
		first.What = api.Reduced
		return []api.Event{first}, api.OK
	}
	return m.come(less(m.rest, id, was), o, api.Limit, first)
}

func (m *list) cancel(client, id int) ([]api.Event, api.Errno) {
	at := m.find(id)
	if at < 0 {
		return nil, api.ErrEngineOrder
	}
	o := m.rest[at]
	if o.Client != client {
		return nil, api.ErrEngineOwner
	}
	m.rest = less(m.rest, id, o.Qty)
	return []api.Event{of(api.Withdrawn, o)}, api.OK
}

// written is a strategy that is run by its text. Its table is asked for nothing but the count of its steps.
type written struct {
	api.Standing
	text  api.Strategy
	table api.Table
	news  bool
	clean map[[2]int]bool // guards, by state and place, that need not be run again
}

func (s *written) begin(w api.Snap) {
	m, _ := mean.Start(s.text)
	s.State, s.Regs, s.Slots, s.Snap = m.State, m.Regs, make([]int, len(s.text.Slots)), w
	s.Status, s.Code, s.news, s.clean = api.Stopped, api.OK, false, map[[2]int]bool{}
}

// forget lets guards be run again that read a field or a register that has changed.
func (s *written) forget(fields api.Mask, regs uint16) {
	for state, guards := range s.table.States {
		for g, x := range guards {
			if x.Fields&fields != 0 || x.Regs&regs != 0 {
				delete(s.clean, [2]int{state, g})
			}
		}
	}
}

// sees lets it see another snapshot.
func (s *written) sees(w api.Snap) {
	s.forget(snap.Diff(s.Snap, w), 0)
	s.Snap, s.news = w, false
}

// turn is what its text says, in as many steps as its table has where nothing is run again for nothing.
func (s *written) turn(grant func(n int) bool) api.Firing {
	m := api.Mode{State: s.State, Regs: s.Regs}
	granted := true
	f, next, _ := mean.Turn(s.text, m, s.Snap, true)
	if n := len(f.Actions); n > 0 && !grant(n) {
		granted = false
		f, next, _ = mean.Turn(s.text, m, s.Snap, false)
	}
	run, _, _ := machine.Turn(s.table, m, s.Snap, granted)
	f.Steps = run.Steps - s.spared(m)
	changed := uint16(0)
	for r := range next.Regs {
		if next.Regs[r] != m.Regs[r] {
			changed |= 1 << r
		}
	}
	s.forget(0, changed)
	s.State, s.Regs, s.Status, s.Code = next.State, next.Regs, f.Status, f.Code
	return f
}

// spared are the steps of guards that are come to, and need not be run.
func (s *written) spared(m api.Mode) int {
	sum := 0
	for g, x := range s.table.States[m.State] {
		is, steps, no := machine.Value(s.table, x.When, m, s.Snap)
		if s.clean[[2]int{m.State, g}] {
			sum += steps
		}
		s.clean[[2]int{m.State, g}] = true
		if is != 0 || no != api.OK {
			break
		}
	}
	return sum
}

// model is a venue by the chapter's words: what a strategy sees is looked up when it is evaluated, not fed.
type model struct {
	list
	now   int64
	all   []*written // by rising numbers
	given int
	taken [][2]int64 // actions: when, and whose
}

func newModel(c api.Config) *model { return &model{list: list{c: c}} }

func (m *model) Top() api.Top { return m.top() }

func (m *model) Now() int64 { return m.now }

func (m *model) Strategies() []int {
	var l []int
	for _, s := range m.all {
		l = append(l, s.ID)
	}
	return l
}

func (m *model) find(id int) *written {
	for _, s := range m.all {
		if s.ID == id {
			return s
		}
	}
	return nil
}

func (m *model) Stand(id int) (api.Standing, bool) {
	if s := m.find(id); s != nil {
		return copied(s.Standing), true
	}
	return api.Standing{}, false
}

func copied(s api.Standing) api.Standing {
	s.Regs, s.Slots = slices.Clone(s.Regs), slices.Clone(s.Slots)
	return s
}

func (m *model) view(client int) api.Snap {
	t := m.top()
	_, lots := m.open(client)
	return api.Snap{Bid: t.Bid, Ask: t.Ask, Last: t.Last, Volume: t.Volume, Now: m.now, Open: lots}
}

// acts is how many actions a client has had in the window at hand.
func (m *model) acts(client int) int {
	n := 0
	for _, x := range m.taken {
		if x[0]/m.c.Window == m.now/m.c.Window && x[1] == int64(client) {
			n++
		}
	}
	return n
}

func (m *model) take(client, n int) {
	for range n {
		m.taken = append(m.taken, [2]int64{m.now, int64(client)})
	}
}

func (m *model) strats(client int) int {
	n := 0
	for _, s := range m.all {
		if s.Client == client {
			n++
		}
	}
	return n
}

// act does an action as a client's; what happened is news to whom it feeds.
func (m *model) act(client, order int, a api.Action) (id int, l []api.Event, no api.Errno) {
	ahead := m.top()
	switch {
	case a.Act == api.ActAmend:
		l, no = m.list.amend(client, order, a.Price, a.Qty)
	case a.Act == api.ActCancel:
		l, no = m.list.cancel(client, order)
	case m.rests(client) >= m.c.Open && (a.Kind == api.Limit || a.Kind == api.Post):
		no = noOpen
	default:
		id, l, no = m.list.enter(api.Entry{Client: client, Kind: a.Kind, Side: a.Side, Price: a.Price, Qty: a.Qty})
	}
	behind := m.top()
	for _, s := range m.all {
		moved := slices.ContainsFunc(l, func(x api.Event) bool { return isNews(x, s.Client) })
		if s.Status == api.Running && (moved || ahead.Bid != behind.Bid || ahead.Ask != behind.Ask) {
			s.news = true
		}
	}
	return id, l, no
}

func (m *model) rests(client int) int {
	n, _ := m.open(client)
	return n
}

// isNews says if an event by itself is something to a client: a trade, whosever, or a change of what it has open.
func isNews(x api.Event, client int) bool {
	switch x.What {
	case api.Traded:
		return true
	case api.Withdrawn, api.Yielded, api.Rested, api.Amended, api.Reduced:
		return x.Client == client
	}
	return false
}

// Do goes through the chapter's table.
func (m *model) Do(c api.Command) api.Reply {
	r := m.row(c)
	if r.Err != api.OK {
		return api.Reply{Err: r.Err, At: r.At}
	}
	r.Top = m.top()
	return r
}

func (m *model) row(c api.Command) api.Reply {
	none := c.Client < 1 || c.Client > m.c.Rules.Clients
	switch c.Op {
	case api.OpEnter, api.OpAmend, api.OpCancel:
		if none {
			return api.Reply{Err: noOne}
		}
		if m.acts(c.Client) >= m.c.Acts {
			return api.Reply{Err: noActs}
		}
		return m.byHand(c)
	case api.OpTick:
		return m.tick(c)
	case api.OpUpload:
		if none {
			return api.Reply{Err: noOne}
		}
		return m.upload(c)
	case api.OpStart, api.OpStop, api.OpDrop:
		if none {
			return api.Reply{Err: noOne}
		}
		return m.turn(c)
	case api.OpBook:
		return api.Reply{Orders: m.orders()}
	case api.OpStatus:
		s, is := m.Stand(c.ID)
		if !is {
			return api.Reply{Err: noStrat}
		}
		return api.Reply{Stand: s}
	case api.OpQuota:
		if none {
			return api.Reply{Err: noOne}
		}
		orders, lots := m.open(c.Client)
		return api.Reply{Usage: api.Usage{Strats: m.strats(c.Client), Orders: orders, Lots: lots, Acts: m.acts(c.Client)}}
	}
	return api.Reply{Err: noOp}
}

func (m *model) byHand(c api.Command) api.Reply {
	a := api.Action{Act: api.ActSubmit, Kind: c.Entry.Kind, Side: c.Entry.Side, Price: c.Entry.Price, Qty: c.Entry.Qty}
	switch c.Op {
	case api.OpAmend:
		a = api.Action{Act: api.ActAmend, Price: c.Price, Qty: c.Qty}
	case api.OpCancel:
		a = api.Action{Act: api.ActCancel}
	}
	id, l, no := m.act(c.Client, c.ID, a)
	if no != api.OK {
		return api.Reply{Err: no}
	}
	m.take(c.Client, 1)
	r := api.Reply{ID: id}
	tellEvents(&r, l)
	m.cascade(&r)
	return r
}

func (m *model) tick(c api.Command) api.Reply {
	if c.Time < m.now || c.Time > lastTime {
		return api.Reply{Err: noTime}
	}
	for _, s := range m.all {
		s.news = s.Status == api.Running && c.Time != m.now
	}
	m.now = c.Time
	var r api.Reply
	m.cascade(&r)
	return r
}

func (m *model) upload(c api.Command) api.Reply {
	if m.strats(c.Client) >= m.c.Strats {
		return api.Reply{Err: noPlan}
	}
	table, _, err := lower.Source(c.Source)
	if err != nil {
		no, at := parse.Wrong(err)
		return api.Reply{Err: no, At: at}
	}
	text, _ := parse.Strategy(c.Source)
	m.given++
	s := &written{Standing: api.Standing{ID: m.given, Client: c.Client}, text: text, table: table}
	s.begin(api.Snap{})
	m.all = append(m.all, s)
	return api.Reply{ID: m.given}
}

// turn starts, stops or drops a strategy.
func (m *model) turn(c api.Command) api.Reply {
	s := m.find(c.ID)
	switch {
	case s == nil:
		return api.Reply{Err: noStrat}
	case s.Client != c.Client:
		return api.Reply{Err: noOwner}
	case c.Op != api.OpStop && s.Status == api.Running:
		return api.Reply{Err: runs}
	case c.Op == api.OpStop && s.Status != api.Running:
		return api.Reply{Err: stopped}
	}
	var r api.Reply
	switch c.Op {
	case api.OpStart:
		s.begin(m.view(s.Client))
		s.Status, s.news = api.Running, true
		m.cascade(&r)
	case api.OpStop:
		s.Status = api.Stopped
	case api.OpDrop:
		m.all = slices.DeleteFunc(m.all, func(x *written) bool { return x == s })
	}
	return r
}

func tellEvents(r *api.Reply, l []api.Event) {
	for _, x := range l {
		r.Told = append(r.Told, api.Told{Tell: api.TellEvent, Event: x})
	}
}

func (m *model) waiting() []*written {
	var l []*written
	for _, s := range m.all {
		if s.Status == api.Running && s.news {
			l = append(l, s)
		}
	}
	return l
}

func (m *model) cascade(r *api.Reply) {
	for len(m.waiting()) > 0 {
		if r.Rounds == m.c.Rounds {
			for _, s := range m.waiting() {
				s.sees(m.view(s.Client))
			}
			r.Told = append(r.Told, api.Told{Tell: api.TellCutoff})
			return
		}
		r.Rounds++
		m.round(r)
	}
}

// let is an action that waits till all strategies of a round were evaluated.
type let struct {
	s     *written
	which int
	a     api.Action
}

func (m *model) round(r *api.Reply) {
	var out []let
	for _, s := range m.waiting() {
		s.sees(m.view(s.Client))
		f := s.turn(func(n int) bool {
			if m.acts(s.Client)+n > m.c.Acts {
				return false
			}
			m.take(s.Client, n)
			return true
		})
		r.Steps += f.Steps
		if f.Refused {
			r.Told = append(r.Told, api.Told{Tell: api.TellRefused, Strategy: s.ID, Rule: f.Rule})
		} else if f.Rule != -1 {
			r.Told = append(r.Told, api.Told{Tell: api.TellFired, Strategy: s.ID, Rule: f.Rule})
		}
		if f.Status == api.Halted {
			r.Told = append(r.Told, api.Told{Tell: api.TellHalted, Strategy: s.ID})
		}
		if f.Status == api.Faulted {
			r.Told = append(r.Told, api.Told{Tell: api.TellFaulted, Strategy: s.ID, Code: f.Code})
		}
		for k, a := range f.Actions {
			out = append(out, let{s, k, a})
		}
	}
	for _, x := range out {
		order := 0
		if x.a.Slot > 0 {
			order = x.s.Slots[x.a.Slot-1]
		}
		id, l, no := m.act(x.s.Client, order, x.a)
		if no != api.OK {
			r.Told = append(r.Told, api.Told{Tell: api.TellReject, Strategy: x.s.ID, Action: x.which, Code: no})
		} else if x.a.Act == api.ActSubmit && x.a.Slot > 0 {
			x.s.Slots[x.a.Slot-1] = id
		}
		tellEvents(r, l)
	}
}
