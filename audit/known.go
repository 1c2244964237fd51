package audit

import (
	"maps"
	"slices"

	"tripwire/api"
)

// known is all that a judge was told, as far as it is needed later.
type known struct {
	rows       [api.Sell + 1][]api.Order // what rests, by its side: by priority
	given      int                       // so many orders have got a number
	last       int64
	volume     int64
	now        int64
	acts       [api.MaxClients + 1]int // of each client, in the window at hand
	strategies map[int]strategy
	newest     int // the greatest number that a strategy ever had; they begin above 0
}

type strategy struct {
	client int
	runs   bool
}

// copied is the same in memory of its own.
func (k *known) copied() known {
	c := *k
	for side, row := range k.rows {
		c.rows[side] = slices.Clone(row)
	}
	c.strategies = maps.Clone(k.strategies)
	return c
}

// rest lets an order rest, behind those of its price.
func (k *known) rest(o api.Order) {
	row := k.rows[o.Side]
	at := slices.IndexFunc(row, func(x api.Order) bool { return isBetter(o.Side, o.Price, x.Price) })
	if at < 0 {
		at = len(row)
	}
	k.rows[o.Side] = slices.Insert(row, at, o)
}

// isBetter tells which of two prices of a side comes first.
func isBetter(side api.Side, price, than int64) bool {
	if side == api.Buy {
		return price > than
	}
	return price < than
}

// find is where an order rests: on which side, and how many are ahead of it there.
func (k *known) find(id int) (api.Side, int, bool) {
	for side, row := range k.rows {
		if at := slices.IndexFunc(row, func(o api.Order) bool { return o.ID == id }); at >= 0 {
			return api.Side(side), at, true
		}
	}
	return 0, 0, false
}

// lessen takes lots away from an order, and the order, if nothing is open of it then.
func (k *known) lessen(side api.Side, at int, lots int64) {
	row := k.rows[side]
	row[at].Qty -= lots
	if row[at].Qty == 0 {
		k.rows[side] = slices.Delete(row, at, at+1)
	}
}

// best is the price of a side that comes first.
func (k *known) best(side api.Side) int64 {
	if row := k.rows[side]; len(row) > 0 {
		return row[0].Price
	}
	return 0
}

// prices is at how many prices the orders of a side rest.
func (k *known) prices(side api.Side) int {
	n := 0
	var was int64
	for _, o := range k.rows[side] {
		if o.Price != was {
			n++
		}
		was = o.Price
	}
	return n
}

// open is how many orders of a client rest, and how much is open of them.
func (k *known) open(client int) (int, int64) {
	orders, lots := 0, int64(0)
	for _, row := range k.rows {
		for _, o := range row {
			if o.Client == client {
				orders++
				lots += o.Qty
			}
		}
	}
	return orders, lots
}

// strats is how many strategies a client has.
func (k *known) strats(client int) int {
	n := 0
	for _, s := range k.strategies {
		if s.client == client {
			n++
		}
	}
	return n
}

// run lets a strategy run, or run no more.
func (k *known) run(id int, runs bool) {
	s := k.strategies[id]
	s.runs = runs
	k.strategies[id] = s
}
