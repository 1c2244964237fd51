package engine

import (
	"tripwire/api"
	"tripwire/book"
)

// change is an event as what it does to a book.
type change api.Event

// Apply does to a book what events say; the place of the first that can't be.
func Apply(b *book.Book, l ...api.Event) (api.Errno, int) {
	for at, x := range l {
		if no := deed(x.What)(change(x), b); no != api.OK {
			return no, at
		}
	}
	return api.OK, 0
}

// deed is what an event of a What does.
func deed(what api.What) func(change, *book.Book) api.Errno {
	deeds := [...]func(change, *book.Book) api.Errno{
		api.Accepted:  change.pass,
		api.Traded:    change.trade,
		api.Withdrawn: change.takeOut,
		api.Yielded:   change.takeOut,
		api.Dropped:   change.pass,
		api.Rested:    change.rest,
		api.Amended:   change.takeOutAnew,
		api.Reduced:   change.reduce,
	}
	if what < api.Accepted || int(what) >= len(deeds) {
		return change.refuse
	}
	return deeds[what]
}

func (x change) pass(*book.Book) api.Errno {
	return api.OK
}

func (x change) refuse(*book.Book) api.Errno {
	return api.ErrEngineOrder
}

// trade takes lots from Other, which stands on the other side.
func (x change) trade(b *book.Book) api.Errno {
	o, is := b.Get(x.Other)
	switch {
	case !is || o.Side == x.Side || o.Price != x.Price || x.Qty < 1 || x.Qty > o.Qty:
		return api.ErrEngineOrder
	case x.Qty < o.Qty:
		return b.Reduce(o.ID, x.Qty)
	}
	return take(b, o)
}

func (x change) takeOut(b *book.Book) api.Errno {
	o, is := b.Get(x.ID)
	if !is || o.Side != x.Side || o.Price != x.Price || o.Qty != x.Qty {
		return api.ErrEngineOrder
	}
	return take(b, o)
}

// takeOutAnew takes an order out that comes again: Price and Qty are those with which it will.
func (x change) takeOutAnew(b *book.Book) api.Errno {
	o, is := b.Get(x.ID)
	if !is || o.Side != x.Side || o.Qty != x.Was {
		return api.ErrEngineOrder
	}
	return take(b, o)
}

func (x change) reduce(b *book.Book) api.Errno {
	o, is := b.Get(x.ID)
	if !is || o.Side != x.Side || o.Price != x.Price || o.Qty != x.Was || x.Qty < 1 || x.Qty >= x.Was {
		return api.ErrEngineOrder
	}
	return b.Reduce(o.ID, x.Was-x.Qty)
}

func (x change) rest(b *book.Book) api.Errno {
	return b.Insert(api.Order{ID: x.ID, Client: x.Client, Side: x.Side, Price: x.Price, Qty: x.Qty})
}

// take takes an order out of a book that has it.
func take(b *book.Book, o api.Order) api.Errno {
	_, no := b.Remove(o.ID)
	return no
}
