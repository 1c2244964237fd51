package snap_test

import (
	"slices"
	"testing"

	"tripwire/api"
	"tripwire/snap"
)

// The top that does not move, so that only the events speak.
var still = api.Top{Bid: 9, Ask: 11, Last: 10, Volume: 40}

// event is one of client 1, whose Holder is client 2, with all that an event can have.
func event(what api.What, qty, was int64) api.Event {
	return api.Event{What: what, ID: 5, Other: 4, Client: 1, Holder: 2, Side: api.Buy, Price: 10, Qty: qty, Was: was}
}

func events(l ...api.Event) []api.Event { return l }

func TestFeedsOfEachEvent(t *testing.T) {
	for _, c := range []struct {
		what                           api.What
		toClient, toHolder, toSomebody []api.Feed
	}{
		{api.Accepted, nil, nil, nil},
		{api.Traded, feeds(trade(10, 3)), feeds(trade(10, 3), open(-3)), feeds(trade(10, 3))},
		{api.Withdrawn, feeds(open(-3)), nil, nil},
		{api.Yielded, feeds(open(-3)), nil, nil},
		{api.Dropped, nil, nil, nil},
		{api.Rested, feeds(open(3)), nil, nil},
		{api.Amended, feeds(open(-8)), nil, nil},
		{api.Reduced, feeds(open(-5)), nil, nil},
	} {
		x := event(c.what, 3, 8)
		expectFeeds(t, still, still, 1, events(x), c.toClient...)
		expectFeeds(t, still, still, 2, events(x), c.toHolder...)
		for _, client := range []int{least, -1, 0, 3, 4, 5, 8, greatest} {
			expectFeeds(t, still, still, client, events(x), c.toSomebody...)
		}
		// To one that is both it is what it is to the one of the two that it speaks of.
		x.Holder = 1
		both := c.toClient
		if c.what == api.Traded {
			both = c.toHolder
		}
		expectFeeds(t, still, still, 1, events(x), both...)
		expectFeeds(t, still, still, 2, events(x), c.toSomebody...)
	}
}

func TestFeedsOfAWhatThatIsNone(t *testing.T) {
	for what := range 256 {
		if what >= 1 && what <= 8 {
			continue
		}
		for client := range 4 {
			expectFeeds(t, still, still, client, events(event(api.What(what), 3, 8), event(api.What(what), 8, 3)))
		}
	}
}

// A client is whatever number the caller and the events say.
func TestFeedsToClientsThatMayNotBe(t *testing.T) {
	for _, client := range []int{least, -1, 0, api.MaxClients + 1, greatest} {
		x := event(api.Rested, 3, 0)
		x.Client = client
		expectFeeds(t, still, still, client, events(x), open(3))
		x = event(api.Traded, 3, 0)
		x.Holder = client
		expectFeeds(t, still, still, client, events(x), trade(10, 3), open(-3))
	}
}

func TestFeedsAtTheEdgesOfWhatIsOpen(t *testing.T) {
	mayBe := []int64{0, 1, api.MaxQty - 1, api.MaxQty}
	for _, qty := range mayBe {
		for _, was := range mayBe {
			expectOpened(t, event(api.Traded, qty, was), 2, -qty)
			expectOpened(t, event(api.Withdrawn, qty, was), 1, -qty)
			expectOpened(t, event(api.Yielded, qty, was), 1, -qty)
			expectOpened(t, event(api.Rested, qty, was), 1, qty)
			expectOpened(t, event(api.Amended, qty, was), 1, -was)
			expectOpened(t, event(api.Reduced, qty, was), 1, qty-was)
			expectOpened(t, event(api.Accepted, qty, was), 1, 0)
			expectOpened(t, event(api.Dropped, qty, was), 1, 0)
		}
	}
}

// Of numbers that may not be comes no FeedOpen, though the event may look at the other one alone.
func TestFeedsBeyondTheEdgesOfWhatIsOpen(t *testing.T) {
	mayNotBe := []int64{least, -api.MaxQty, -1, api.MaxQty + 1, 1 << 32, greatest}
	for what := range api.What(10) {
		for client := range 4 {
			for _, n := range mayNotBe {
				for _, fine := range []int64{0, 3, api.MaxQty} {
					expectOpened(t, event(what, n, fine), client, 0)
					expectOpened(t, event(what, fine, n), client, 0)
				}
				for _, m := range mayNotBe {
					expectOpened(t, event(what, n, m), client, 0)
				}
			}
		}
	}
}

// expectOpened says what FeedOpen comes of an event, behind the FeedTrade of a Traded one, which comes whatever its numbers are.
func expectOpened(t *testing.T, x api.Event, client int, want int64) {
	t.Helper()
	var l []api.Feed
	if x.What == api.Traded {
		l = append(l, trade(x.Price, x.Qty))
	}
	if want != 0 {
		l = append(l, open(want))
	}
	expectFeeds(t, still, still, client, events(x), l...)
}

func TestFeedsOfATradeWithAnyPrice(t *testing.T) {
	for _, price := range []int64{least, -1, 0, 1, api.MaxPrice, api.MaxPrice + 1, greatest} {
		x := event(api.Traded, 3, 0)
		x.Price = price
		expectFeeds(t, still, still, 2, events(x), trade(price, 3), open(-3))
		expectFeeds(t, still, still, 3, events(x), trade(price, 3))
		x.Qty = price
		if price < 0 || price > api.MaxQty || price == 0 {
			expectFeeds(t, still, still, 2, events(x), trade(price, price))
		}
	}
}

// The other fields of an event are not looked at.
func TestFeedsOfEventsWithAnyOtherFields(t *testing.T) {
	for _, n := range []int{least, -1, 0, 1, 7, greatest} {
		x := event(api.Rested, 3, 0)
		x.ID, x.Other, x.Side, x.Price, x.Holder = n, n, api.Side(n), int64(n), n
		expectFeeds(t, still, still, 1, events(x), open(3))
	}
}

func TestFeedsComeInTheOrderOfTheEvents(t *testing.T) {
	l := events(
		event(api.Amended, 7, 4),
		event(api.Traded, 2, 0),
		event(api.Yielded, 6, 0),
		api.Event{What: api.Traded, Client: 1, Holder: 3, Price: 12, Qty: 1},
		event(api.Rested, 4, 0),
		event(api.Reduced, 3, 3), // nothing changes by it
		event(api.Reduced, 1, 3),
		event(api.Dropped, 9, 0),
		event(api.Withdrawn, 1, 0),
	)
	after := api.Top{Bid: 12, Ask: 13}
	expectFeeds(t, still, after, 1, l, open(-4), trade(10, 2), open(-6), trade(12, 1), open(4), open(-2), open(-1), bid(12), ask(13))
	expectFeeds(t, still, after, 2, l, trade(10, 2), open(-2), trade(12, 1), bid(12), ask(13))
	expectFeeds(t, still, after, 3, l, trade(10, 2), trade(12, 1), open(-1), bid(12), ask(13))
	expectFeeds(t, still, after, 4, l, trade(10, 2), trade(12, 1), bid(12), ask(13))
	expectFeeds(t, still, still, 4, l, trade(10, 2), trade(12, 1))
	slices.Reverse(l)
	expectFeeds(t, still, api.Top{Bid: 9, Ask: 12}, 1, l, open(-1), open(-2), open(4), trade(12, 1), open(-6), trade(10, 2), open(-4), ask(12))
}

// An amend to more is told as what is taken out, and what rests again; a Reduced event may tell more, too, for whoever made it.
func TestFeedsOfChanges(t *testing.T) {
	expectFeeds(t, still, still, 1, events(event(api.Amended, 9, 4), event(api.Rested, 9, 0)), open(-4), open(9))
	expectFeeds(t, still, still, 1, events(event(api.Reduced, 8, 3)), open(5))
	expectFeeds(t, still, still, 1, events(event(api.Reduced, api.MaxQty, 0)), open(api.MaxQty))
	expectFeeds(t, still, still, 1, events(event(api.Reduced, 0, api.MaxQty)), open(-api.MaxQty))
	for _, n := range []int64{0, 1, api.MaxQty} {
		expectFeeds(t, still, still, 1, events(event(api.Reduced, n, n)))
	}
	expectFeeds(t, still, still, 1, events(event(api.Amended, 9, 0), event(api.Withdrawn, 0, 9), event(api.Rested, 0, 9)))
}

func TestFeedsNeitherChangesNorReadsBehindItsList(t *testing.T) {
	memory := events(event(api.Rested, 3, 0), event(api.Traded, 2, 0), event(api.Withdrawn, 3, 0), event(api.Rested, 9, 0))
	before := slices.Clone(memory)
	expectFeeds(t, still, still, 1, memory[:2], open(3), trade(10, 2))
	expectFeeds(t, still, still, 2, memory[2:2])
	if !slices.Equal(memory, before) {
		t.Errorf("the list that was handed in is %v now; it was %v", memory, before)
	}
}

// Whoever has a list that came out does with it, and with the room behind it, what he likes.
func TestFeedsAreTheirOwnersAlone(t *testing.T) {
	l := events(event(api.Rested, 3, 0), event(api.Traded, 2, 0), event(api.Withdrawn, 3, 0))
	after := api.Top{Bid: 1, Ask: 2}
	want := feeds(open(3), trade(10, 2), open(-3), bid(1), ask(2))
	first := snap.Feeds(still, after, 1, l...)
	second := snap.Feeds(still, after, 1, l...)
	for i := range first[:cap(first)] {
		first[:cap(first)][i] = feed(9, -1, -1)
	}
	first = append(first[:0], bid(77))
	if !slices.Equal(second, want) {
		t.Errorf("a list is %v, when the one ahead of it was changed; want %v", second, want)
	}
	for i := range l {
		l[i] = api.Event{}
	}
	if !slices.Equal(second, want) {
		t.Errorf("a list is %v, when its events were changed; want %v", second, want)
	}
	expectFeeds(t, still, after, 1, l, bid(1), ask(2))
}
