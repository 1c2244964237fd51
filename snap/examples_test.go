package snap_test

import (
	"math"
	"slices"
	"testing"

	"tripwire/api"
	"tripwire/snap"
)

const (
	cant = api.ErrSnapRange

	least, greatest = math.MinInt64, math.MaxInt64
)

// The fields, with the numbers that a snapshot's may be at most.
var (
	fields = []api.Field{api.FieldBid, api.FieldAsk, api.FieldLast, api.FieldVolume, api.FieldNow, api.FieldOpen}
	most   = map[api.Field]int64{
		api.FieldBid: 1000000000, api.FieldAsk: 1000000000, api.FieldLast: 1000000000,
		api.FieldVolume: 1000000000000000, api.FieldNow: 1000000000000000, api.FieldOpen: 256000000000,
	}
	names = map[api.Field]string{
		api.FieldBid: "bid", api.FieldAsk: "ask", api.FieldLast: "last",
		api.FieldVolume: "volume", api.FieldNow: "now", api.FieldOpen: "open",
	}
)

func feed(kind api.FeedKind, a, b int64) api.Feed { return api.Feed{Kind: kind, A: a, B: b} }

func bid(a int64) api.Feed      { return feed(api.FeedBid, a, 0) }
func ask(a int64) api.Feed      { return feed(api.FeedAsk, a, 0) }
func trade(a, b int64) api.Feed { return feed(api.FeedTrade, a, b) }
func time(a int64) api.Feed     { return feed(api.FeedTime, a, 0) }
func open(a int64) api.Feed     { return feed(api.FeedOpen, a, 0) }

func feeds(l ...api.Feed) []api.Feed { return l }

// mask is the one that has just these fields.
func mask(l ...api.Field) api.Mask {
	m := api.Mask(0)
	for _, f := range l {
		m |= 1 << f
	}
	return m
}

// at is where a field of a snapshot stands.
func at(s *api.Snap, f api.Field) *int64 {
	switch f {
	case api.FieldBid:
		return &s.Bid
	case api.FieldAsk:
		return &s.Ask
	case api.FieldLast:
		return &s.Last
	case api.FieldVolume:
		return &s.Volume
	case api.FieldNow:
		return &s.Now
	}
	return &s.Open
}

// with is a snapshot with another number in a field.
func with(s api.Snap, f api.Field, n int64) api.Snap {
	*at(&s, f) = n
	return s
}

// some is a snapshot that may be, no two of its numbers alike.
func some() api.Snap {
	return api.Snap{Bid: 11, Ask: 12, Last: 13, Volume: 14, Now: 15, Open: 16}
}

// brim is the greatest that may be.
func brim() api.Snap {
	s := api.Snap{}
	for _, f := range fields {
		s = with(s, f, most[f])
	}
	return s
}

func expectCheck(t *testing.T, s api.Snap, want api.Errno) {
	t.Helper()
	if no := snap.Check(s); no != want {
		t.Errorf("Check(%+v) is %d; want %d", s, no, want)
	}
}

func expectDiff(t *testing.T, a, b api.Snap, want api.Mask) {
	t.Helper()
	if m := snap.Diff(a, b); m != want {
		t.Errorf("Diff(%+v, %+v) is %b; want %b", a, b, m, want)
	}
}

func expectFold(t *testing.T, s api.Snap, l []api.Feed, want api.Snap, changed api.Mask) {
	t.Helper()
	if got, m, no := snap.Fold(s, l...); got != want || m != changed || no != api.OK {
		t.Errorf("Fold(%+v, %v) is %+v, %b, %d; want %+v, %b", s, l, got, m, no, want, changed)
	}
}

func expectNoFold(t *testing.T, s api.Snap, l ...api.Feed) {
	t.Helper()
	if got, m, no := snap.Fold(s, l...); got != (api.Snap{}) || m != 0 || no != cant {
		t.Errorf("Fold(%+v, %v) is %+v, %b, %d; want noughts and %d", s, l, got, m, no, cant)
	}
}

func expectFeeds(t *testing.T, before, after api.Top, client int, l []api.Event, want ...api.Feed) {
	t.Helper()
	if got := snap.Feeds(before, after, client, l...); !slices.Equal(got, want) {
		t.Errorf("Feeds(%+v, %+v, %d, %+v) is %v; want %v", before, after, client, l, got, want)
	}
}

// The chapter's first example.
func TestExampleOfNoughts(t *testing.T) {
	expectFold(t, api.Snap{}, feeds(bid(10), trade(10, 5), time(3)), api.Snap{Bid: 10, Last: 10, Volume: 5, Now: 3},
		mask(api.FieldBid, api.FieldLast, api.FieldVolume, api.FieldNow))
	expectFold(t, api.Snap{}, feeds(bid(10), bid(0)), api.Snap{}, 0)
	expectNoFold(t, api.Snap{}, open(-1))
}

// The chapter's second example.
func TestExampleOfTimes(t *testing.T) {
	expectFold(t, api.Snap{Now: 5}, feeds(time(5)), api.Snap{Now: 5}, 0)
	expectNoFold(t, api.Snap{Now: 5}, time(4))
}

// The chapter's third example.
func TestExampleOfEvents(t *testing.T) {
	l := []api.Event{
		{What: api.Accepted, ID: 3, Client: 1, Side: api.Buy, Price: 10, Qty: 7},
		{What: api.Traded, ID: 3, Other: 2, Client: 1, Holder: 2, Side: api.Buy, Price: 10, Qty: 5},
		{What: api.Rested, ID: 3, Client: 1, Side: api.Buy, Price: 9, Qty: 2},
	}
	expectFeeds(t, api.Top{}, api.Top{Bid: 9}, 1, l, trade(10, 5), open(2), bid(9))
	expectFeeds(t, api.Top{}, api.Top{Bid: 9}, 2, l, trade(10, 5), open(-5), bid(9))
}
