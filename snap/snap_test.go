package snap_test

import (
	"slices"
	"testing"

	"tripwire/api"
	"tripwire/snap"
)

func TestCheckOfEachNumber(t *testing.T) {
	expectCheck(t, api.Snap{}, api.OK)
	expectCheck(t, some(), api.OK)
	expectCheck(t, brim(), api.OK)
	for _, s := range []api.Snap{{}, some(), brim()} {
		for _, f := range fields {
			for _, n := range []int64{0, 1, most[f] - 1, most[f]} {
				expectCheck(t, with(s, f, n), api.OK)
			}
			for _, n := range []int64{least, -most[f], -1, most[f] + 1, greatest} {
				expectCheck(t, with(s, f, n), cant)
			}
		}
	}
}

func TestCheckOfSeveralWrongAtOnce(t *testing.T) {
	for _, f := range fields {
		for _, g := range fields {
			expectCheck(t, with(with(some(), f, -1), g, most[g]+1), cant)
			expectCheck(t, with(with(some(), f, least), g, greatest), cant)
		}
	}
	expectCheck(t, api.Snap{Bid: least, Ask: greatest, Last: -1, Volume: least, Now: greatest, Open: -1}, cant)
}

// A best Buy price that is not below the best Sell price, a last trade without a volume: the chapter asks nothing of one number by another.
func TestCheckHoldsNoNumberAgainstAnother(t *testing.T) {
	expectCheck(t, api.Snap{Bid: 10, Ask: 10}, api.OK)
	expectCheck(t, api.Snap{Bid: 11, Ask: 10}, api.OK)
	expectCheck(t, api.Snap{Last: 7}, api.OK)
	expectCheck(t, api.Snap{Volume: 7}, api.OK)
}

func TestTheNumbersOfTheFields(t *testing.T) {
	for i, f := range fields {
		if int(f) != i+1 {
			t.Errorf("field %d has the number %d", i+1, f)
		}
	}
	for i, f := range []api.FeedKind{api.FeedBid, api.FeedAsk, api.FeedTrade, api.FeedTime, api.FeedOpen} {
		if int(f) != i+1 {
			t.Errorf("kind %d has the number %d", i+1, f)
		}
	}
	if api.ErrSnapRange != 100 {
		t.Errorf("ErrSnapRange is %d", api.ErrSnapRange)
	}
}

func TestGetAndName(t *testing.T) {
	for i, s := range []api.Snap{{}, some(), brim(), {Bid: least, Ask: greatest, Last: -1, Volume: least, Now: greatest, Open: -2}} {
		for f := range 256 {
			f := api.Field(f)
			want := int64(0)
			if slices.Contains(fields, f) {
				want = *at(&s, f)
			}
			if n := snap.Get(s, f); n != want {
				t.Errorf("snapshot %d: Get of %d is %d; want %d", i, f, n, want)
			}
			if s := snap.Name(f); s != names[f] {
				t.Errorf("Name(%d) is %q; want %q", f, s, names[f])
			}
		}
	}
	for _, f := range fields {
		if n := snap.Get(with(api.Snap{}, f, 7), f); n != 7 {
			t.Errorf("Get of %s alone is %d", names[f], n)
		}
	}
}

func TestDiffOfEachField(t *testing.T) {
	for _, s := range []api.Snap{{}, some(), brim(), {Bid: -1, Ask: least, Last: greatest, Volume: -1, Now: least, Open: greatest}} {
		expectDiff(t, s, s, 0)
		for _, f := range fields {
			for _, n := range []int64{least, -7, 7, most[f] - 1, greatest - 1} {
				if n == *at(&s, f) {
					continue
				}
				expectDiff(t, s, with(s, f, n), mask(f))
				expectDiff(t, with(s, f, n), s, mask(f))
				for _, g := range fields {
					if g != f {
						expectDiff(t, with(s, f, n), with(s, g, 99), mask(f, g))
					}
				}
			}
		}
	}
}

func TestDiffOfAllFields(t *testing.T) {
	expectDiff(t, some(), api.Snap{}, 2|4|8|16|32|64)
	expectDiff(t, api.Snap{}, brim(), 126)
	expectDiff(t, api.Snap{Bid: least, Ask: least, Last: least, Volume: least, Now: least, Open: least}, api.Snap{Bid: greatest, Ask: greatest, Last: greatest, Volume: greatest, Now: greatest, Open: greatest}, 126)
}

// What differs is told by the field, whatever the numbers have in common.
func TestDiffOfNumbersThatChangeTheirFields(t *testing.T) {
	expectDiff(t, api.Snap{Bid: 1, Ask: 2}, api.Snap{Bid: 2, Ask: 1}, mask(api.FieldBid, api.FieldAsk))
	expectDiff(t, api.Snap{Last: 5, Volume: 6, Now: 7}, api.Snap{Last: 6, Volume: 5, Now: 7}, mask(api.FieldLast, api.FieldVolume))
	expectDiff(t, api.Snap{Now: 1 << 32}, api.Snap{}, mask(api.FieldNow))
	expectDiff(t, api.Snap{Open: 1}, api.Snap{Open: 1 + 1<<32}, mask(api.FieldOpen))
}

func TestFoldOfNoFeeds(t *testing.T) {
	for _, s := range []api.Snap{{}, some(), brim()} {
		expectFold(t, s, nil, s, 0)
		expectFold(t, s, feeds(), s, 0)
	}
}

func TestFoldOfASnapshotThatMayNotBe(t *testing.T) {
	for _, f := range fields {
		for _, n := range []int64{least, -1, most[f] + 1, greatest} {
			s := with(some(), f, n)
			expectNoFold(t, s)
			// Not even by a feed that would mend it.
			expectNoFold(t, s, bid(10), ask(11), trade(10, 1), time(20), open(1))
			expectNoFold(t, s, bid(10))
			expectNoFold(t, s, ask(10))
			expectNoFold(t, s, trade(10, 1))
			expectNoFold(t, s, time(20))
			expectNoFold(t, s, open(1))
			expectNoFold(t, s, open(-1))
			// Nor is one wrong set right by another.
			expectNoFold(t, s, feed(9, 1, 1))
			expectNoFold(t, s, bid(-1), time(0))
		}
	}
}

func TestFoldOfBestPrices(t *testing.T) {
	for _, s := range []api.Snap{{}, some(), brim()} {
		for _, c := range []struct {
			kind api.FeedKind
			f    api.Field
		}{{api.FeedBid, api.FieldBid}, {api.FeedAsk, api.FieldAsk}} {
			for _, a := range []int64{0, 1, 77, api.MaxPrice - 1, api.MaxPrice} {
				changed := mask(c.f)
				if *at(&s, c.f) == a {
					changed = 0
				}
				expectFold(t, s, feeds(feed(c.kind, a, 0)), with(s, c.f, a), changed)
			}
			for _, a := range []int64{least, -api.MaxPrice, -1, api.MaxPrice + 1, 1 << 32, greatest} {
				expectNoFold(t, s, feed(c.kind, a, 0))
			}
		}
	}
}

func TestFoldOfATrade(t *testing.T) {
	lastAndVolume := mask(api.FieldLast, api.FieldVolume)
	s := some()
	for _, a := range []int64{1, 2, api.MaxPrice - 1, api.MaxPrice} {
		for _, b := range []int64{1, 2, api.MaxQty - 1, api.MaxQty} {
			expectFold(t, s, feeds(trade(a, b)), with(with(s, api.FieldLast, a), api.FieldVolume, 14+b), lastAndVolume)
		}
	}
	for _, n := range []int64{least, -api.MaxQty, -1, 0, api.MaxQty + 1, 1 << 32, greatest} {
		expectNoFold(t, s, trade(n, 1))
		expectNoFold(t, s, trade(n, api.MaxQty))
		expectNoFold(t, s, trade(1, n))
		expectNoFold(t, s, trade(api.MaxPrice, n))
		expectNoFold(t, s, trade(n, n))
	}
	// The price is the one it was: only the volume differs.
	expectFold(t, s, feeds(trade(13, 1)), with(s, api.FieldVolume, 15), mask(api.FieldVolume))
}

func TestFoldOfATradeUpToTheGreatestVolume(t *testing.T) {
	for _, b := range []int64{1, 2, 1000, api.MaxQty} {
		just := with(some(), api.FieldVolume, api.MaxVolume-b)
		expectFold(t, just, feeds(trade(9, b)), with(with(just, api.FieldLast, 9), api.FieldVolume, api.MaxVolume), mask(api.FieldLast, api.FieldVolume))
		beyond := with(some(), api.FieldVolume, api.MaxVolume-b+1)
		expectNoFold(t, beyond, trade(9, b))
		// It is above it only by both of them.
		expectNoFold(t, just, trade(9, b), trade(9, 1))
	}
	for _, b := range []int64{least, -1, 0, greatest} {
		expectNoFold(t, brim(), trade(9, b))
	}
}

func TestFoldOfATime(t *testing.T) {
	for _, now := range []int64{0, 1, 15, api.MaxTime - 1, api.MaxTime} {
		s := with(some(), api.FieldNow, now)
		expectFold(t, s, feeds(time(now)), s, 0)
		expectNoFold(t, s, time(now-1))
		expectNoFold(t, s, time(-1))
		expectNoFold(t, s, time(least))
		expectNoFold(t, s, time(api.MaxTime+1))
		expectNoFold(t, s, time(greatest))
		if now < api.MaxTime {
			expectFold(t, s, feeds(time(now+1)), with(s, api.FieldNow, now+1), mask(api.FieldNow))
			expectFold(t, s, feeds(time(api.MaxTime)), with(s, api.FieldNow, api.MaxTime), mask(api.FieldNow))
		}
	}
	// A time is held against the one that a feed ahead of it has set.
	expectNoFold(t, api.Snap{}, time(5), time(4))
	expectFold(t, api.Snap{}, feeds(time(5), time(5), time(6)), api.Snap{Now: 6}, mask(api.FieldNow))
}

func TestFoldOfOpenLots(t *testing.T) {
	for _, has := range []int64{0, 1, 16, api.MaxOpen - 1, api.MaxOpen} {
		s := with(some(), api.FieldOpen, has)
		expectFold(t, s, feeds(open(0)), s, 0)
		// It comes just to 0, and to one below; just to the greatest, and to one beyond.
		if has > 0 {
			expectFold(t, s, feeds(open(-has)), with(s, api.FieldOpen, 0), mask(api.FieldOpen))
			expectFold(t, s, feeds(open(-1)), with(s, api.FieldOpen, has-1), mask(api.FieldOpen))
		}
		expectNoFold(t, s, open(-has-1))
		if has < api.MaxOpen {
			expectFold(t, s, feeds(open(api.MaxOpen-has)), with(s, api.FieldOpen, api.MaxOpen), mask(api.FieldOpen))
			expectFold(t, s, feeds(open(1)), with(s, api.FieldOpen, has+1), mask(api.FieldOpen))
		}
		expectNoFold(t, s, open(api.MaxOpen-has+1))
		expectNoFold(t, s, open(least))
		expectNoFold(t, s, open(greatest))
		expectNoFold(t, s, open(greatest-has))
		expectNoFold(t, s, open(least+has))
	}
	// Each feed must be possible as it comes, whatever comes behind it.
	expectNoFold(t, api.Snap{}, open(-1), open(1))
	expectNoFold(t, api.Snap{Open: api.MaxOpen}, open(1), open(-1))
	expectFold(t, api.Snap{}, feeds(open(api.MaxOpen), open(-api.MaxOpen), open(3)), api.Snap{Open: 3}, mask(api.FieldOpen))
}

// B says something in a trade alone; in the others it may be any number.
func TestFoldLooksAtBInATradeAlone(t *testing.T) {
	s := some()
	for _, b := range []int64{least, -1, 0, 1, api.MaxQty, api.MaxQty + 1, api.MaxVolume + 1, greatest} {
		expectFold(t, s, feeds(feed(api.FeedBid, 5, b)), with(s, api.FieldBid, 5), mask(api.FieldBid))
		expectFold(t, s, feeds(feed(api.FeedAsk, 5, b)), with(s, api.FieldAsk, 5), mask(api.FieldAsk))
		expectFold(t, s, feeds(feed(api.FeedTime, 50, b)), with(s, api.FieldNow, 50), mask(api.FieldNow))
		expectFold(t, s, feeds(feed(api.FeedOpen, 5, b)), with(s, api.FieldOpen, 21), mask(api.FieldOpen))
		expectNoFold(t, s, feed(api.FeedBid, -1, b))
		expectNoFold(t, s, feed(api.FeedAsk, -1, b))
		expectNoFold(t, s, feed(api.FeedTime, 14, b))
		expectNoFold(t, s, feed(api.FeedOpen, -17, b))
	}
}

func TestFoldOfAKindThatIsNone(t *testing.T) {
	for k := range 256 {
		if k >= 1 && k <= 5 {
			continue
		}
		for _, n := range []int64{least, -1, 0, 1, 16, greatest} {
			expectNoFold(t, some(), feed(api.FeedKind(k), n, n))
			expectNoFold(t, api.Snap{}, feed(api.FeedKind(k), n, 1))
		}
		expectNoFold(t, some(), bid(1), feed(api.FeedKind(k), 1, 1), ask(2))
	}
}

func TestAFieldThatComesBackHasNotChanged(t *testing.T) {
	s := some()
	expectFold(t, s, feeds(bid(0), bid(11)), s, 0)
	expectFold(t, s, feeds(ask(0), ask(900), ask(12)), s, 0)
	expectFold(t, s, feeds(open(-16), open(16)), s, 0)
	expectFold(t, s, feeds(open(5), bid(3), open(-5)), with(s, api.FieldBid, 3), mask(api.FieldBid))
	expectFold(t, s, feeds(trade(99, 1), trade(13, 1)), with(s, api.FieldVolume, 16), mask(api.FieldVolume))
	expectFold(t, s, feeds(bid(11), ask(12), time(15), open(0)), s, 0)
}

func TestFoldOfAllKindsTogether(t *testing.T) {
	expectFold(t, some(), feeds(bid(21), ask(22), trade(23, 10), time(25), open(10)), api.Snap{Bid: 21, Ask: 22, Last: 23, Volume: 24, Now: 25, Open: 26}, 126)
	expectFold(t, some(), feeds(open(-6), time(25), trade(23, 10), ask(22), bid(21), bid(20), trade(19, 1)), api.Snap{Bid: 20, Ask: 22, Last: 19, Volume: 25, Now: 25, Open: 10}, 126)
	expectFold(t, api.Snap{}, feeds(bid(api.MaxPrice), ask(api.MaxPrice), trade(api.MaxPrice, api.MaxQty), time(api.MaxTime), open(api.MaxOpen)),
		api.Snap{Bid: api.MaxPrice, Ask: api.MaxPrice, Last: api.MaxPrice, Volume: api.MaxQty, Now: api.MaxTime, Open: api.MaxOpen}, 126)
}

// wrongs are feeds that can't be, to the snapshot that some is.
func wrongs() []api.Feed {
	return feeds(bid(-1), bid(api.MaxPrice+1), ask(-1), ask(api.MaxPrice+1), trade(0, 1), trade(api.MaxPrice+1, 1), trade(1, 0), trade(1, api.MaxQty+1),
		time(14), time(api.MaxTime+1), open(-17), open(api.MaxOpen-15), open(least), open(greatest), feed(0, 1, 1), feed(6, 1, 1), feed(255, 1, 1))
}

func TestAFeedThatCantBeAtAnyPlace(t *testing.T) {
	fine := feeds(bid(1), ask(2), trade(3, 4), time(15), open(0), bid(0))
	expectFold(t, some(), fine, api.Snap{Bid: 0, Ask: 2, Last: 3, Volume: 18, Now: 15, Open: 16}, mask(api.FieldBid, api.FieldAsk, api.FieldLast, api.FieldVolume))
	for _, x := range wrongs() {
		for i := range len(fine) + 1 {
			expectNoFold(t, some(), slices.Insert(slices.Clone(fine), i, x)...)
		}
	}
}

func TestFoldOfSeveralWrongAtOnce(t *testing.T) {
	for _, x := range wrongs() {
		for _, y := range wrongs() {
			expectNoFold(t, some(), x, y)
			expectNoFold(t, with(some(), api.FieldBid, -1), x, y)
		}
	}
}

func TestFoldNeitherChangesNorReadsBehindItsList(t *testing.T) {
	memory := feeds(bid(10), trade(10, 5), time(3), bid(-1), feed(9, 9, 9))
	before := slices.Clone(memory)
	expectFold(t, api.Snap{}, memory[:3], api.Snap{Bid: 10, Last: 10, Volume: 5, Now: 3}, 58)
	expectNoFold(t, api.Snap{}, memory[:4]...)
	expectFold(t, some(), memory[3:3], some(), 0)
	if !slices.Equal(memory, before) {
		t.Errorf("the list that was handed in is %v now; it was %v", memory, before)
	}
}

func TestFeedsOfTops(t *testing.T) {
	before := api.Top{Bid: 9, Ask: 10, Last: 7, Volume: 3}
	expectFeeds(t, before, before, 1, nil)
	expectFeeds(t, before, before, 1, []api.Event{})
	expectFeeds(t, api.Top{}, api.Top{}, 1, nil)
	expectFeeds(t, before, api.Top{Bid: 8, Ask: 10, Last: 7, Volume: 3}, 1, nil, bid(8))
	expectFeeds(t, before, api.Top{Bid: 9, Ask: 11, Last: 7, Volume: 3}, 1, nil, ask(11))
	expectFeeds(t, before, api.Top{Bid: 8, Ask: 11, Last: 7, Volume: 3}, 1, nil, bid(8), ask(11))
	expectFeeds(t, before, api.Top{}, 1, nil, bid(0), ask(0))
	expectFeeds(t, api.Top{}, before, 1, nil, bid(9), ask(10))
	expectFeeds(t, before, api.Top{Bid: 10, Ask: 9}, 1, nil, bid(10), ask(9))
	// What else a top tells comes by events alone.
	expectFeeds(t, before, api.Top{Bid: 9, Ask: 10, Last: 8, Volume: 4}, 1, nil)
	// Numbers that may not be are told as they are: Fold refuses them.
	expectFeeds(t, api.Top{Bid: -1}, api.Top{Bid: least, Ask: greatest}, 1, nil, bid(least), ask(greatest))
}
