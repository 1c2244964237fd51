package snap_test

import (
	"slices"
	"testing"

	"tripwire/api"
	"tripwire/snap"
)

// draw answers numbers that look drawn, and are the same each time.
func draw(from uint64) func(below int) int {
	return func(below int) int {
		from += 0x9e3779b97f4a7c15
		z := from
		z = (z ^ z>>30) * 0xbf58476d1ce4e5b9
		z = (z ^ z>>27) * 0x94d049bb133111eb
		return int((z ^ z>>31) % uint64(below))
	}
}

func within(n, from, to int64) bool { return from <= n && n <= to }

// mayBe is what the chapter asks of a snapshot.
func mayBe(s api.Snap) bool {
	return !slices.ContainsFunc(fields, func(f api.Field) bool { return !within(*at(&s, f), 0, most[f]) })
}

// fed is what one feed does by the chapter's table; false: it can't be.
func fed(s api.Snap, x api.Feed) (api.Snap, bool) {
	switch {
	case x.Kind == 1 && within(x.A, 0, 1000000000):
		s.Bid = x.A
	case x.Kind == 2 && within(x.A, 0, 1000000000):
		s.Ask = x.A
	case x.Kind == 3 && within(x.A, 1, 1000000000) && within(x.B, 1, min(1000000000, 1000000000000000-s.Volume)):
		s.Last, s.Volume = x.A, s.Volume+x.B
	case x.Kind == 4 && within(x.A, s.Now, 1000000000000000):
		s.Now = x.A
	case x.Kind == 5 && within(x.A, -s.Open, 256000000000-s.Open):
		s.Open += x.A
	default:
		return s, false
	}
	return s, true
}

// differ is the mask of two snapshots, field by field.
func differ(a, b api.Snap) api.Mask {
	m := api.Mask(0)
	for _, f := range fields {
		if *at(&a, f) != *at(&b, f) {
			m += 1 << f
		}
	}
	return m
}

// answer is what Fold tells.
type answer struct {
	s  api.Snap
	m  api.Mask
	no api.Errno
}

func folded(s api.Snap, l ...api.Feed) answer {
	behind, m, no := snap.Fold(s, l...)
	return answer{behind, m, no}
}

// judged is what it is to tell.
func judged(s api.Snap, l []api.Feed) answer {
	behind := s
	is := mayBe(s)
	for _, x := range l {
		if is {
			behind, is = fed(behind, x)
		}
	}
	if !is {
		return answer{no: cant}
	}
	return answer{s: behind, m: differ(s, behind)}
}

// edges are numbers at and about all that the chapter names.
func edges() []int64 {
	l := []int64{least, least + 1, greatest - 1, greatest, -1, 0, 1, 2, 1 << 31, 1 << 32}
	for _, n := range []int64{api.MaxPrice, api.MaxOpen, api.MaxVolume} {
		l = append(l, -n-1, -n, -n+1, n-1, n, n+1)
	}
	return l
}

// corners are snapshots with each number at and about its bounds, the others being common ones; some of them may not be.
func corners() []api.Snap {
	l := []api.Snap{{}, some(), brim()}
	for _, s := range l[:3:3] {
		for _, f := range fields {
			for _, n := range []int64{least, -1, 0, 1, most[f] - 1, most[f], most[f] + 1, greatest} {
				l = append(l, with(s, f, n))
			}
		}
	}
	return l
}

func TestCheckOfAllCorners(t *testing.T) {
	taken, refused := 0, 0
	for _, s := range corners() {
		for _, f := range fields {
			for _, n := range edges() {
				s := with(s, f, n)
				if mayBe(s) {
					taken++
					expectCheck(t, s, api.OK)
				} else {
					refused++
					expectCheck(t, s, cant)
				}
			}
		}
	}
	if taken < 1000 || refused < 1000 {
		t.Errorf("only %d were taken, %d refused", taken, refused)
	}
}

func TestAllSingleFeeds(t *testing.T) {
	var taken, refused [9]int
	for _, s := range corners() {
		for k := range api.FeedKind(9) {
			for _, a := range edges() {
				for _, b := range edges() {
					x := feed(k, a, b)
					want := judged(s, feeds(x))
					if want.no == api.OK {
						taken[k]++
					} else {
						refused[k]++
					}
					if got := folded(s, x); got != want {
						t.Fatalf("Fold(%+v, %+v) is %+v; want %+v", s, x, got, want)
					}
				}
			}
		}
	}
	for k := range 9 {
		if real := k >= 1 && k <= 5; real != (taken[k] > 500) || refused[k] < 1000 {
			t.Errorf("of kind %d, %d were taken, %d refused", k, taken[k], refused[k])
		}
	}
}

// expectCuts is the chapter's first row of 'What holds', of a list cut at every place; and that what is told is what is to be.
func expectCuts(t *testing.T, s api.Snap, l []api.Feed) answer {
	t.Helper()
	whole := folded(s, l...)
	if want := judged(s, l); whole != want {
		t.Fatalf("Fold(%+v, %v) is %+v; want %+v", s, l, whole, want)
	}
	for i := range len(l) + 1 {
		first := folded(s, l[:i]...)
		if first.no != api.OK {
			if whole != first {
				t.Fatalf("Fold(%+v, %v) is %+v, though the first %d are refused", s, l, whole, i)
			}
			continue
		}
		second := folded(first.s, l[i:]...)
		if second.s != whole.s || second.no != whole.no {
			t.Fatalf("Fold(%+v, %v) is %+v; cut at %d it is %+v", s, l, whole, i, second)
		}
		if whole.no == api.OK && whole.m&^(first.m|second.m) != 0 {
			t.Fatalf("Fold(%+v, %v) has %b; cut at %d it has %b and %b", s, l, whole.m, i, first.m, second.m)
		}
	}
	return whole
}

// A snapshot so near the bounds that what was fed ahead says what can be fed.
func tight() api.Snap {
	return api.Snap{Bid: 1, Ask: api.MaxPrice, Last: 2, Volume: api.MaxVolume - 2, Now: api.MaxTime - 1, Open: 1}
}

func TestAllShortLists(t *testing.T) {
	all := feeds(bid(0), bid(1), bid(-1), ask(api.MaxPrice), ask(7), ask(api.MaxPrice+1), trade(2, 1), trade(3, 2), trade(0, 1), trade(2, 0),
		time(api.MaxTime-1), time(api.MaxTime), time(api.MaxTime-2), open(-1), open(1), open(api.MaxOpen-1), open(-api.MaxOpen), feed(0, 1, 1), feed(6, 1, 1))
	taken, refused, unchanged := 0, 0, 0
	for _, x := range all {
		for _, y := range all {
			for _, z := range all {
				switch whole := expectCuts(t, tight(), feeds(x, y, z)); {
				case whole.no != api.OK:
					refused++
				case whole.m == 0:
					unchanged++
					taken++
				default:
					taken++
				}
			}
		}
	}
	if taken < 500 || refused < 500 || unchanged < 50 {
		t.Errorf("%d lists were taken, %d refused; %d changed nothing", taken, refused, unchanged)
	}
}

// anyFeed is one that mostly can be, to a snapshot.
func anyFeed(drawn func(int) int, s api.Snap) api.Feed {
	if drawn(60) == 0 {
		e := edges()
		return feed(api.FeedKind(drawn(8)), e[drawn(len(e))], e[drawn(len(e))])
	}
	small := int64(drawn(5))
	switch drawn(6) {
	case 0:
		return bid(small)
	case 1:
		return ask(small)
	case 2:
		return trade(1+small, 1+int64(drawn(3)))
	case 3:
		return feed(api.FeedTime, min(s.Now+small, api.MaxTime), small-2)
	case 4:
		return open(-min(s.Open, small))
	}
	return open(small)
}

func TestDrawnLists(t *testing.T) {
	drawn := draw(10)
	starts := []api.Snap{{}, some(), tight(), with(brim(), api.FieldVolume, api.MaxVolume-20)}
	taken, refused := 0, 0
	for range 4000 {
		s := starts[drawn(len(starts))]
		var l []api.Feed
		for behind := s; len(l) < drawn(24); {
			x := anyFeed(drawn, behind)
			behind, _ = fed(behind, x)
			l = append(l, x)
		}
		before := slices.Clone(l)
		if expectCuts(t, s, l).no == api.OK {
			taken++
		} else {
			refused++
		}
		if !slices.Equal(l, before) {
			t.Fatalf("the list that was handed in is %v now; it was %v", l, before)
		}
	}
	if taken < 1000 || refused < 400 {
		t.Errorf("%d lists were taken, %d refused", taken, refused)
	}
}

// told is what an event is to a client by the chapter's words: by how much what it has open changes, 0 for not at all.
func told(x api.Event, client int) []api.Feed {
	var l []api.Feed
	if x.What == 2 {
		l = append(l, api.Feed{Kind: 3, A: x.Price, B: x.Qty})
	}
	if !within(x.Qty, 0, 1000000000) || !within(x.Was, 0, 1000000000) {
		return l
	}
	mine := map[api.What]int64{3: -x.Qty, 4: -x.Qty, 6: x.Qty, 7: -x.Was, 8: x.Qty - x.Was}[x.What]
	if x.Client != client {
		mine = 0
	}
	if x.What == 2 && x.Holder == client {
		mine = -x.Qty
	}
	if mine != 0 {
		l = append(l, api.Feed{Kind: 5, A: mine})
	}
	return l
}

// toldAll is what events between two tops are to a client.
func toldAll(before, after api.Top, client int, l []api.Event) []api.Feed {
	var all []api.Feed
	for _, x := range l {
		all = append(all, told(x, client)...)
	}
	if before.Bid != after.Bid {
		all = append(all, api.Feed{Kind: 1, A: after.Bid})
	}
	if before.Ask != after.Ask {
		all = append(all, api.Feed{Kind: 2, A: after.Ask})
	}
	return all
}

func TestAllSingleEvents(t *testing.T) {
	lots := []int64{least, -1, 0, 1, 3, api.MaxQty, api.MaxQty + 1, greatest}
	for what := range api.What(11) {
		for who := range 9 {
			for _, qty := range lots {
				for _, was := range lots {
					x := api.Event{What: what, ID: 3, Other: 1, Client: who % 3, Holder: who / 3, Price: 7, Qty: qty, Was: was}
					for client := range 4 {
						if got, want := snap.Feeds(still, still, client, x), told(x, client); !slices.Equal(got, want) {
							t.Fatalf("Feeds to %d of %+v is %v; want %v", client, x, got, want)
						}
					}
				}
			}
		}
	}
}

func TestDrawnEvents(t *testing.T) {
	drawn := draw(11)
	lots := []int64{-1, 0, 1, 2, 3, 4, 5, api.MaxQty, api.MaxQty + 1}
	for range 6000 {
		var l []api.Event
		for range drawn(8) {
			l = append(l, api.Event{What: api.What(drawn(10)), ID: drawn(5), Other: drawn(5), Client: drawn(4), Holder: drawn(4), Side: api.Side(drawn(3)), Price: int64(drawn(9)), Qty: lots[drawn(len(lots))], Was: lots[drawn(len(lots))]})
		}
		tops := [2]api.Top{}
		for i := range tops {
			tops[i] = api.Top{Bid: int64(drawn(3)), Ask: int64(drawn(3)), Last: int64(drawn(3)), Volume: int64(drawn(3))}
		}
		handed := slices.Clone(l)
		for client := range 5 {
			expectFeeds(t, tops[0], tops[1], client, l, toldAll(tops[0], tops[1], client, handed)...)
		}
		if !slices.Equal(l, handed) {
			t.Fatalf("the list that was handed in is %v now; it was %v", l, handed)
		}
		if t.Failed() {
			t.FailNow()
		}
	}
}
