package wax_test

import (
	"fmt"
	"math"
	"slices"
	"strings"
	"testing"

	"ceroplast/api"
	"ceroplast/wax"
)

// Indices of the heads and orders of the chapter's examples.
const (
	duke  = 0
	thief = 1
	queen = 2

	bishop = 0
	clown  = 1
)

func span(lo, hi int) api.Span { return api.Span{Lo: lo, Hi: hi} }

func wx(bees, tallow, colour int) api.WxAmounts { return api.WxAmounts{bees, tallow, colour} }

func newHead(name string, wax api.WxAmounts, days int) api.WxHead {
	return api.WxHead{Name: name, Wax: wax, Days: days}
}

func kept(h api.WxHead) api.WxHead {
	h.Kept = true
	return h
}

func newOrder(name string, weight int, tallow, colour api.Span) api.WxOrder {
	return api.WxOrder{Name: name, Weight: weight, Tallow: tallow, Colour: colour}
}

// whole is any part of a kettle.
func whole() api.Span { return span(0, 1000) }

// example is S of the chapter's examples.
func example() api.WxStore {
	return api.WxStore{
		Lots: wx(10, 4, 2),
		Fade: 30,
		Heads: []api.WxHead{
			newHead("duke", wx(6, 2, 2), 45),
			newHead("thief", wx(8, 4, 0), 0),
			kept(newHead("queen", wx(9, 1, 2), 0)),
		},
		Orders: []api.WxOrder{
			newOrder("bishop", 12, span(100, 300), span(50, 150)),
			newOrder("clown", 6, span(150, 250), span(50, 200)),
		},
	}
}

// exampleR is R of the chapter's examples.
func exampleR() api.WxStore {
	s := example()
	s.Lots = wx(10, 4, 0)
	return s
}

// store is a store of heads a, b, c .. that have stood in the light for no days, and one order.
func store(lots api.WxAmounts, o api.WxOrder, heads ...api.WxAmounts) api.WxStore {
	s := api.WxStore{Lots: lots, Fade: 1, Orders: []api.WxOrder{o}}
	for i, h := range heads {
		s.Heads = append(s.Heads, newHead(string(rune('a'+i)), h, 0))
	}
	return s
}

func clone(s api.WxStore) api.WxStore {
	s.Heads = slices.Clone(s.Heads)
	s.Orders = slices.Clone(s.Orders)
	return s
}

// change is a store that something was done to, and what Check says of it.
type change struct {
	name     string
	do       func(s *api.WxStore)
	part, at int
	e        api.Errno
}

func (c change) store() api.WxStore {
	s := example()
	c.do(&s)
	return s
}

func badStores() []change {
	return []change{
		{"lots below", func(s *api.WxStore) { s.Lots[api.WxBees] = -1 }, 1, 0, api.ErrRange},
		{"lots above", func(s *api.WxStore) { s.Lots[api.WxTallow] = 41 }, 1, 0, api.ErrRange},
		{"lots far below", func(s *api.WxStore) { s.Lots[api.WxColour] = math.MinInt }, 1, 0, api.ErrRange},
		{"lots far above", func(s *api.WxStore) { s.Lots[api.WxColour] = math.MaxInt }, 1, 0, api.ErrRange},
		{"no fade", func(s *api.WxStore) { s.Fade = 0 }, 1, 0, api.ErrRange},
		{"fade above", func(s *api.WxStore) { s.Fade = 365 }, 1, 0, api.ErrRange},
		{"fade far below", func(s *api.WxStore) { s.Fade = math.MinInt }, 1, 0, api.ErrRange},
		{"lots before heads", func(s *api.WxStore) { s.Lots[0], s.Heads = -1, make([]api.WxHead, 7) }, 1, 0, api.ErrRange},
		{"fade before heads", func(s *api.WxStore) { s.Fade, s.Heads[0].Name = 0, "" }, 1, 0, api.ErrRange},
		{"7 heads", func(s *api.WxStore) {
			for i := range 4 {
				s.Heads = append(s.Heads, newHead(string(rune('a'+i)), wx(0, 0, 0), 0))
			}
		}, 2, 0, api.ErrLong},
		{"too many heads before a wrong one", func(s *api.WxStore) { s.Heads = make([]api.WxHead, 7) }, 2, 0, api.ErrLong},
		{"too many heads before too many orders", func(s *api.WxStore) { s.Heads, s.Orders = make([]api.WxHead, 7), make([]api.WxOrder, 4) }, 2, 0, api.ErrLong},
		{"name of a head", func(s *api.WxStore) { s.Heads[1].Name = "Thief" }, 2, 1, api.ErrForm},
		{"name of a head before all else of it", func(s *api.WxStore) { s.Heads[0] = newHead("", wx(-1, 0, 0), -1) }, 2, 0, api.ErrForm},
		{"a long name of a head", func(s *api.WxStore) { s.Heads[2].Name = "abcdefghijklmnopq" }, 2, 2, api.ErrForm},
		{"two heads of one name", func(s *api.WxStore) { s.Heads[2].Name = "duke" }, 2, 2, api.ErrTwice},
		{"two heads of one name before its wax", func(s *api.WxStore) { s.Heads[1] = newHead("duke", wx(41, 0, 0), -1) }, 2, 1, api.ErrTwice},
		{"wax below", func(s *api.WxStore) { s.Heads[1].Wax[api.WxColour] = -1 }, 2, 1, api.ErrRange},
		{"wax above", func(s *api.WxStore) { s.Heads[0].Wax[api.WxBees] = 41 }, 2, 0, api.ErrRange},
		{"wax far above", func(s *api.WxStore) { s.Heads[0].Wax[api.WxTallow] = math.MaxInt }, 2, 0, api.ErrRange},
		{"days below", func(s *api.WxStore) { s.Heads[1].Days = -1 }, 2, 1, api.ErrRange},
		{"days above", func(s *api.WxStore) { s.Heads[2].Days = 365 }, 2, 2, api.ErrRange},
		{"days far below", func(s *api.WxStore) { s.Heads[2].Days = math.MinInt }, 2, 2, api.ErrRange},
		{"the first head decides", func(s *api.WxStore) { s.Heads[0].Days, s.Heads[1].Name = 365, "" }, 2, 0, api.ErrRange},
		{"a head before orders", func(s *api.WxStore) { s.Heads[2].Days, s.Orders = 365, make([]api.WxOrder, 4) }, 2, 2, api.ErrRange},
		{"4 orders", func(s *api.WxStore) {
			s.Orders = append(s.Orders, newOrder("a", 1, whole(), whole()), newOrder("b", 1, whole(), whole()))
		}, 3, 0, api.ErrLong},
		{"too many orders before a wrong one", func(s *api.WxStore) { s.Orders = make([]api.WxOrder, 4) }, 3, 0, api.ErrLong},
		{"name of an order", func(s *api.WxStore) { s.Orders[1].Name = "1" }, 3, 1, api.ErrForm},
		{"name of an order before all else of it", func(s *api.WxStore) { s.Orders[0] = newOrder("", 0, span(2, 1), span(-1, 0)) }, 3, 0, api.ErrForm},
		{"two orders of one name", func(s *api.WxStore) { s.Orders[1].Name = "bishop" }, 3, 1, api.ErrTwice},
		{"two orders of one name before the weight", func(s *api.WxStore) { s.Orders[1] = newOrder("bishop", 0, span(2, 1), whole()) }, 3, 1, api.ErrTwice},
		{"no weight", func(s *api.WxStore) { s.Orders[1].Weight = 0 }, 3, 1, api.ErrRange},
		{"weight above", func(s *api.WxStore) { s.Orders[0].Weight = 61 }, 3, 0, api.ErrRange},
		{"weight far below", func(s *api.WxStore) { s.Orders[0].Weight = math.MinInt }, 3, 0, api.ErrRange},
		{"tallow below", func(s *api.WxStore) { s.Orders[1].Tallow = span(-1, 5) }, 3, 1, api.ErrRange},
		{"tallow above", func(s *api.WxStore) { s.Orders[1].Tallow = span(5, 1001) }, 3, 1, api.ErrRange},
		{"colour below", func(s *api.WxStore) { s.Orders[0].Colour = span(-1, 5) }, 3, 0, api.ErrRange},
		{"colour above", func(s *api.WxStore) { s.Orders[0].Colour = span(5, 1001) }, 3, 0, api.ErrRange},
		{"colour far off", func(s *api.WxStore) { s.Orders[0].Colour = span(math.MinInt, math.MaxInt) }, 3, 0, api.ErrRange},
		{"lo of tallow above hi", func(s *api.WxStore) { s.Orders[1].Tallow = span(2, 1) }, 3, 1, api.ErrArg},
		{"lo of colour above hi", func(s *api.WxStore) { s.Orders[0].Colour = span(1000, 999) }, 3, 0, api.ErrArg},
		{"range before lo above hi", func(s *api.WxStore) { s.Orders[1].Tallow = span(1001, 1) }, 3, 1, api.ErrRange},
		{"range of colour before lo of tallow above hi", func(s *api.WxStore) { s.Orders[1].Tallow, s.Orders[1].Colour = span(2, 1), span(0, 1001) }, 3, 1, api.ErrRange},
		{"weight before lo above hi", func(s *api.WxStore) { s.Orders[1].Weight, s.Orders[1].Tallow = 61, span(2, 1) }, 3, 1, api.ErrRange},
		{"the first order decides", func(s *api.WxStore) { s.Orders[0].Colour, s.Orders[1].Name = span(2, 1), "" }, 3, 0, api.ErrArg},
	}
}

func TestP2_1Check(t *testing.T) {
	for _, c := range badStores() {
		if part, at, e := wax.Check(c.store()); part != c.part || at != c.at || e != c.e {
			t.Errorf("%s: Check = %d, %d, %d, not %d, %d, %d", c.name, part, at, e, c.part, c.at, c.e)
		}
	}
	good := []change{
		{name: "the example", do: func(s *api.WxStore) {}},
		{name: "nothing but a fade", do: func(s *api.WxStore) { *s = api.WxStore{Fade: 1} }},
		{name: "the longest fade", do: func(s *api.WxStore) { s.Fade = 364 }},
		{name: "full lots", do: func(s *api.WxStore) { s.Lots = wx(40, 40, 40) }},
		{name: "an order with the name of a head", do: func(s *api.WxStore) { s.Orders[1].Name = "duke" }},
		{name: "the ends of all ranges", do: func(s *api.WxStore) {
			s.Heads[0], s.Heads[1] = newHead("a", wx(40, 40, 40), 364), newHead("abcdefghijklmnop", wx(0, 0, 0), 0)
			s.Orders[0], s.Orders[1] = newOrder("a", 60, whole(), span(0, 0)), newOrder("b", 1, span(1000, 1000), whole())
		}},
		{name: "6 heads and 3 orders", do: func(s *api.WxStore) {
			for i := range 3 {
				s.Heads = append(s.Heads, newHead(string(rune('a'+i)), wx(0, 0, 0), 0))
			}
			s.Orders = append(s.Orders, newOrder("a", 1, whole(), whole()))
		}},
	}
	for _, c := range good {
		if part, at, e := wax.Check(c.store()); part != 0 || at != 0 || e != api.OK {
			t.Errorf("%s: Check = %d, %d, %d", c.name, part, at, e)
		}
	}
}

func TestErrorOfTheStoreComesFirst(t *testing.T) {
	for _, c := range badStores() {
		s := c.store()
		melted, e1 := wax.Melted(s, -1)
		kettle, e2 := wax.Kettle(s, []int{9}, wx(-1, 0, 0))
		order, e3 := wax.Suits(s, []int{9}, wx(-1, 0, 0))
		heads, add, e4 := wax.Pour(s)
		lists, e5 := wax.Lists(s)
		must, may, e6 := wax.Doubt(s)
		kind, ounces, e7 := wax.Lack(s)
		days, e8 := wax.Until(s)
		for i, e := range []api.Errno{e1, e2, e3, e4, e5, e6, e7, e8} {
			if e != c.e {
				t.Errorf("%s: function %d returns %d, not %d", c.name, i, e, c.e)
			}
		}
		none := wx(0, 0, 0)
		if melted != none || kettle != none || order != 0 || len(heads) > 0 || add != none || len(lists) > 0 || len(must)+len(may) > 0 || kind != 0 || ounces != 0 || days != 0 {
			t.Errorf("%s: a result is not zero", c.name)
		}
	}
}

func TestP2_2Melted(t *testing.T) {
	for i, c := range []struct {
		fade int
		head api.WxHead
		want api.WxAmounts
	}{
		{30, newHead("a", wx(6, 2, 2), 0), wx(6, 2, 2)},
		{30, newHead("a", wx(6, 2, 2), 29), wx(6, 2, 2)},
		{30, newHead("a", wx(6, 2, 2), 30), wx(7, 2, 1)},
		{30, newHead("a", wx(6, 2, 2), 59), wx(7, 2, 1)},
		{30, newHead("a", wx(6, 2, 2), 60), wx(8, 2, 0)},
		// no more than all of the colour fades
		{30, newHead("a", wx(6, 2, 2), 90), wx(8, 2, 0)},
		{30, newHead("a", wx(6, 2, 0), 364), wx(6, 2, 0)},
		{1, newHead("a", wx(0, 0, 40), 39), wx(39, 0, 1)},
		{1, newHead("a", wx(40, 40, 40), 364), wx(80, 40, 0)},
		{364, newHead("a", wx(0, 0, 1), 363), wx(0, 0, 1)},
		{364, newHead("a", wx(0, 0, 1), 364), wx(1, 0, 0)},
		{1, newHead("a", wx(0, 0, 0), 364), wx(0, 0, 0)},
		// whether it is kept or not
		{30, kept(newHead("a", wx(6, 2, 2), 45)), wx(7, 2, 1)},
	} {
		s := example()
		s.Fade, s.Heads[thief] = c.fade, c.head
		if got, e := wax.Melted(s, thief); got != c.want || e != api.OK {
			t.Errorf("%d: Melted = %v, %d", i, got, e)
		}
	}
	for _, head := range []int{-1, 3, math.MinInt, math.MaxInt} {
		if got, e := wax.Melted(example(), head); got != wx(0, 0, 0) || e != api.ErrNone {
			t.Errorf("Melted of %d = %v, %d", head, got, e)
		}
	}
	if _, e := wax.Melted(api.WxStore{Fade: 1}, 0); e != api.ErrNone {
		t.Errorf("Melted without heads: %d", e)
	}
}

func TestP2_2Kettle(t *testing.T) {
	for i, c := range []struct {
		heads []int
		add   api.WxAmounts
		want  api.WxAmounts
	}{
		{[]int{duke}, wx(5, 2, 1), wx(12, 4, 2)},
		{nil, wx(10, 4, 2), wx(10, 4, 2)},
		{nil, wx(0, 0, 0), wx(0, 0, 0)},
		{[]int{duke, thief}, wx(0, 0, 0), wx(15, 6, 1)},
		{[]int{duke, thief}, wx(1, 2, 2), wx(16, 8, 3)},
		{[]int{thief}, wx(0, 4, 0), wx(8, 8, 0)},
	} {
		if got, e := wax.Kettle(example(), c.heads, c.add); got != c.want || e != api.OK {
			t.Errorf("%d: Kettle = %v, %d", i, got, e)
		}
	}
}

func TestP2_2AndP2_3ErrorsOfAKettle(t *testing.T) {
	for i, c := range []struct {
		heads []int
		add   api.WxAmounts
		e     api.Errno
	}{
		{[]int{-1}, wx(0, 0, 0), api.ErrNone},
		{[]int{3}, wx(0, 0, 0), api.ErrNone},
		{[]int{math.MinInt, math.MaxInt}, wx(0, 0, 0), api.ErrNone},
		// no index, before all else
		{[]int{duke, 3}, wx(0, 0, 0), api.ErrNone},
		{[]int{queen, 3}, wx(0, 0, 0), api.ErrNone},
		{[]int{thief, duke, -1}, wx(99, 0, 0), api.ErrNone},
		{[]int{thief, duke}, wx(0, 0, 0), api.ErrArg},
		{[]int{thief, thief}, wx(0, 0, 0), api.ErrArg},
		{[]int{queen}, wx(0, 0, 0), api.ErrArg},
		{[]int{duke, queen}, wx(0, 0, 0), api.ErrArg},
		{[]int{duke, thief, duke}, wx(0, 0, 0), api.ErrArg},
		{make([]int, 1000), wx(0, 0, 0), api.ErrArg},
		// heads before what is added
		{[]int{thief, duke}, wx(99, 0, 0), api.ErrArg},
		{[]int{queen}, wx(-1, 0, 0), api.ErrArg},
		{[]int{duke}, wx(11, 0, 0), api.ErrRange},
		{[]int{duke}, wx(0, 5, 0), api.ErrRange},
		{nil, wx(0, 0, 3), api.ErrRange},
		{nil, wx(-1, 0, 0), api.ErrRange},
		{nil, wx(0, -1, 0), api.ErrRange},
		{nil, wx(0, 0, -1), api.ErrRange},
		{nil, wx(math.MaxInt, 1, 1), api.ErrRange},
		{nil, wx(math.MinInt, 1, 1), api.ErrRange},
	} {
		kettle, e := wax.Kettle(example(), c.heads, c.add)
		order, f := wax.Suits(example(), c.heads, c.add)
		if kettle != wx(0, 0, 0) || e != c.e || order != 0 || f != c.e {
			t.Errorf("%d: Kettle = %v, %d; Suits = %d, %d", i, kettle, e, order, f)
		}
	}
}

func TestP2_3Suits(t *testing.T) {
	for i, c := range []struct {
		heads []int
		add   api.WxAmounts
		want  int
		e     api.Errno
	}{
		{[]int{duke}, wx(5, 2, 1), 0, api.ErrNone},
		{nil, wx(10, 4, 2), 0, api.ErrDown},
		{[]int{duke}, wx(10, 0, 0), clown, api.OK},
		{[]int{thief}, wx(10, 0, 0), bishop, api.OK},
		{[]int{duke, thief}, wx(1, 0, 1), 0, api.ErrNone},
		{[]int{duke, thief}, wx(10, 4, 2), clown, api.OK},
		{[]int{thief}, wx(4, 0, 2), 0, api.ErrNone},
		{[]int{thief}, wx(3, 0, 2), 0, api.ErrDown},
		// an order that it does not suit, before its weight
		{nil, wx(1, 0, 0), bishop, api.OK},
		// nothing suits all
		{nil, wx(0, 0, 0), 0, api.ErrDown},
	} {
		if got, e := wax.Suits(example(), c.heads, c.add); got != c.want || e != c.e {
			t.Errorf("%d: Suits = %d, %d", i, got, e)
		}
	}
}

func TestP2_3EndsOfSpans(t *testing.T) {
	for i, c := range []struct {
		o   api.WxOrder
		add api.WxAmounts
		e   api.Errno // OK: it does not suit the order
	}{
		{newOrder("a", 1, span(250, 1000), whole()), wx(3, 1, 0), api.ErrNone},
		{newOrder("a", 1, span(251, 1000), whole()), wx(3, 1, 0), api.OK},
		{newOrder("a", 1, span(0, 250), whole()), wx(3, 1, 0), api.ErrNone},
		{newOrder("a", 1, span(0, 249), whole()), wx(3, 1, 0), api.OK},
		{newOrder("a", 1, whole(), span(250, 1000)), wx(3, 0, 1), api.ErrNone},
		{newOrder("a", 1, whole(), span(251, 1000)), wx(3, 0, 1), api.OK},
		{newOrder("a", 1, whole(), span(0, 250)), wx(3, 0, 1), api.ErrNone},
		{newOrder("a", 1, whole(), span(0, 249)), wx(3, 0, 1), api.OK},
		// the least part that is asked for is no part of nothing
		{newOrder("a", 1, span(1, 1000), whole()), wx(1, 0, 0), api.OK},
		{newOrder("a", 1, whole(), span(1, 1000)), wx(1, 0, 0), api.OK},
		{newOrder("a", 1, span(143, 1000), whole()), wx(6, 1, 0), api.OK},
		{newOrder("a", 1, span(142, 1000), whole()), wx(6, 1, 0), api.ErrNone},
		// a third is neither 333 parts nor 334
		{newOrder("a", 1, span(333, 333), whole()), wx(2, 1, 0), api.OK},
		{newOrder("a", 1, span(334, 334), whole()), wx(2, 1, 0), api.OK},
		{newOrder("a", 1, span(333, 334), whole()), wx(2, 1, 0), api.ErrNone},
		{newOrder("a", 1, span(1000, 1000), span(0, 0)), wx(0, 7, 0), api.ErrNone},
		{newOrder("a", 1, span(500, 500), span(500, 500)), wx(0, 3, 3), api.ErrNone},
		{newOrder("a", 1, span(500, 500), span(500, 500)), wx(1, 3, 3), api.OK},
		// the weight is that of all wax
		{newOrder("a", 6, whole(), whole()), wx(1, 2, 3), api.ErrNone},
		{newOrder("a", 7, whole(), whole()), wx(1, 2, 3), api.ErrDown},
	} {
		if got, e := wax.Suits(store(wx(10, 10, 10), c.o), nil, c.add); got != 0 || e != c.e {
			t.Errorf("%d: Suits = %d, %d", i, got, e)
		}
	}
	none := example()
	none.Orders = nil
	if got, e := wax.Suits(none, nil, wx(0, 0, 0)); got != 0 || e != api.ErrNone {
		t.Errorf("without orders: Suits = %d, %d", got, e)
	}
	three := example()
	three.Orders = []api.WxOrder{newOrder("a", 1, whole(), whole()), newOrder("b", 1, whole(), span(0, 0)), newOrder("c", 1, span(0, 0), whole())}
	for i, c := range []struct {
		add  api.WxAmounts
		want int
		e    api.Errno
	}{{wx(9, 0, 1), 1, api.OK}, {wx(9, 1, 1), 1, api.OK}, {wx(9, 1, 0), 2, api.OK}, {wx(3, 0, 0), 0, api.ErrNone}, {wx(2, 0, 0), 0, api.ErrDown}} {
		if got, e := wax.Suits(three, nil, c.add); got != c.want || e != c.e {
			t.Errorf("three orders, %d: Suits = %d, %d", i, got, e)
		}
	}
}

func TestP2_4Pour(t *testing.T) {
	noOrders := example()
	noOrders.Orders = nil
	ten := wx(10, 10, 10)
	for i, c := range []struct {
		s     api.WxStore
		heads []int
		add   api.WxAmounts
		e     api.Errno
	}{
		{example(), []int{duke}, wx(5, 2, 1), api.OK},
		{exampleR(), []int{duke}, wx(6, 2, 0), api.OK},
		{noOrders, nil, wx(0, 0, 0), api.OK},
		{api.WxStore{Fade: 1}, nil, wx(0, 0, 0), api.OK},
		// the first amounts of as much weight
		{store(ten, newOrder("o", 10, whole(), whole())), nil, wx(0, 0, 10), api.OK},
		{store(ten, newOrder("o", 15, whole(), whole())), nil, wx(0, 5, 10), api.OK},
		{store(ten, newOrder("o", 25, whole(), whole())), nil, wx(5, 10, 10), api.OK},
		{store(ten, newOrder("o", 30, whole(), whole())), nil, ten, api.OK},
		{store(ten, newOrder("o", 31, whole(), whole())), nil, wx(0, 0, 0), api.ErrDown},
		{store(ten, newOrder("o", 10, span(0, 300), span(0, 300))), nil, wx(4, 3, 3), api.OK},
		// more than is wanted, as there is no half of an ounce
		{store(ten, newOrder("o", 11, span(500, 500), span(0, 0))), nil, wx(6, 6, 0), api.OK},
		{store(ten, newOrder("o", 1, span(500, 500), span(250, 250))), nil, wx(1, 2, 1), api.OK},
		// nothing is added if nothing need be
		{store(ten, newOrder("o", 10, whole(), span(100, 100)), wx(8, 1, 1)), nil, wx(0, 9, 1), api.OK},
		{store(wx(0, 0, 0), newOrder("o", 10, whole(), span(100, 100)), wx(8, 1, 1)), []int{0}, wx(0, 0, 0), api.OK},
		// as a whole, though half of it would be enough
		{store(wx(9, 9, 0), newOrder("o", 1, whole(), span(100, 100)), wx(0, 0, 1)), []int{0}, wx(0, 9, 0), api.OK},
		{store(wx(9, 9, 0), newOrder("o", 1, whole(), span(100, 100)), wx(0, 0, 2)), []int{0}, wx(9, 9, 0), api.OK},
		{store(wx(9, 8, 0), newOrder("o", 1, whole(), span(100, 100)), wx(0, 0, 2)), nil, wx(0, 0, 0), api.ErrDown},
		{store(wx(10, 9, 0), newOrder("o", 1, span(0, 400), span(100, 100)), wx(0, 0, 2)), []int{0}, wx(10, 8, 0), api.OK},
		{store(wx(10, 9, 0), newOrder("o", 1, span(0, 399), span(100, 100)), wx(0, 0, 2)), nil, wx(0, 0, 0), api.ErrDown},
		// the fewest heads, and then the first ones, not those with the least weight
		{store(wx(0, 0, 0), newOrder("o", 10, whole(), whole()), wx(5, 0, 0), wx(5, 0, 0), wx(40, 40, 40)), []int{2}, wx(0, 0, 0), api.OK},
		{store(wx(0, 0, 0), newOrder("o", 10, whole(), whole()), wx(5, 0, 0), wx(40, 0, 0), wx(10, 0, 0)), []int{1}, wx(0, 0, 0), api.OK},
		{store(wx(0, 0, 0), newOrder("o", 10, whole(), whole()), wx(3, 0, 0), wx(2, 0, 0), wx(9, 0, 0), wx(8, 0, 0)), []int{0, 2}, wx(0, 0, 0), api.OK},
		{store(wx(0, 0, 0), newOrder("o", 10, whole(), whole()), wx(1, 0, 0), wx(2, 0, 0), wx(3, 0, 0), wx(8, 0, 0)), []int{1, 3}, wx(0, 0, 0), api.OK},
	} {
		if heads, add, e := wax.Pour(c.s); !slices.Equal(heads, c.heads) || add != c.add || e != c.e {
			t.Errorf("%d: Pour = %v, %v, %d", i, heads, add, e)
		}
	}
}

func TestP2_4KeptHeads(t *testing.T) {
	s := store(wx(0, 0, 0), newOrder("o", 10, whole(), whole()), wx(20, 0, 0), wx(5, 0, 0), wx(5, 0, 0))
	s.Heads[0].Kept = true
	if heads, add, e := wax.Pour(s); !slices.Equal(heads, []int{1, 2}) || add != wx(0, 0, 0) || e != api.OK {
		t.Errorf("Pour = %v, %v, %d", heads, add, e)
	}
	s.Heads[2].Kept = true
	if heads, add, e := wax.Pour(s); len(heads) > 0 || add != wx(0, 0, 0) || e != api.ErrDown {
		t.Errorf("Pour = %v, %v, %d", heads, add, e)
	}
}

func TestP2_5ListsAndDoubt(t *testing.T) {
	noOrders := example()
	noOrders.Orders = nil
	short := example()
	short.Lots = wx(0, 4, 2)
	any10 := newOrder("o", 10, whole(), whole())
	allKept := store(wx(0, 0, 0), any10, wx(10, 0, 0))
	allKept.Heads[0].Kept = true
	for i, c := range []struct {
		s         api.WxStore
		lists     [][]int
		must, may []int
		e         api.Errno
	}{
		{example(), [][]int{{duke}, {thief}, {duke, thief}}, nil, []int{duke, thief}, api.OK},
		{exampleR(), [][]int{{duke}}, []int{duke}, []int{duke}, api.OK},
		{noOrders, [][]int{nil, {duke}, {thief}, {duke, thief}}, nil, nil, api.OK},
		{short, [][]int{{duke, thief}}, []int{duke, thief}, []int{duke, thief}, api.OK},
		{api.WxStore{Fade: 1}, [][]int{nil}, nil, nil, api.OK},
		{store(wx(0, 0, 0), any10), nil, nil, nil, api.ErrDown},
		{allKept, nil, nil, nil, api.ErrDown},
		// fewer heads come first, then number by number
		{
			store(wx(0, 0, 0), any10, wx(5, 0, 0), wx(5, 0, 0), wx(5, 0, 0), wx(10, 0, 0)),
			[][]int{{3}, {0, 1}, {0, 2}, {0, 3}, {1, 2}, {1, 3}, {2, 3}, {0, 1, 2}, {0, 1, 3}, {0, 2, 3}, {1, 2, 3}, {0, 1, 2, 3}},
			nil, []int{3}, api.OK,
		},
		// must is of all lists, may of those with the fewest heads
		{
			store(wx(0, 0, 0), any10, wx(1, 0, 0), wx(9, 0, 0), wx(1, 0, 0), wx(0, 0, 0)),
			[][]int{{0, 1}, {1, 2}, {0, 1, 2}, {0, 1, 3}, {1, 2, 3}, {0, 1, 2, 3}},
			[]int{1}, []int{0, 1, 2}, api.OK,
		},
		{
			store(wx(0, 0, 0), any10, wx(10, 0, 0), wx(5, 0, 0), wx(5, 0, 0)),
			[][]int{{0}, {0, 1}, {0, 2}, {1, 2}, {0, 1, 2}},
			nil, []int{0}, api.OK,
		},
		{
			store(wx(0, 0, 0), newOrder("o", 60, whole(), whole()), wx(10, 0, 0), wx(10, 0, 0), wx(10, 0, 0), wx(10, 0, 0), wx(10, 0, 0), wx(10, 0, 0)),
			[][]int{{0, 1, 2, 3, 4, 5}},
			[]int{0, 1, 2, 3, 4, 5}, []int{0, 1, 2, 3, 4, 5}, api.OK,
		},
	} {
		lists, e := wax.Lists(c.s)
		must, may, f := wax.Doubt(c.s)
		if !slices.EqualFunc(lists, c.lists, slices.Equal[[]int]) || e != api.OK || !slices.Equal(must, c.must) || !slices.Equal(may, c.may) || f != c.e {
			t.Errorf("%d: Lists = %v, %d; Doubt = %v, %v, %d", i, lists, e, must, may, f)
		}
	}
}

func TestP2_6Lack(t *testing.T) {
	any10 := newOrder("o", 10, whole(), whole())
	for i, c := range []struct {
		s            api.WxStore
		kind, ounces int
		e            api.Errno
	}{
		{example(), api.WxBees, 2, api.OK},
		// both beeswax and colour would be needed
		{exampleR(), 0, 0, api.ErrDown},
		{store(wx(10, 0, 0), any10), 0, 0, api.ErrNone},
		{api.WxStore{Fade: 1}, 0, 0, api.ErrNone},
		// heads are no help
		{store(wx(9, 0, 0), any10, wx(40, 40, 40)), api.WxBees, 1, api.OK},
		// of several kinds the first one, unless another one needs fewer ounces
		{store(wx(0, 0, 0), any10), api.WxBees, 10, api.OK},
		{store(wx(0, 0, 0), newOrder("o", 10, span(1, 1000), whole())), api.WxTallow, 10, api.OK},
		{store(wx(9, 0, 0), newOrder("o", 10, span(500, 1000), whole())), api.WxTallow, 5, api.OK},
		{store(wx(0, 4, 9), newOrder("o", 8, span(500, 500), span(500, 500))), 0, 0, api.ErrNone},
		{store(wx(0, 5, 4), newOrder("o", 10, span(500, 500), whole())), api.WxBees, 1, api.OK},
		{store(wx(0, 5, 4), newOrder("o", 10, span(500, 500), span(500, 500))), api.WxColour, 1, api.OK},
		// Lots may have more than they can
		{store(wx(40, 0, 0), newOrder("o", 60, span(0, 0), span(0, 0))), api.WxBees, 20, api.OK},
		{store(wx(40, 40, 0), newOrder("o", 60, span(1000, 1000), whole())), api.WxTallow, 20, api.OK},
		// but no more than so much
		{store(wx(20, 0, 0), newOrder("o", 60, span(0, 0), span(0, 0))), api.WxBees, 40, api.OK},
		{store(wx(19, 0, 0), newOrder("o", 60, span(0, 0), span(0, 0))), 0, 0, api.ErrDown},
		{store(wx(0, 19, 0), newOrder("o", 60, whole(), span(0, 0))), 0, 0, api.ErrDown},
	} {
		if kind, ounces, e := wax.Lack(c.s); kind != c.kind || ounces != c.ounces || e != c.e {
			t.Errorf("%d: Lack = %d, %d, %d", i, kind, ounces, e)
		}
	}
}

func TestP2_7Until(t *testing.T) {
	// one head of 1 ounce of tallow, and so many of colour, which has stood so long, is wanted with one ounce of it, or more
	fading := func(fade, days, colour int) api.WxStore {
		return api.WxStore{Fade: fade, Heads: []api.WxHead{newHead("a", wx(0, 1, colour), days)}, Orders: []api.WxOrder{newOrder("o", 1, whole(), span(1, 1000))}}
	}
	exact := func(colour api.Span, days int) api.WxStore {
		s := store(wx(0, 0, 0), newOrder("o", 1, whole(), colour), wx(0, 0, 4))
		s.Fade, s.Heads[0].Days = 10, days
		return s
	}
	both := fading(30, 0, 2)
	both.Heads = append(both.Heads, newHead("b", wx(0, 1, 1), 4))
	isKept := fading(30, 0, 1)
	isKept.Heads = append(isKept.Heads, kept(newHead("b", wx(0, 1, 40), 0)))
	for i, c := range []struct {
		s    api.WxStore
		want int
		e    api.Errno
	}{
		{exampleR(), 15, api.OK},
		{example(), 0, api.ErrNone},
		{api.WxStore{Fade: 1}, 0, api.ErrNone},
		{store(wx(0, 0, 0), newOrder("o", 1, whole(), whole())), 0, api.ErrDown},
		{fading(1, 0, 1), 1, api.OK},
		{fading(30, 29, 1), 1, api.OK},
		{fading(30, 0, 2), 60, api.OK},
		{fading(30, 45, 2), 15, api.OK},
		{fading(30, 60, 2), 0, api.ErrDown},
		// the last day, and one more
		{fading(364, 0, 1), 364, api.OK},
		{fading(364, 364, 2), 364, api.OK},
		{fading(364, 363, 2), 0, api.ErrNone},
		{fading(91, 0, 4), 364, api.OK},
		{fading(91, 0, 5), 0, api.ErrNone},
		// the last one of several heads decides; one that is kept does not
		{both, 60, api.OK},
		{isKept, 30, api.OK},
		// it is as it is now that decides whether any list does, and the first day on which none does
		{exact(span(1000, 1000), 0), 10, api.OK},
		{exact(span(500, 500), 0), 0, api.ErrDown},
		{exact(span(500, 500), 20), 10, api.OK},
		{exact(span(0, 0), 39), 0, api.ErrDown},
		{exact(span(0, 0), 40), 0, api.ErrNone},
	} {
		if got, e := wax.Until(c.s); got != c.want || e != c.e {
			t.Errorf("%d: Until = %d, %d", i, got, e)
		}
	}
}

// callAll calls every function, and returns all results as a text.
func callAll(s api.WxStore, head int, heads []int, add api.WxAmounts) string {
	var out []any
	call := func(results ...any) { out = append(out, results...) }
	call(wax.Check(s))
	call(wax.Melted(s, head))
	call(wax.Kettle(s, heads, add))
	call(wax.Suits(s, heads, add))
	call(wax.Pour(s))
	call(wax.Lists(s))
	call(wax.Doubt(s))
	call(wax.Lack(s))
	call(wax.Until(s))
	return fmt.Sprint(out...)
}

func TestP2_15AnyArguments(t *testing.T) {
	odd := []int{math.MinInt, -5, -1, 0, 1, 2, 3, 40, 41, 63, 64, 1000, 1001, math.MaxInt}
	stores := []api.WxStore{{}, {Fade: 1, Heads: make([]api.WxHead, 1000), Orders: make([]api.WxOrder, 1000)}, example(), exampleR()}
	for _, n := range odd {
		for _, do := range []func(s *api.WxStore){
			func(s *api.WxStore) { s.Lots[1] = n },
			func(s *api.WxStore) { s.Fade = n },
			func(s *api.WxStore) { s.Heads[1].Wax[2] = n },
			func(s *api.WxStore) { s.Heads[1].Days = n },
			func(s *api.WxStore) { s.Orders[1].Weight = n },
			func(s *api.WxStore) { s.Orders[1].Tallow.Lo = n },
			func(s *api.WxStore) { s.Orders[1].Tallow.Hi = n },
			func(s *api.WxStore) { s.Orders[1].Colour = span(n, n) },
			func(s *api.WxStore) { s.Heads[1].Name = strings.Repeat("a", max(0, min(n, 1001))) },
		} {
			stores = append(stores, change{do: do}.store())
		}
	}
	for _, s := range stores {
		before := fmt.Sprint(s)
		for _, n := range odd {
			heads, add := []int{n, 0, n}, wx(n, 1, n)
			first := callAll(s, n, heads, add)
			if again := callAll(s, n, heads, add); again != first {
				t.Fatalf("%v, %d: %s, and then %s", s, n, first, again)
			}
			if !slices.Equal(heads, []int{n, 0, n}) {
				t.Fatalf("%v was modified", heads)
			}
			callAll(s, n, []int{n}, add)
			callAll(s, n, []int{0, n}, wx(0, 0, 0))
		}
		if fmt.Sprint(s) != before {
			t.Errorf("%s was modified: %v", before, s)
		}
	}
}

func TestP2_15NewMemory(t *testing.T) {
	s := example()
	before := fmt.Sprint(s)
	text := callAll(s, 0, []int{0}, wx(1, 1, 1))
	heads, _, _ := wax.Pour(s)
	lists, _ := wax.Lists(s)
	must, may, _ := wax.Doubt(exampleR())
	heads[0]++
	must[0]++
	if may[0] != duke {
		t.Error("must and may of Doubt share memory")
	}
	may[0]++
	_ = append(lists[0], 9, 9)
	lists[0][0]++
	if !slices.Equal(lists[1], []int{thief}) || !slices.Equal(lists[2], []int{duke, thief}) {
		t.Errorf("lists share memory: %v", lists)
	}
	if fmt.Sprint(s) != before || callAll(s, 0, []int{0}, wx(1, 1, 1)) != text {
		t.Error("a result shares memory with the store, or is kept")
	}
}

func TestP2_15NilAndEmpty(t *testing.T) {
	none := api.WxStore{Lots: wx(1, 2, 3), Fade: 2}
	empty := none
	empty.Heads, empty.Orders = []api.WxHead{}, []api.WxOrder{}
	if a, b := callAll(none, 0, nil, wx(1, 1, 1)), callAll(empty, 0, []int{}, wx(1, 1, 1)); a != b {
		t.Errorf("%s, and %s", a, b)
	}
}

// full is a store as large as can be: its colour fades until no list does.
func full() api.WxStore {
	s := api.WxStore{Lots: wx(40, 40, 0), Fade: 9}
	for i := range api.MaxWxHeads {
		s.Heads = append(s.Heads, newHead(string(rune('a'+i)), wx(40-i, 20-i, 40-2*i), i))
	}
	for i := range api.MaxWxOrders {
		s.Orders = append(s.Orders, newOrder(string(rune('o'+i)), 60, span(331, 333), span(100, 180)))
	}
	return s
}

func BenchmarkLists(b *testing.B) {
	s := full()
	for b.Loop() {
		wax.Lists(s)
	}
}

func BenchmarkUntil(b *testing.B) {
	s := full()
	for b.Loop() {
		wax.Until(s)
	}
}
