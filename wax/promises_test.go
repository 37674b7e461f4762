package wax_test

import (
	"cmp"
	"math/rand"
	"slices"
	"testing"

	"ceroplast/api"
	"ceroplast/wax"
)

// The definitions, word by word.

// meltedOf fades one ounce after the other.
func meltedOf(s api.WxStore, head, later int) api.WxAmounts {
	h := s.Heads[head]
	for days := h.Days + later; days >= s.Fade && h.Wax[api.WxColour] > 0; days -= s.Fade {
		h.Wax[api.WxColour]--
		h.Wax[api.WxBees]++
	}
	return h.Wax
}

func plus(a, b api.WxAmounts) api.WxAmounts {
	return wx(a[0]+b[0], a[1]+b[1], a[2]+b[2])
}

func weightOf(a api.WxAmounts) int { return a[0] + a[1] + a[2] }

func kettleOf(s api.WxStore, heads []int, later int) api.WxAmounts {
	var kettle api.WxAmounts
	for _, h := range heads {
		kettle = plus(kettle, meltedOf(s, h, later))
	}
	return kettle
}

func inSpan(ounces, weight int, parts api.Span) bool {
	return 1000*ounces >= parts.Lo*weight && 1000*ounces <= parts.Hi*weight
}

// canPour reports whether all orders can be poured from a kettle.
func canPour(s api.WxStore, kettle api.WxAmounts) bool {
	wanted := 0
	for _, o := range s.Orders {
		if !inSpan(kettle[api.WxTallow], weightOf(kettle), o.Tallow) || !inSpan(kettle[api.WxColour], weightOf(kettle), o.Colour) {
			return false
		}
		wanted += o.Weight
	}
	return weightOf(kettle) >= wanted
}

// addsOf returns all that can be added of lots, compared amount by amount.
func addsOf(lots api.WxAmounts) []api.WxAmounts {
	var adds []api.WxAmounts
	for bees := range lots[0] + 1 {
		for tallow := range lots[1] + 1 {
			for colour := range lots[2] + 1 {
				adds = append(adds, wx(bees, tallow, colour))
			}
		}
	}
	return adds
}

// added returns what Pour adds to a kettle, and whether anything does.
func added(s api.WxStore, kettle api.WxAmounts) (api.WxAmounts, bool) {
	var best api.WxAmounts
	found := false
	for _, add := range addsOf(s.Lots) {
		if canPour(s, plus(kettle, add)) && (!found || weightOf(add) < weightOf(best)) {
			best, found = add, true
		}
	}
	return best, found
}

// allLists returns all lists of heads that are not Kept, in the order of Lists.
func allLists(s api.WxStore) [][]int {
	lists := [][]int{nil}
	for h, head := range s.Heads {
		if head.Kept {
			continue
		}
		for _, list := range lists {
			lists = append(lists, append(slices.Clone(list), h))
		}
	}
	slices.SortStableFunc(lists, slices.Compare)
	slices.SortStableFunc(lists, func(a, b []int) int { return cmp.Compare(len(a), len(b)) })
	return lists
}

func listsOf(s api.WxStore) [][]int {
	var lists [][]int
	for _, list := range allLists(s) {
		if _, ok := added(s, kettleOf(s, list, 0)); ok {
			lists = append(lists, list)
		}
	}
	return lists
}

func lists(t *testing.T, s api.WxStore) [][]int {
	t.Helper()
	all, e := wax.Lists(s)
	if e != api.OK {
		t.Fatalf("%v: Lists: %d", s, e)
	}
	return all
}

func heads(t *testing.T, s api.WxStore) []int {
	t.Helper()
	heads, _, e := wax.Pour(s)
	if e != api.OK {
		t.Fatalf("%v: Pour: %d", s, e)
	}
	return heads
}

// doesWithout reports whether the list without heads does.
func doesWithout(t *testing.T, s api.WxStore) bool {
	all := lists(t, s)
	return len(all) > 0 && len(all[0]) == 0
}

func randomAmounts(r *rand.Rand, most int) api.WxAmounts {
	return wx(r.Intn(most+1), r.Intn(most+1), r.Intn(most+1))
}

func randomSpan(r *rand.Rand, lo, wide int) api.Span {
	n := r.Intn(lo + 1)
	return span(n, min(1000, n+r.Intn(wide+1)))
}

// randomStore is a store of a few ounces.
func randomStore(r *rand.Rand) api.WxStore {
	s := api.WxStore{Lots: randomAmounts(r, 6), Fade: []int{1, 2, 7, 30, 364}[r.Intn(5)]}
	for i := range r.Intn(5) {
		h := newHead(string(rune('a'+i)), randomAmounts(r, 8), r.Intn(60))
		h.Kept = r.Intn(5) == 0
		s.Heads = append(s.Heads, h)
	}
	for i := range r.Intn(4) {
		s.Orders = append(s.Orders, newOrder(string(rune('a'+i)), 1+r.Intn(8), randomSpan(r, 400, 500), randomSpan(r, 200, 500)))
	}
	return s
}

// largeStore is a store as large as can be.
func largeStore(r *rand.Rand) api.WxStore {
	s := api.WxStore{Lots: wx(20+r.Intn(21), 20+r.Intn(21), 20+r.Intn(21)), Fade: 1 + r.Intn(api.MaxDay)}
	for i := range api.MaxWxHeads {
		s.Heads = append(s.Heads, newHead(string(rune('a'+i)), randomAmounts(r, api.MaxWxOunces), r.Intn(api.MaxDay+1)))
	}
	tallow, colour := r.Intn(400), r.Intn(400)
	for i := range api.MaxWxOrders {
		s.Orders = append(s.Orders, newOrder(string(rune('a'+i)), 40+r.Intn(21), span(tallow+r.Intn(20), tallow+20+r.Intn(20)), span(colour+r.Intn(20), colour+20+r.Intn(20))))
	}
	return s
}

func TestP2_2AgainstTheDefinition(t *testing.T) {
	r := rand.New(rand.NewSource(202))
	for range 2000 {
		s := randomStore(r)
		for h := range s.Heads {
			if got, e := wax.Melted(s, h); got != meltedOf(s, h, 0) || e != api.OK {
				t.Fatalf("%v: Melted of %d = %v, %d", s, h, got, e)
			}
		}
	}
}

func TestP2_3AgainstTheDefinition(t *testing.T) {
	r := rand.New(rand.NewSource(203))
	met := map[api.Errno]int{}
	for range 3000 {
		s := randomStore(r)
		all, adds := allLists(s), addsOf(s.Lots)
		list, add := all[r.Intn(len(all))], adds[r.Intn(len(adds))]
		kettle := plus(kettleOf(s, list, 0), add)
		at := slices.IndexFunc(s.Orders, func(o api.WxOrder) bool {
			return !inSpan(kettle[api.WxTallow], weightOf(kettle), o.Tallow) || !inSpan(kettle[api.WxColour], weightOf(kettle), o.Colour)
		})
		want, e := max(at, 0), api.OK
		if at < 0 {
			e = api.ErrDown
			if canPour(s, kettle) {
				e = api.ErrNone
			}
		}
		if got, f := wax.Suits(s, list, add); got != want || f != e {
			t.Fatalf("%v, %v, %v: Suits = %d, %d, not %d, %d", s, list, add, got, f, want, e)
		}
		met[e]++
	}
	if met[api.OK] < 300 || met[api.ErrDown] < 20 || met[api.ErrNone] < 300 {
		t.Errorf("too few of some error: %v", met)
	}
}

func checkPourAndLists(t *testing.T, s api.WxStore) {
	t.Helper()
	want := listsOf(s)
	if all := lists(t, s); !slices.EqualFunc(all, want, slices.Equal[[]int]) {
		t.Fatalf("%v: Lists = %v, not %v", s, all, want)
	}
	heads, add, e := wax.Pour(s)
	if len(want) == 0 {
		if len(heads) > 0 || add != wx(0, 0, 0) || e != api.ErrDown {
			t.Fatalf("%v: Pour = %v, %v, %d", s, heads, add, e)
		}
		return
	}
	best, _ := added(s, kettleOf(s, want[0], 0))
	if !slices.Equal(heads, want[0]) || add != best || e != api.OK {
		t.Fatalf("%v: Pour = %v, %v, %d, not %v, %v", s, heads, add, e, want[0], best)
	}
}

func TestP2_4AndP2_5AgainstTheDefinition(t *testing.T) {
	r := rand.New(rand.NewSource(204))
	for range 500 {
		checkPourAndLists(t, randomStore(r))
	}
	poured := 0
	for range 6 {
		s := largeStore(r)
		checkPourAndLists(t, s)
		if len(lists(t, s)) > 0 {
			poured++
		}
	}
	if poured < 2 {
		t.Errorf("only %d of the largest stores poured", poured)
	}
}

func TestP2_5DoubtAgainstLists(t *testing.T) {
	r := rand.New(rand.NewSource(205))
	for i := range 1000 {
		s := randomStore(r)
		if i%5 == 0 {
			s = largeStore(r)
		}
		all := lists(t, s)
		var must, may []int
		for h := range s.Heads {
			has := func(list []int) bool { return slices.Contains(list, h) }
			fewest := func(list []int) bool { return has(list) && len(list) == len(all[0]) }
			if len(all) > 0 && !slices.ContainsFunc(all, func(list []int) bool { return !has(list) }) {
				must = append(must, h)
			}
			if slices.ContainsFunc(all, fewest) {
				may = append(may, h)
			}
		}
		e := api.OK
		if len(all) == 0 {
			e = api.ErrDown
		}
		if gotMust, gotMay, f := wax.Doubt(s); !slices.Equal(gotMust, must) || !slices.Equal(gotMay, may) || f != e {
			t.Fatalf("%v: Doubt = %v, %v, %d, not %v, %v, %d", s, gotMust, gotMay, f, must, may, e)
		}
	}
}

func lackOf(s api.WxStore) (kind, ounces int, e api.Errno) {
	if _, ok := added(s, wx(0, 0, 0)); ok {
		return 0, 0, api.ErrNone
	}
	for more := 1; more <= api.MaxWxOunces; more++ {
		for kind := range s.Lots {
			other := s
			other.Lots[kind] += more
			if _, ok := added(other, wx(0, 0, 0)); ok {
				return kind, more, api.OK
			}
		}
	}
	return 0, 0, api.ErrDown
}

func TestP2_6AgainstTheDefinition(t *testing.T) {
	r := rand.New(rand.NewSource(206))
	met := map[api.Errno]int{}
	kinds := map[int]int{}
	for range 400 {
		s := randomStore(r)
		kind, ounces, e := lackOf(s)
		if gotKind, got, f := wax.Lack(s); gotKind != kind || got != ounces || f != e {
			t.Fatalf("%v: Lack = %d, %d, %d, not %d, %d, %d", s, gotKind, got, f, kind, ounces, e)
		}
		met[e]++
		if e == api.OK {
			kinds[kind]++
		}
	}
	if len(met) != 3 || len(kinds) != 3 {
		t.Errorf("not all errors, or not all kinds: %v, %v", met, kinds)
	}
}

func untilOf(s api.WxStore) (int, api.Errno) {
	known := map[api.WxAmounts]bool{}
	does := func(kettle api.WxAmounts) bool {
		ok, met := known[kettle]
		if !met {
			_, ok = added(s, kettle)
			known[kettle] = ok
		}
		return ok
	}
	for days := range api.MaxDay + 1 {
		if slices.ContainsFunc(allLists(s), func(list []int) bool { return does(kettleOf(s, list, days)) }) {
			continue
		}
		if days == 0 {
			return 0, api.ErrDown
		}
		return days, api.OK
	}
	return 0, api.ErrNone
}

func TestP2_7AgainstTheDefinition(t *testing.T) {
	r := rand.New(rand.NewSource(207))
	met := map[api.Errno]int{}
	for range 1500 {
		s := randomStore(r)
		s.Lots[api.WxColour] = r.Intn(2)
		want, e := untilOf(s)
		if got, f := wax.Until(s); got != want || f != e {
			t.Fatalf("%v: Until = %d, %d, not %d, %d", s, got, f, want, e)
		}
		met[e]++
	}
	if met[api.OK] < 50 || met[api.ErrDown] < 50 || met[api.ErrNone] < 50 {
		t.Errorf("too few of some error: %v", met)
	}
}

func TestP2_8Poured(t *testing.T) {
	r := rand.New(rand.NewSource(208))
	poured := 0
	for range 500 {
		s := randomStore(r)
		heads, add, e := wax.Pour(s)
		if e != api.OK {
			continue
		}
		poured++
		if at, e := wax.Suits(s, heads, add); at != 0 || e != api.ErrNone {
			t.Fatalf("%v: Pour = %v, %v, and Suits = %d, %d", s, heads, add, at, e)
		}
		for _, list := range allLists(s) {
			if len(list) > len(heads) {
				break
			}
			for _, other := range addsOf(s.Lots) {
				if len(list) == len(heads) && (!slices.Equal(list, heads) || weightOf(other) >= weightOf(add)) {
					continue
				}
				if _, e := wax.Suits(s, list, other); e == api.ErrNone {
					t.Fatalf("%v: Pour = %v, %v, but %v, %v do", s, heads, add, list, other)
				}
			}
		}
	}
	if poured < 100 {
		t.Errorf("only %d poured", poured)
	}
}

func TestP2_9Must(t *testing.T) {
	r := rand.New(rand.NewSource(209))
	musts := 0
	for range 1000 {
		s := randomStore(r)
		must, may, e := wax.Doubt(s)
		if e != api.OK {
			continue
		}
		musts += len(must)
		all := lists(t, s)
		for h := range s.Heads {
			other := clone(s)
			other.Heads[h].Kept = true
			if some := len(lists(t, other)) > 0; some == slices.Contains(must, h) {
				t.Fatalf("%v: Doubt = %v, %v, but with %d kept some list does: %t", s, must, may, h, some)
			}
		}
		for _, h := range may {
			if !slices.ContainsFunc(all, func(list []int) bool { return len(list) == len(heads(t, s)) && slices.Contains(list, h) }) {
				t.Fatalf("%v: %d may be melted, but is in none of the fewest of %v", s, h, all)
			}
		}
	}
	if musts < 50 {
		t.Errorf("only %d must be melted", musts)
	}
}

func TestP2_10NothingLost(t *testing.T) {
	r := rand.New(rand.NewSource(210))
	for range 1000 {
		s := randomStore(r)
		adds := addsOf(s.Lots)
		for _, list := range allLists(s) {
			add := adds[r.Intn(len(adds))]
			kettle, e := wax.Kettle(s, list, add)
			weight := weightOf(add)
			for _, h := range list {
				weight += weightOf(s.Heads[h].Wax)
			}
			if e != api.OK || weightOf(kettle) != weight {
				t.Fatalf("%v: Kettle of %v, %v = %v, %d", s, list, add, kettle, e)
			}
		}
		for h, head := range s.Heads {
			melted, e := wax.Melted(s, h)
			if e != api.OK || weightOf(melted) != weightOf(head.Wax) || melted[api.WxColour] > head.Wax[api.WxColour] || melted[api.WxTallow] != head.Wax[api.WxTallow] {
				t.Fatalf("%v: Melted of %d = %v, %d", s, h, melted, e)
			}
		}
	}
}

func TestP2_11Lacking(t *testing.T) {
	r := rand.New(rand.NewSource(211))
	lacking := 0
	for range 1000 {
		s := randomStore(r)
		kind, ounces, e := wax.Lack(s)
		if e != api.OK || s.Lots[kind]+ounces > api.MaxWxOunces {
			continue
		}
		lacking++
		enough := s
		enough.Lots[kind] += ounces
		if !doesWithout(t, enough) || len(heads(t, enough)) > 0 {
			t.Fatalf("%v: with %d of %d more some head must be melted", s, ounces, kind)
		}
		for other := range s.Lots {
			less := s
			less.Lots[other] = min(less.Lots[other]+ounces-1, api.MaxWxOunces)
			if doesWithout(t, less) {
				t.Fatalf("%v: %d of %d are lacking, but one ounce less of %d is enough", s, ounces, kind, other)
			}
		}
	}
	if lacking < 100 {
		t.Errorf("only %d lack something", lacking)
	}
}

func later(s api.WxStore, days int) api.WxStore {
	s = clone(s)
	for h := range s.Heads {
		s.Heads[h].Days += days
	}
	return s
}

func TestP2_12Faded(t *testing.T) {
	r := rand.New(rand.NewSource(212))
	faded := 0
	for range 1000 {
		s := randomStore(r)
		s.Lots[api.WxColour] = r.Intn(2)
		days, e := wax.Until(s)
		tooOld := func(h api.WxHead) bool { return h.Days+days > api.MaxDay }
		if e != api.OK || slices.ContainsFunc(s.Heads, tooOld) {
			continue
		}
		faded++
		for before := range days {
			if len(lists(t, later(s, before))) == 0 {
				t.Fatalf("%v: Until = %d, but none does at %d", s, days, before)
			}
		}
		if all := lists(t, later(s, days)); len(all) > 0 {
			t.Fatalf("%v: Until = %d, but then %v do", s, days, all)
		}
	}
	if faded < 50 {
		t.Errorf("only %d faded", faded)
	}
}

// better returns stores with which no more heads need be melted than with s.
func better(r *rand.Rand, s api.WxStore) []api.WxStore {
	kind := r.Intn(3)
	wax, days := randomAmounts(r, 8), r.Intn(60)
	stores := []api.WxStore{clone(s), clone(s)}
	stores[0].Lots[kind] += 1 + r.Intn(4)
	stores[1].Heads = append(stores[1].Heads, newHead("more", wax, days))
	for h := range s.Heads {
		other := clone(s)
		other.Heads[h].Kept = false
		stores = append(stores, other)
	}
	for o := range s.Orders {
		less, wider := clone(s), clone(s)
		less.Orders = slices.Delete(less.Orders, o, o+1)
		wider.Orders[o].Tallow.Lo /= 2
		wider.Orders[o].Colour.Hi = min(1000, wider.Orders[o].Colour.Hi+50)
		stores = append(stores, less, wider)
	}
	return stores
}

func TestP2_13More(t *testing.T) {
	r := rand.New(rand.NewSource(213))
	for range 500 {
		s := randomStore(r)
		all := lists(t, s)
		if len(all) == 0 {
			continue
		}
		fewest := len(heads(t, s))
		for i, other := range better(r, s) {
			if n := len(heads(t, other)); n > fewest {
				t.Fatalf("%v: %d heads, but of %v %d", s, fewest, other, n)
			}
			if i > 0 {
				continue
			}
			for _, list := range all {
				if !slices.ContainsFunc(lists(t, other), func(l []int) bool { return slices.Equal(l, list) }) {
					t.Fatalf("%v: %v does, but not of %v", s, list, other)
				}
			}
		}
	}
}

func TestP2_14AnotherOrder(t *testing.T) {
	r := rand.New(rand.NewSource(214))
	for range 500 {
		s := randomStore(r)
		other := clone(s)
		r.Shuffle(len(other.Heads), func(i, j int) { other.Heads[i], other.Heads[j] = other.Heads[j], other.Heads[i] })
		r.Shuffle(len(other.Orders), func(i, j int) { other.Orders[i], other.Orders[j] = other.Orders[j], other.Orders[i] })
		melted, _, e := wax.Pour(s)
		meltedOther, _, f := wax.Pour(other)
		kind, ounces, g := wax.Lack(s)
		kindOther, ouncesOther, h := wax.Lack(other)
		if len(melted) != len(meltedOther) || e != f || len(lists(t, s)) != len(lists(t, other)) || kind != kindOther || ounces != ouncesOther || g != h {
			t.Fatalf("%v, %v: Pour = %v, %d, and %v, %d; Lack = %d, %d, %d, and %d, %d, %d", s, other, melted, e, meltedOther, f, kind, ounces, g, kindOther, ouncesOther, h)
		}
	}
}
