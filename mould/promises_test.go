package mould_test

import (
	"fmt"
	"math"
	"math/rand"
	"slices"
	"testing"

	"ceroplast/api"
	"ceroplast/mould"
)

// truth is all of a truth: the casts of the heads, and the lasts of each mould's features.
type truth struct {
	casts []api.MoCast
	lasts [][]int
}

func allCasts(s api.MoShop) []api.MoCast {
	var all []api.MoCast
	for m, mo := range s.Moulds {
		for n := 1; n <= mo.Casts; n++ {
			all = append(all, cast(m, n))
		}
	}
	return all
}

// eachCasts calls visit with each list of different casts of the heads, in order.
func eachCasts(s api.MoShop, visit func(casts []api.MoCast)) {
	all := allCasts(s)
	var place func(casts []api.MoCast)
	place = func(casts []api.MoCast) {
		if len(casts) == len(s.Heads) {
			visit(slices.Clone(casts))
			return
		}
		for _, c := range all {
			if !slices.Contains(casts, c) {
				place(append(slices.Clone(casts), c))
			}
		}
	}
	place(nil)
}

// eachLasts calls visit with all lasts of all features that the spans allow.
func eachLasts(s api.MoShop, visit func(lasts [][]int)) {
	lasts := make([][]int, len(s.Moulds))
	for m := range lasts {
		lasts[m] = make([]int, s.Features)
	}
	var fill func(at int)
	fill = func(at int) {
		if at == len(s.Moulds)*s.Features {
			copied := make([][]int, len(lasts))
			for m := range lasts {
				copied[m] = slices.Clone(lasts[m])
			}
			visit(copied)
			return
		}
		m, f := at/s.Features, at%s.Features
		for n := s.Moulds[m].Lasts[f].Lo; n <= s.Moulds[m].Lasts[f].Hi; n++ {
			lasts[m][f] = n
			fill(at + 1)
		}
	}
	fill(0)
}

// isTruth is the definition, word by word.
func isTruth(s api.MoShop, t truth) bool {
	for h, head := range s.Heads {
		for f, show := range head.Shows {
			number, last := t.casts[h].Number, t.lasts[t.casts[h].Mould][f]
			if show == api.MoSeen && number > last || show == api.MoBlurred && number <= last {
				return false
			}
		}
	}
	return true
}

// truthsOf returns all truths of a shop, those of the first casts first.
func truthsOf(s api.MoShop) []truth {
	var list []truth
	eachCasts(s, func(casts []api.MoCast) {
		eachLasts(s, func(lasts [][]int) {
			if t := (truth{casts, lasts}); isTruth(s, t) {
				list = append(list, t)
			}
		})
	})
	return list
}

// entriesOf returns all entries of a shop, by head, and then by feature.
func entriesOf(s api.MoShop) []api.MoEntry {
	var list []api.MoEntry
	for h, head := range s.Heads {
		for f, show := range head.Shows {
			if show != api.MoUnread {
				list = append(list, entry(h, f))
			}
		}
	}
	return list
}

func clone(s api.MoShop) api.MoShop {
	c := api.MoShop{Features: s.Features}
	for _, m := range s.Moulds {
		m.Lasts = slices.Clone(m.Lasts)
		c.Moulds = append(c.Moulds, m)
	}
	for _, h := range s.Heads {
		h.Shows = slices.Clone(h.Shows)
		c.Heads = append(c.Heads, h)
	}
	return c
}

func without(s api.MoShop, entries []api.MoEntry) api.MoShop {
	c := clone(s)
	for _, x := range entries {
		c.Heads[x.Head].Shows[x.Feature] = api.MoUnread
	}
	return c
}

// randomShop returns a shop with at most so many features and heads, and spans that are at most so wide.
func randomShop(r *rand.Rand, features, heads, wide int) api.MoShop {
	s := api.MoShop{Features: 1 + r.Intn(features)}
	for m := range r.Intn(api.MaxMoMoulds + 1) {
		mo := api.MoMould{Name: fmt.Sprintf("m%d", m), Casts: 1 + r.Intn(api.MaxMoCasts)}
		for range s.Features {
			lo := r.Intn(api.MaxMoLast + 1)
			mo.Lasts = append(mo.Lasts, span(lo, min(lo+r.Intn(wide+1), api.MaxMoLast)))
		}
		s.Moulds = append(s.Moulds, mo)
	}
	for h := range r.Intn(heads + 1) {
		head := api.MoHead{Name: fmt.Sprintf("h%d", h)}
		for range s.Features {
			head.Shows = append(head.Shows, r.Intn(3))
		}
		s.Heads = append(s.Heads, head)
	}
	return s
}

// trueShop returns a shop whose heads show what a truth has, but for features that are unread, and this truth.
func trueShop(r *rand.Rand, features, heads, wide int) (api.MoShop, truth) {
	for {
		s := randomShop(r, features, heads, wide)
		all := allCasts(s)
		if len(all) < len(s.Heads) {
			continue
		}
		r.Shuffle(len(all), func(i, j int) { all[i], all[j] = all[j], all[i] })
		t := truth{casts: all[:len(s.Heads)]}
		for _, m := range s.Moulds {
			var lasts []int
			for _, last := range m.Lasts {
				lasts = append(lasts, last.Lo+r.Intn(last.Hi-last.Lo+1))
			}
			t.lasts = append(t.lasts, lasts)
		}
		for h, c := range t.casts {
			for f := range s.Features {
				s.Heads[h].Shows[f] = api.MoBlurred
				if c.Number <= t.lasts[c.Mould][f] {
					s.Heads[h].Shows[f] = api.MoSeen
				}
				if r.Intn(3) == 0 {
					s.Heads[h].Shows[f] = api.MoUnread
				}
			}
		}
		return s, t
	}
}

// mixedShop returns a shop of these sizes; every second one surely has a truth.
func mixedShop(r *rand.Rand, features, heads, wide int) api.MoShop {
	if r.Intn(2) == 0 {
		return randomShop(r, features, heads, wide)
	}
	s, _ := trueShop(r, features, heads, wide)
	return s
}

// smallShop returns a shop whose truths can all be gone through.
func smallShop(r *rand.Rand) api.MoShop { return mixedShop(r, 2, 3, 2) }

func TestP1_4AgainstAllTruths(t *testing.T) {
	r := rand.New(rand.NewSource(14))
	for range 1500 {
		s := smallShop(r)
		var lists [][]api.MoCast
		for _, x := range truthsOf(s) {
			if len(lists) == 0 || !slices.Equal(lists[len(lists)-1], x.casts) {
				lists = append(lists, x.casts)
			}
		}
		first, many, e := mould.First(s)
		if len(lists) == 0 {
			if len(first) > 0 || many != 0 || e != api.ErrZero {
				t.Fatalf("%v: First = %v, %d, %d", s, first, many, e)
			}
			continue
		}
		if !slices.Equal(first, lists[0]) || many != len(lists) || e != api.OK {
			t.Fatalf("%v: First = %v, %d, %d, not %v, %d", s, first, many, e, lists[0], len(lists))
		}
		for h := range s.Heads {
			var want []api.MoCast
			for _, c := range allCasts(s) {
				if slices.ContainsFunc(lists, func(l []api.MoCast) bool { return l[h] == c }) {
					want = append(want, c)
				}
			}
			if may, e := mould.May(s, h); !slices.Equal(may, want) || e != api.OK {
				t.Fatalf("%v: May of %d = %v, %d, not %v", s, h, may, e, want)
			}
		}
	}
}

// sameAndOrder is what Same and Order have to return, from all truths.
func sameAndOrder(truths []truth, a, b int) (same, order int, e api.Errno) {
	apart, before, after := 0, 0, 0
	for _, x := range truths {
		p, q := x.casts[a], x.casts[b]
		switch {
		case p.Mould != q.Mould:
			apart++
		case p.Number < q.Number:
			before++
		default:
			after++
		}
	}
	switch {
	case apart == len(truths):
		return api.MoNever, 0, api.ErrDown
	case apart == 0:
		same = api.MoMust
	}
	switch {
	case after == 0:
		order = api.MoBefore
	case before == 0:
		order = api.MoAfter
	}
	return same, order, api.OK
}

func TestP1_5AgainstAllTruths(t *testing.T) {
	r := rand.New(rand.NewSource(15))
	for range 1500 {
		s := smallShop(r)
		truths := truthsOf(s)
		if len(truths) == 0 {
			continue
		}
		for a := range s.Heads {
			for b := range s.Heads {
				if a == b {
					continue
				}
				want, order, wantError := sameAndOrder(truths, a, b)
				same, e := mould.Same(s, a, b)
				got, f := mould.Order(s, a, b)
				if same != want || e != api.OK || got != order || f != wantError {
					t.Fatalf("%v, %d, %d: Same = %d, %d, not %d; Order = %d, %d, not %d, %d", s, a, b, same, e, want, got, f, order, wantError)
				}
			}
		}
	}
}

func TestP1_6AgainstAllTruths(t *testing.T) {
	r := rand.New(rand.NewSource(16))
	for range 1500 {
		s := smallShop(r)
		truths := truthsOf(s)
		if len(truths) == 0 {
			continue
		}
		for m := range s.Moulds {
			var wantSure, wantMay []int
			for f := range s.Features {
				var met []int
				for _, x := range truths {
					met = append(met, x.lasts[m][f])
				}
				want := span(slices.Min(met), slices.Max(met))
				if got, e := mould.Lasts(s, m, f); got != want || e != api.OK {
					t.Fatalf("%v: Lasts of %d, %d = %v, %d, not %v", s, m, f, got, e, want)
				}
				next := s.Moulds[m].Casts + 1
				if !slices.ContainsFunc(met, func(last int) bool { return next > last }) {
					wantSure = append(wantSure, f)
				}
				if slices.ContainsFunc(met, func(last int) bool { return next <= last }) {
					wantMay = append(wantMay, f)
				}
			}
			if sure, may, e := mould.Next(s, m); !slices.Equal(sure, wantSure) || !slices.Equal(may, wantMay) || e != api.OK {
				t.Fatalf("%v: Next of %d = %v, %v, %d, not %v, %v", s, m, sure, may, e, wantSure, wantMay)
			}
		}
	}
}

func hasTruth(s api.MoShop) bool {
	_, _, e := mould.First(s)
	return e == api.OK
}

// listsOf returns all lists of so many of the entries, in order.
func listsOf(entries []api.MoEntry, size int) [][]api.MoEntry {
	if size == 0 {
		return [][]api.MoEntry{nil}
	}
	var lists [][]api.MoEntry
	for i := range entries {
		for _, rest := range listsOf(entries[i+1:], size-1) {
			lists = append(lists, append([]api.MoEntry{entries[i]}, rest...))
		}
	}
	return lists
}

func TestP1_11Wrong(t *testing.T) {
	r := rand.New(rand.NewSource(111))
	wrongs := 0
	for range 400 {
		s := randomShop(r, api.MaxMoFeatures, api.MaxMoHeads, r.Intn(api.MaxMoLast+1))
		wrong, e := mould.Wrong(s)
		if len(s.Heads) > len(allCasts(s)) {
			if len(wrong) > 0 || e != api.ErrDown {
				t.Fatalf("%v: Wrong = %v, %d", s, wrong, e)
			}
			continue
		}
		if e != api.OK || !hasTruth(without(s, wrong)) {
			t.Fatalf("%v: Wrong = %v, %d, but there is no truth without them", s, wrong, e)
		}
		if len(wrong) > 4 {
			continue // too many lists
		}
		wrongs += len(wrong)
		for size := range len(wrong) {
			for _, list := range listsOf(entriesOf(s), size) {
				if hasTruth(without(s, list)) {
					t.Fatalf("%v: Wrong = %v, but without %v there is a truth", s, wrong, list)
				}
			}
		}
		for _, list := range listsOf(entriesOf(s), len(wrong)) {
			if hasTruth(without(s, list)) {
				if !slices.Equal(wrong, list) {
					t.Fatalf("%v: Wrong = %v, but %v comes first", s, wrong, list)
				}
				break
			}
		}
	}
	if wrongs < 100 {
		t.Errorf("the shops have %d wrong entries only", wrongs)
	}
}

func TestP1_8ReadBack(t *testing.T) {
	r := rand.New(rand.NewSource(18))
	for range 500 {
		s := randomShop(r, api.MaxMoFeatures, api.MaxMoHeads, api.MaxMoLast)
		text, e := mould.Write(s)
		if e != api.OK {
			t.Fatalf("%v: Write = %d", s, e)
		}
		if back, e := mould.Read(text); !equal(back, s) || e != api.OK {
			t.Fatalf("%v: Read = %v, %d", s, back, e)
		}
		for range 50 {
			other := []byte(text)
			other[r.Intn(len(other))] = "?+-01 \nmh"[r.Intn(9)]
			checkReadIsWritten(t, string(other))
			at := r.Intn(len(other))
			checkReadIsWritten(t, text[:at]+text[at+1:])
			checkReadIsWritten(t, text[:at]+string("0 \n?a+-"[r.Intn(7)])+text[at:])
		}
	}
}

func checkReadIsWritten(t *testing.T, text string) {
	t.Helper()
	s, e := mould.Read(text)
	if e != api.OK {
		if e != api.ErrForm || !equal(s, api.MoShop{}) {
			t.Fatalf("Read(%q) = %v, %d", text, s, e)
		}
		return
	}
	if again, e := mould.Write(s); again != text || e != api.OK {
		t.Fatalf("Read(%q) is written %q, %d", text, again, e)
	}
}

func FuzzRead(f *testing.F) {
	f.Add(exampleText)
	f.Add("features 1\nmould m 1 0 0\nhead a -\n")
	f.Fuzz(func(t *testing.T, text string) {
		if len(text) <= api.MaxMoText {
			checkReadIsWritten(t, text)
		}
	})
}

func TestP1_9TrueCasts(t *testing.T) {
	r := rand.New(rand.NewSource(19))
	for range 300 {
		s, x := trueShop(r, api.MaxMoFeatures, api.MaxMoHeads, api.MaxMoLast)
		if wrong, e := mould.Wrong(s); len(wrong) > 0 || e != api.OK {
			t.Fatalf("%v: Wrong = %v, %d", s, wrong, e)
		}
		for h, c := range x.casts {
			if may, e := mould.May(s, h); !slices.Contains(may, c) || e != api.OK {
				t.Fatalf("%v: May of %d = %v, %d, without %v", s, h, may, e, c)
			}
		}
		for a := range s.Heads {
			for b := range a {
				checkNotDenied(t, s, x, a, b)
				checkNotDenied(t, s, x, b, a)
			}
		}
		for m, lasts := range x.lasts {
			checkLasts(t, s, m, lasts)
		}
	}
}

func checkNotDenied(t *testing.T, s api.MoShop, x truth, a, b int) {
	t.Helper()
	same, e := mould.Same(s, a, b)
	order, f := mould.Order(s, a, b)
	p, q := x.casts[a], x.casts[b]
	denied := e != api.OK
	if p.Mould == q.Mould {
		denied = denied || same == api.MoNever || f != api.OK || order == api.MoBefore && p.Number > q.Number || order == api.MoAfter && p.Number < q.Number
	} else {
		denied = denied || same == api.MoMust
	}
	if denied {
		t.Fatalf("%v: Same of %d, %d = %d, %d; Order = %d, %d; in truth they are %v, %v", s, a, b, same, e, order, f, p, q)
	}
}

func checkLasts(t *testing.T, s api.MoShop, m int, lasts []int) {
	t.Helper()
	sure, may, e := mould.Next(s, m)
	for f, last := range lasts {
		got, f1 := mould.Lasts(s, m, f)
		shown := s.Moulds[m].Casts+1 <= last
		if f1 != api.OK || last < got.Lo || last > got.Hi || e != api.OK || slices.Contains(sure, f) && !shown || shown && !slices.Contains(may, f) {
			t.Fatalf("%v: Lasts of %d, %d = %v, %d, not %d; Next = %v, %v, %d", s, m, f, got, f1, last, sure, may, e)
		}
	}
}

func TestP1_10Parted(t *testing.T) {
	r := rand.New(rand.NewSource(110))
	never, must := 0, 0
	for range 2000 {
		s := smallShop(r)
		for a := range s.Heads {
			for b := range a {
				same, e := mould.Same(s, a, b)
				if e != api.OK {
					continue
				}
				for _, x := range truthsOf(s) {
					together := x.casts[a].Mould == x.casts[b].Mould
					if same == api.MoNever && together || same == api.MoMust && !together {
						t.Fatalf("%v: Same of %d, %d = %d, but there is %v", s, a, b, same, x)
					}
				}
				if same == api.MoNever {
					never++
				}
				if same == api.MoMust {
					must++
				}
			}
		}
	}
	if never < 5 || must < 5 {
		t.Errorf("only %d pairs never, and %d surely, are of one mould", never, must)
	}
}

// oneMore returns a shop with one more entry, or one more head.
func oneMore(r *rand.Rand, s api.MoShop) api.MoShop {
	c := clone(s)
	var unread []api.MoEntry
	for h, head := range c.Heads {
		for f, show := range head.Shows {
			if show == api.MoUnread {
				unread = append(unread, entry(h, f))
			}
		}
	}
	if len(unread) > 0 && (len(c.Heads) == api.MaxMoHeads || r.Intn(2) == 0) {
		x := unread[r.Intn(len(unread))]
		c.Heads[x.Head].Shows[x.Feature] = 1 + r.Intn(2)
	} else if len(c.Heads) < api.MaxMoHeads {
		more := api.MoHead{Name: "more"}
		for range c.Features {
			more.Shows = append(more.Shows, r.Intn(3))
		}
		c.Heads = append(c.Heads, more)
	}
	return c
}

func TestP1_12OneMore(t *testing.T) {
	r := rand.New(rand.NewSource(112))
	for range 600 {
		s, _ := trueShop(r, api.MaxMoFeatures, api.MaxMoHeads, api.MaxMoLast)
		more := oneMore(r, s)
		if !hasTruth(more) {
			continue
		}
		for h := range s.Heads {
			may, _ := mould.May(s, h)
			mayMore, _ := mould.May(more, h)
			for _, c := range mayMore {
				if !slices.Contains(may, c) {
					t.Fatalf("%v, %v: May of %d has %v more", s, more, h, c)
				}
			}
			for other := range h {
				checkStillSure(t, s, more, h, other)
			}
		}
		for m := range s.Moulds {
			checkNotWider(t, s, more, m)
		}
	}
}

func checkStillSure(t *testing.T, s, more api.MoShop, a, b int) {
	t.Helper()
	same, _ := mould.Same(s, a, b)
	sameMore, _ := mould.Same(more, a, b)
	order, e := mould.Order(s, a, b)
	orderMore, f := mould.Order(more, a, b)
	if same != api.MoMay && sameMore != same || e == api.OK && f == api.OK && order != api.MoEither && orderMore != order {
		t.Fatalf("%v, %v: Same of %d, %d was %d, is %d; Order was %d, is %d", s, more, a, b, same, sameMore, order, orderMore)
	}
}

func checkNotWider(t *testing.T, s, more api.MoShop, m int) {
	t.Helper()
	for f := range s.Features {
		last, _ := mould.Lasts(s, m, f)
		if lastMore, _ := mould.Lasts(more, m, f); lastMore.Lo < last.Lo || lastMore.Hi > last.Hi {
			t.Fatalf("%v, %v: Lasts of %d, %d was %v, is %v", s, more, m, f, last, lastMore)
		}
	}
	sure, may, _ := mould.Next(s, m)
	sureMore, mayMore, _ := mould.Next(more, m)
	for f := range s.Features {
		if slices.Contains(sure, f) && !slices.Contains(sureMore, f) || slices.Contains(mayMore, f) && !slices.Contains(may, f) {
			t.Fatalf("%v, %v: Next of %d was %v, %v, is %v, %v", s, more, m, sure, may, sureMore, mayMore)
		}
	}
}

func TestP1_13Before(t *testing.T) {
	r := rand.New(rand.NewSource(113))
	met := 0
	for range 600 {
		s, _ := trueShop(r, api.MaxMoFeatures, api.MaxMoHeads, api.MaxMoLast)
		for a, one := range s.Heads {
			for b, other := range s.Heads {
				if same, e := mould.Same(s, a, b); e != api.OK || same == api.MoNever {
					continue
				}
				for f, show := range one.Shows {
					if show != api.MoSeen || other.Shows[f] != api.MoBlurred {
						continue
					}
					met++
					if order, e := mould.Order(s, a, b); order != api.MoBefore || e != api.OK {
						t.Fatalf("%v: Order of %d, %d = %d, %d", s, a, b, order, e)
					}
				}
			}
		}
	}
	if met < 50 {
		t.Errorf("only %d pairs", met)
	}
}

// fitting returns the casts that fit a head.
func fitting(s api.MoShop, head int) []api.MoCast {
	var fit []api.MoCast
	for _, c := range allCasts(s) {
		if fits, _ := mould.Fits(s, head, c); fits {
			fit = append(fit, c)
		}
	}
	return fit
}

func TestP1_14Alone(t *testing.T) {
	r := rand.New(rand.NewSource(114))
	for range 400 {
		s := mixedShop(r, api.MaxMoFeatures, api.MaxMoHeads, api.MaxMoLast)
		for h, head := range s.Heads {
			fit := fitting(s, h)
			may, _ := mould.May(s, h)
			for _, c := range may {
				if !slices.Contains(fit, c) {
					t.Fatalf("%v: May of %d has %v, that does not fit", s, h, c)
				}
			}
			alone := clone(s)
			alone.Heads = []api.MoHead{head}
			may, e := mould.May(alone, 0)
			if !slices.Equal(may, fit) || (e == api.ErrZero) != (len(fit) == 0) {
				t.Fatalf("%v: May = %v, %d, but %v fit", alone, may, e, fit)
			}
		}
	}
}

func TestP1_15AnotherOrder(t *testing.T) {
	r := rand.New(rand.NewSource(115))
	opposite := map[int]int{api.MoEither: api.MoEither, api.MoBefore: api.MoAfter, api.MoAfter: api.MoBefore}
	for range 300 {
		s := mixedShop(r, api.MaxMoFeatures, api.MaxMoHeads, api.MaxMoLast)
		other := clone(s)
		order := r.Perm(len(s.Heads))
		for i, h := range order {
			other.Heads[i] = s.Heads[h]
		}
		_, many, e := mould.First(s)
		_, manyOther, f := mould.First(other)
		wrong, g := mould.Wrong(s)
		wrongOther, h := mould.Wrong(other)
		if many != manyOther || e != f || len(wrong) != len(wrongOther) || g != h {
			t.Fatalf("%v, %v: First of %d, %d casts, and %d, %d; Wrong = %v, %d, and %v, %d", s, other, many, e, manyOther, f, wrong, g, wrongOther, h)
		}
		for a := range s.Heads {
			for b := range a {
				x, e := mould.Order(s, a, b)
				y, f := mould.Order(s, b, a)
				z, g := mould.Order(other, slices.Index(order, a), slices.Index(order, b))
				if y != opposite[x] || z != x || e != f || e != g {
					t.Fatalf("%v: Order of %d, %d = %d, %d; %d, %d; %d, %d", s, a, b, x, e, y, f, z, g)
				}
			}
		}
	}
}

// callAll calls every function, and returns all results as a text.
func callAll(s api.MoShop, a, b int, c api.MoCast) string {
	var out []any
	add := func(results ...any) { out = append(out, results...) }
	add(mould.Check(s))
	add(mould.Write(s))
	add(mould.Fits(s, a, c))
	add(mould.First(s))
	add(mould.May(s, a))
	add(mould.Same(s, a, b))
	add(mould.Order(s, a, b))
	add(mould.Lasts(s, a, b))
	add(mould.Next(s, a))
	add(mould.Wrong(s))
	return fmt.Sprint(out...)
}

func TestP1_16AnyArguments(t *testing.T) {
	odd := []int{math.MinInt, -5, -1, 0, 1, 2, 3, 4, 5, 63, 64, 65, math.MaxInt}
	shops := []api.MoShop{{}, {Features: 4, Moulds: make([]api.MoMould, 1000), Heads: make([]api.MoHead, 1000)}, example(), exampleX()}
	for _, n := range odd {
		s := example()
		s.Features = n
		shops = append(shops, s)
		s = example()
		s.Moulds[1].Casts = n
		shops = append(shops, s)
		s = example()
		s.Moulds[1].Lasts[1] = span(n, 2)
		shops = append(shops, s)
		s = example()
		s.Moulds[1].Lasts[1] = span(2, n)
		shops = append(shops, s)
		s = example()
		s.Heads[1].Shows[1] = n
		shops = append(shops, s)
	}
	for _, s := range shops {
		before := canonical(s)
		for _, a := range odd {
			for _, b := range []int{math.MinInt, -1, 0, 1, 2, 3, math.MaxInt} {
				c := cast(b, a)
				first := callAll(s, a, b, c)
				if again := callAll(s, a, b, c); again != first {
					t.Fatalf("%v, %d, %d: %s, and then %s", s, a, b, first, again)
				}
			}
			if len(s.Heads) > 10 {
				break
			}
		}
		if canonical(s) != before {
			t.Errorf("%s was modified: %v", before, s)
		}
	}
}

func TestP1_16NotModified(t *testing.T) {
	r := rand.New(rand.NewSource(116))
	for range 200 {
		s := mixedShop(r, api.MaxMoFeatures, api.MaxMoHeads, api.MaxMoLast)
		before := canonical(s)
		callAll(s, 0, 1, cast(0, 1))
		if canonical(s) != before {
			t.Fatalf("%s was modified: %v", before, s)
		}
	}
}

func TestP1_16NewMemory(t *testing.T) {
	s := exampleX()
	s.Heads = s.Heads[:3]
	before := canonical(s)
	text := callAll(s, 0, 1, cast(0, 1))
	first, _, _ := mould.First(s)
	may, _ := mould.May(s, brutus)
	sure, perhaps, _ := mould.Next(s, assassin)
	wrong, _ := mould.Wrong(exampleX())
	sure[0]++
	if perhaps[0] != 2 {
		t.Error("sure and may of Next share memory")
	}
	perhaps[0]++
	wrong[0].Head++
	for i := range first {
		first[i].Number++
	}
	for i := range may {
		may[i].Number++
	}
	read, _ := mould.Read(exampleText)
	read.Moulds[0].Lasts[0].Lo++
	read.Moulds[0].Name = "other"
	read.Heads[0].Shows[0] = 2
	if again, _ := mould.Read(exampleText); !equal(again, example()) {
		t.Errorf("Read keeps what it returned: %v", again)
	}
	if canonical(s) != before || callAll(s, 0, 1, cast(0, 1)) != text {
		t.Error("a result shares memory with the shop, or is kept")
	}
	if again, _ := mould.Wrong(exampleX()); !slices.Equal(again, []api.MoEntry{entry(late, 1)}) {
		t.Errorf("Wrong keeps what it returned: %v", again)
	}
}

func TestP1_16NilAndEmpty(t *testing.T) {
	none := api.MoShop{Features: 2}
	empty := api.MoShop{Features: 2, Moulds: []api.MoMould{}, Heads: []api.MoHead{}}
	if a, b := callAll(none, 0, 0, cast(0, 1)), callAll(empty, 0, 0, cast(0, 1)); a != b {
		t.Errorf("%s, and %s", a, b)
	}
}

func BenchmarkWrong(b *testing.B) {
	lasts := []api.Span{span(6, 6), span(6, 6), span(6, 6), span(6, 6)}
	s := shop(4, []api.MoMould{newMould("m", 4, lasts...), newMould("n", 4, lasts...)}, "----", "----", "----", "----")
	for b.Loop() {
		mould.Wrong(s)
	}
}

func BenchmarkFirst(b *testing.B) {
	s := shop(1, two(4, span(0, 6), 4, span(0, 6)), "?", "?", "?", "?")
	for b.Loop() {
		mould.First(s)
	}
}
