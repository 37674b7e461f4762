package mould

import (
	"iter"

	"ceroplast/api"
	"ceroplast/check"
	"ceroplast/sets"
)

// given is the casts that a truth gives the heads, in their order; behind the heads it is zero.
type given [api.MaxMoHeads]api.MoCast

// look is a shop without an error that is looked at.
type look struct {
	api.MoShop
	casts []api.MoCast // of all moulds, in order
}

// open returns the look at a shop, or the error of the shop.
func open(s api.MoShop) (look, api.Errno) {
	if _, _, e := Check(s); e != api.OK {
		return look{}, e
	}
	l := look{MoShop: s}
	for m, mould := range l.Moulds {
		for n := range mould.Casts {
			l.casts = append(l.casts, api.MoCast{Mould: m, Number: n + 1})
		}
	}
	return l, api.OK
}

// left returns the lasts of a feature of a mould that the heads leave, but for those of a set (as bits); Lo is above Hi if they leave none.
func (l look) left(g given, without, mould, feature int) api.Span {
	span := l.Moulds[mould].Lasts[feature]
	for h, head := range l.Heads {
		if sets.Has(without, h) || g[h].Mould != mould {
			continue
		}
		switch head.Shows[feature] {
		case api.MoSeen:
			span.Lo = max(span.Lo, g[h].Number)
		case api.MoBlurred:
			span.Hi = min(span.Hi, g[h].Number-1)
		}
	}
	return span
}

// leaves reports whether the heads, but for those of a set, leave a last of a feature of each mould.
func (l look) leaves(g given, without, feature int) bool {
	for m := range l.Moulds {
		if span := l.left(g, without, m, feature); span.Lo > span.Hi {
			return false
		}
	}
	return true
}

// agrees reports whether the heads, but for those of a set, can have these casts.
func (l look) agrees(g given, without int) bool {
	for f := range l.Features {
		if !l.leaves(g, without, f) {
			return false
		}
	}
	return true
}

// placings yields all ways, in order, to give each head a cast of its own for which does holds; does is asked about each head once those before it have theirs.
func (l look) placings(does func(g given, head int) bool) iter.Seq[given] {
	return func(yield func(given) bool) {
		var g given
		var place func(head int) bool
		place = func(head int) bool {
			if head == len(l.Heads) {
				return yield(g)
			}
		next:
			for _, c := range l.casts {
				for _, taken := range g[:head] {
					if taken == c {
						continue next
					}
				}
				g[head] = c
				if does(g, head) && !place(head+1) {
					return false
				}
			}
			return true
		}
		place(0)
	}
}

// truths yields the casts of all truths, in order.
func (l look) truths() iter.Seq[given] {
	return l.placings(func(g given, head int) bool {
		later := -1 << (head + 1) // those heads have no cast yet
		return l.agrees(g, later)
	})
}

// apart is the pairing of two casts of two moulds, beside MoBefore and MoAfter.
const apart = -1

func pairing(a, b api.MoCast) int {
	switch {
	case a.Mould != b.Mould:
		return apart
	case a.Number < b.Number:
		return api.MoBefore
	}
	return api.MoAfter
}

// pairings returns the pairings of the casts that two heads have in truths.
func pairings(s api.MoShop, a, b int) (map[int]bool, api.Errno) {
	l, e := open(s)
	if e != api.OK {
		return nil, e
	}
	if !check.IsIndex(len(l.Heads), a, b) {
		return nil, api.ErrNone
	}
	if a == b {
		return nil, api.ErrArg
	}
	met := map[int]bool{}
	for g := range l.truths() {
		met[pairing(g[a], g[b])] = true
	}
	if len(met) == 0 {
		return nil, api.ErrZero
	}
	return met, api.OK
}

// lasts returns the least and the greatest last that each feature of a mould has in a truth.
func (l look) lasts(mould int) ([]api.Span, api.Errno) {
	var spans []api.Span
	for g := range l.truths() {
		for f := range l.Features {
			left := l.left(g, 0, mould, f)
			if len(spans) == f {
				spans = append(spans, left)
			}
			spans[f] = api.Span{Lo: min(spans[f].Lo, left.Lo), Hi: max(spans[f].Hi, left.Hi)}
		}
	}
	if len(spans) == 0 {
		return nil, api.ErrZero
	}
	return spans, api.OK
}

// wrong returns the first of the smallest sets of entries, as bits, without which there is a truth.
func (l look) wrong() int {
	best := 1<<(len(l.Heads)*l.Features) - 1
	anyCast := func(given, int) bool { return true }
	for g := range l.placings(anyCast) {
		if set := l.against(g); sets.Fewer(set, best) {
			best = set
		}
	}
	return best
}

// against returns the first of the smallest sets of entries, as bits, without which the heads can have these casts. What is wrong of one feature is so whatever is wrong of the others, so each one is looked at alone.
func (l look) against(g given) int {
	set := 0
	for f := range l.Features {
		heads := l.headsAgainst(g, f)
		for h := range l.Heads {
			if sets.Has(heads, h) {
				set |= 1 << (h*l.Features + f)
			}
		}
	}
	return set
}

// headsAgainst returns the heads, as bits, of the entries of against that are of a feature. No smallest set has a head that has it MoUnread: leaving that one out changes nothing.
func (l look) headsAgainst(g given, feature int) int {
	return sets.Fewest(len(l.Heads), func(set int) bool { return l.leaves(g, set, feature) })
}

// entries returns the entries of a set, in order.
func (l look) entries(set int) []api.MoEntry {
	var list []api.MoEntry
	for h := range l.Heads {
		for f := range l.Features {
			if sets.Has(set, h*l.Features+f) {
				list = append(list, api.MoEntry{Head: h, Feature: f})
			}
		}
	}
	return list
}
