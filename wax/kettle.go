package wax

import (
	"cmp"
	"iter"
	"slices"

	"ceroplast/api"
	"ceroplast/check"
	"ceroplast/sets"
)

// wholeParts are the parts of which an order says how many are tallow, and colour.
const wholeParts = 1000

// look is a store without an error that is looked at.
type look struct {
	api.WxStore
	later    int                       // so many days are added to the Days of all heads
	lists    [][]int                   // of heads that can be melted, those with fewer heads first, then compared number by number
	rules    []rule                    // of all orders
	wanted   int                       // ounces, of all orders
	fillings map[api.WxAmounts]filling // by what is in the kettle before something is added
}

// filling is what was found of a kettle before something is added: whether all orders can be poured, and what is added then.
type filling struct {
	does bool
	add  api.WxAmounts
}

// rule is what a kettle must keep: how many ounces of a kind of wax there can be if it has a weight.
type rule struct {
	kind  int
	allow func(weight int) api.Span
}

// open returns the look at a store, or the error of the store.
func open(s api.WxStore) (look, api.Errno) {
	if _, _, e := Check(s); e != api.OK {
		return look{}, e
	}
	l := look{WxStore: s, lists: meltable(s.Heads), fillings: map[api.WxAmounts]filling{}}
	for _, o := range l.Orders {
		l.rules = append(l.rules, rulesOf(o)...)
		l.wanted += o.Weight
	}
	return l, api.OK
}

// meltable returns all lists of heads none of which is Kept.
func meltable(heads []api.WxHead) [][]int {
	var free []int
	for h, head := range heads {
		if !head.Kept {
			free = append(free, h)
		}
	}
	var lists [][]int
	for set := range 1 << len(free) {
		var list []int
		for _, i := range sets.List(set) {
			list = append(list, free[i])
		}
		lists = append(lists, list)
	}
	slices.SortFunc(lists, func(a, b []int) int {
		return cmp.Or(cmp.Compare(len(a), len(b)), slices.Compare(a, b))
	})
	return lists
}

func rulesOf(o api.WxOrder) []rule {
	return []rule{
		{api.WxTallow, func(weight int) api.Span { return share(o.Tallow, weight) }},
		{api.WxColour, func(weight int) api.Span { return share(o.Colour, weight) }},
	}
}

// share returns how many whole ounces of a weight can be so many parts of it; Lo is above Hi if none can.
func share(parts api.Span, weight int) api.Span {
	return api.Span{Lo: (parts.Lo*weight + wholeParts - 1) / wholeParts, Hi: parts.Hi * weight / wholeParts}
}

// suits reports whether a kettle suits an order.
func suits(kettle api.WxAmounts, o api.WxOrder) bool {
	for _, r := range rulesOf(o) {
		allowed := r.allow(weigh(kettle))
		if !check.Within(allowed.Lo, allowed.Hi, kettle[r.kind]) {
			return false
		}
	}
	return true
}

func weigh(a api.WxAmounts) int { return a[api.WxBees] + a[api.WxTallow] + a[api.WxColour] }

func sum(a, b api.WxAmounts) api.WxAmounts {
	for kind, ounces := range b {
		a[kind] += ounces
	}
	return a
}

func minus(a, b api.WxAmounts) api.WxAmounts {
	for kind, ounces := range b {
		a[kind] -= ounces
	}
	return a
}

// melt returns what a head is melted to.
func (l look) melt(head int) api.WxAmounts {
	h := l.Heads[head]
	melted := h.Wax
	faded := min((h.Days+l.later)/l.Fade, melted[api.WxColour])
	melted[api.WxColour] -= faded
	melted[api.WxBees] += faded
	return melted
}

// kettle returns what is in the kettle before something is added.
func (l look) kettle(heads []int) api.WxAmounts {
	var kettle api.WxAmounts
	for _, head := range heads {
		kettle = sum(kettle, l.melt(head))
	}
	return kettle
}

// does reports whether a list of heads does.
func (l look) does(heads []int) bool { return l.found(heads) != filling{} }

// those yields the lists of heads for which does holds. They stay the look's own.
func (l look) those(does func(heads []int) bool) iter.Seq[[]int] {
	return func(yield func([]int) bool) {
		for _, heads := range l.lists {
			if does(heads) && !yield(heads) {
				return
			}
		}
	}
}

// found returns the filling of the kettle of a list of heads. Many lists, and many days, have the same kettle: it is filled once.
func (l look) found(heads []int) filling {
	kettle := l.kettle(heads)
	found, ok := l.fillings[kettle]
	if !ok {
		found = l.fill(kettle)
		l.fillings[kettle] = found
	}
	return found
}

// fill returns the filling of a kettle by which its weight is least.
func (l look) fill(kettle api.WxAmounts) filling {
	full := sum(kettle, l.Lots)
weights:
	for weight := max(weigh(kettle), l.wanted); weight <= weigh(full); weight++ {
		least, most := kettle, full
		for _, r := range l.rules {
			allowed := r.allow(weight)
			least[r.kind] = max(least[r.kind], allowed.Lo)
			most[r.kind] = min(most[r.kind], allowed.Hi)
			if least[r.kind] > most[r.kind] {
				continue weights
			}
		}
		if check.Within(weigh(least), weigh(most), weight) {
			return filling{does: true, add: minus(first(least, most, weight), kettle)}
		}
	}
	return filling{}
}

// first returns the first amounts of a weight of which each is at least, and at most, so much.
func first(least, most api.WxAmounts, weight int) api.WxAmounts {
	var amounts api.WxAmounts
	behind := weigh(most)
	for kind := range amounts {
		behind -= most[kind]
		amounts[kind] = max(least[kind], weight-behind) // the kinds behind it cannot have more
		weight -= amounts[kind]
	}
	return amounts
}
