package door

import (
	"maps"
	"slices"

	"ceroplast/api"
)

// truths are the visitors who explain a day, by how many were adults; each of them once, in order.
type truths map[int][]visitors

// ends are the least and the greatest of some numbers.
type ends[N ~int] struct {
	least, greatest N
	some            bool // whether there are any
}

// truths returns the visitors who explain the day, or ErrZero if there are none.
func (d today) truths() (truths, api.Errno) {
	t := truths{}
	for v := range d.agreeing(leaving(0).looksAt) {
		if !slices.Contains(t[v.adults], v) {
			t[v.adults] = append(t[v.adults], v)
		}
	}
	if len(t) == 0 {
		return nil, api.ErrZero
	}
	return t, api.OK
}

// openTruths returns a day of a book and the visitors who explain it, or the error of openDay, or ErrZero if there are none.
func openTruths(b api.DoBook, day int) (today, truths, api.Errno) {
	d, e := openDay(b, day)
	if e != api.OK {
		return today{}, nil, e
	}
	t, e := d.truths()
	if e != api.OK {
		return today{}, nil, e
	}
	return d, t, api.OK
}

func (t truths) first() visitors {
	fewest := slices.Min(slices.Collect(maps.Keys(t)))
	return t[fewest][0]
}

func (t truths) many() int {
	many := 0
	for _, list := range t {
		many += len(list)
	}
	return many
}

func (x *ends[N]) add(n N) {
	if !x.some {
		*x = ends[N]{n, n, true}
	}
	x.least = min(x.least, n)
	x.greatest = max(x.greatest, n)
}

func (x ends[N]) span() api.Span { return api.Span{Lo: int(x.least), Hi: int(x.greatest)} }
