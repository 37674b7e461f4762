package dress

import (
	"slices"

	"ceroplast/api"
	"ceroplast/check"
)

// hair is the kind of looks whose numbers are colours.
const hair = 0

// view is a room without an error that is looked at, and the kinds that are changed by each change.
type view struct {
	api.DrRoom
	kinds map[change][]int
}

// change is a figure that becomes a person.
type change struct{ figure, person int }

// open returns the view of a room, or the error of the room.
func open(r api.DrRoom) (view, api.Errno) {
	if _, _, e := Check(r); e != api.OK {
		return view{}, e
	}
	kinds := map[change][]int{}
	for figure, f := range r.Figures {
		for person, p := range r.Persons {
			kinds[change{figure, person}] = changed(f.Looks, p.Looks)
		}
	}
	return view{r, kinds}, api.OK
}

// openPerson returns the view of a room, or the error of the room, or ErrNone if there is no such person.
func openPerson(r api.DrRoom, person int) (view, api.Errno) {
	v, e := open(r)
	if e != api.OK {
		return view{}, e
	}
	if !check.IsIndex(len(v.Persons), person) {
		return view{}, api.ErrNone
	}
	return v, api.OK
}

// changed returns the kinds of looks in which others are wanted.
func changed(looks, wanted []int) []int {
	var kinds []int
	for kind, look := range wanted {
		if look != api.DrAny && look != looks[kind] {
			kinds = append(kinds, kind)
		}
	}
	return kinds
}

// costs returns what changes cost, together.
func (v view) costs(p plan) int {
	cost := 0
	for _, c := range p {
		for _, kind := range v.kinds[c] {
			cost += v.Costs[kind]
		}
	}
	return cost
}

// changesHair reports whether the hair is changed, too.
func (v view) changesHair(c change) bool { return slices.Contains(v.kinds[c], hair) }
