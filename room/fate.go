package room

import (
	"ceroplast/api"
	"ceroplast/sets"
)

// What becomes of a figure, as in api.
const (
	may = iota
	safe
	lost
)

// look is a house without an error that is looked at.
type look struct{ api.RoHouse }

// heated is a house in which some stoves are lit.
type heated struct {
	look
	lit int
}

// open returns the look at a house, or the error of the house.
func open(h api.RoHouse) (look, api.Errno) {
	if _, _, e := Check(h); e != api.OK {
		return look{}, e
	}
	return look{h}, api.OK
}

// warmth returns the warmth of a place.
func (h heated) warmth(place int) api.Span {
	warmth := h.Weather
	for stove, warms := range h.Places[place].Warms {
		if sets.Has(h.lit, stove) {
			warmth.Lo += warms.Lo
			warmth.Hi += warms.Hi
		}
	}
	return warmth
}

// fate returns what becomes of a figure at a place.
func (h heated) fate(figure, place int) int {
	warmth, f := h.warmth(place), h.Figures[figure]
	borne := api.Span{Lo: max(warmth.Lo, f.Cracks), Hi: min(warmth.Hi, f.Slumps)}
	switch {
	case borne == warmth:
		return safe
	case borne.Lo > borne.Hi:
		return lost
	}
	return may
}

// spare returns how many degrees colder and hotter a figure bears at a place.
func (h heated) spare(figure, place int) int {
	warmth, f := h.warmth(place), h.Figures[figure]
	return min(warmth.Lo-f.Cracks, f.Slumps-warmth.Hi)
}

// isSafeSomewhere reports whether a figure is safe at some place.
func (h heated) isSafeSomewhere(figure int) bool {
	for place := range h.Places {
		if h.fate(figure, place) == safe {
			return true
		}
	}
	return false
}
