package tour

import (
	"ceroplast/api"
	"ceroplast/check"
	"ceroplast/sets"
)

// view is a season without an error that is looked at.
type view struct {
	places
	roads [api.MaxToTowns][api.MaxToTowns]api.ToRoad // either way; where there is none it is 0 days long
	rests [api.MaxToDays + 1]int                     // for each day the towns, as bits, from which some rest of the rival's tour agrees with all that was heard
}

// open returns the view of a season, or the error of the season.
func open(s api.ToSeason) (view, api.Errno) {
	if _, _, e := Check(s); e != api.OK {
		return view{}, e
	}
	return viewOf(s), api.OK
}

// openTour returns the view of a season, or the error of the season, or of a tour.
func openTour(s api.ToSeason, stays []api.ToStay) (view, api.Errno) {
	v, e := open(s)
	if e != api.OK {
		return view{}, e
	}
	if _, e := check.First(stays, v.stayError); e != api.OK {
		return view{}, e
	}
	return v, api.OK
}

func viewOf(s api.ToSeason) view {
	v := view{places: places{s}}
	for _, r := range v.Roads {
		v.roads[r.A][r.B], v.roads[r.B][r.A] = r, r
	}
	// Behind the season nothing was heard.
	v.rests[v.Days] = 1<<len(v.Towns) - 1
	for day := v.Days - 1; day >= 0; day-- {
		v.rests[day] = v.agreeing(day)
	}
	return v
}

// leads reports whether a road leads from a town to this one, or it is the same one.
func (v view) leads(from, to int) bool { return from == to || v.roads[from][to].Long > 0 }

// without returns the view of a season as if some things had not been heard.
func (v view) without(set int) view {
	s := v.ToSeason
	s.Seen = nil
	for i, seen := range v.Seen {
		if !sets.Has(set, i) {
			s.Seen = append(s.Seen, seen)
		}
	}
	return viewOf(s)
}

// known returns the view of a season if it is known that the rival is in these towns, by a tour that agrees.
func (v view) known(towns []int) view {
	for day, town := range towns {
		v.rests[day] = 1 << town
	}
	return v
}
