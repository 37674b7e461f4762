package tour

import (
	"cmp"
	"iter"
	"maps"
	"slices"

	"ceroplast/api"
	"ceroplast/check"
	"ceroplast/pick"
	"ceroplast/sets"
)

// trip is a tour up to a day: what it costs, and what was taken on it, at least or at most.
type trip struct {
	aim
	stays []api.ToStay
	day   int
	pence int
	taken takings
}

// earns returns what a tour earns.
func (t trip) earns() int {
	taken, _ := pick.Least(maps.Values(t.taken), t.compare)
	return taken - t.pence
}

// begin returns the tour without stays.
func (v view) begin(a aim) trip {
	t := trip{aim: a, taken: takings{}}
	if v.isPossible() {
		t.taken.add(rival{}.to(v.Rival), 0, a)
	}
	return t
}

// later returns a tour a day later, if so much is taken on this day.
func (v view) later(t trip, takes func(r rival) int) trip {
	taken := takings{}
	for r, pence := range t.taken {
		pence += takes(r)
		next := v.next(r.town, t.day)
		for town := range len(v.Towns) {
			if sets.Has(next, town) {
				taken.add(r.to(town), pence, t.aim)
			}
		}
	}
	t.taken = taken
	t.day++
	return t
}

// until returns a tour on a later day, if nothing is taken before.
func (v view) until(t trip, day int) trip {
	for t.day < day {
		t = v.later(t, sale{}.takes)
	}
	return t
}

// with returns a tour with one more stay, which has no error.
func (v view) with(t trip, stay api.ToStay) trip {
	t.pence += v.roadTo(t.stays, stay.Town).Cost + stay.Stay*v.Towns[stay.Town].Rent
	t = v.until(t, stay.Day)
	for range stay.Stay {
		t = v.later(t, v.sale(stay.Town, t.day, t.aim).takes)
	}
	// Other tours begin with the same stays.
	t.stays = append(slices.Clone(t.stays), stay)
	return t
}

// trip returns a tour that has no error.
func (v view) trip(stays []api.ToStay, a aim) trip {
	t := v.begin(a)
	for _, stay := range stays {
		t = v.with(t, stay)
	}
	return t
}

// trips yields all tours, in order.
func (v view) trips(a aim) iter.Seq[trip] {
	return func(yield func(trip) bool) {
		var extend func(t trip) bool
		extend = func(t trip) bool {
			if !yield(t) {
				return false
			}
			for _, stay := range v.stays(t.stays) {
				if !extend(v.with(t, stay)) {
					return false
				}
			}
			return true
		}
		extend(v.begin(a))
	}
}

// best returns the first of the tours that earn most if they earn as little as they can.
func (v view) best() trip {
	best, _ := pick.Least(v.trips(atLeast()), func(a, b trip) int { return cmp.Compare(b.earns(), a.earns()) })
	return best
}

// ends returns in which town a tour ends, and on which day.
func (v view) ends(stays []api.ToStay) (town, day int) {
	if len(stays) == 0 {
		return v.Home, 0
	}
	last := stays[len(stays)-1]
	return last.Town, last.Day + last.Stay
}

// roadTo returns the road to the town of the next stay.
func (v view) roadTo(before []api.ToStay, town int) api.ToRoad {
	from, _ := v.ends(before)
	return v.roads[from][town]
}

// stay returns the next stay, in this town and for so many days, on the day on which it has to begin.
func (v view) stay(before []api.ToStay, town, days int) api.ToStay {
	_, ended := v.ends(before)
	return api.ToStay{Town: town, Day: ended + v.roadTo(before, town).Long, Stay: days}
}

// stays returns what can be the next stay, in order.
func (v view) stays(before []api.ToStay) []api.ToStay {
	var stays []api.ToStay
	for town := range v.Towns {
		for days := range api.MaxToStay {
			stay := v.stay(before, town, days+1)
			if v.stayError(before, stay) == api.OK {
				stays = append(stays, stay)
			}
		}
	}
	return stays
}

// stayError returns the error of a stay behind others, which have none.
func (v view) stayError(before []api.ToStay, stay api.ToStay) api.Errno {
	from, _ := v.ends(before)
	switch {
	case !v.areTowns(stay.Town):
		return api.ErrNone
	case slices.ContainsFunc(before, func(other api.ToStay) bool { return other.Town == stay.Town }):
		return api.ErrTwice
	case !check.Within(1, api.MaxToStay, stay.Stay):
		return api.ErrRange
	case !v.leads(from, stay.Town):
		return api.ErrDown
	case stay != v.stay(before, stay.Town, stay.Stay):
		return api.ErrArg
	case stay.Day+stay.Stay > v.Days:
		return api.ErrLong
	}
	return api.OK
}
