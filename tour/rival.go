package tour

import (
	"ceroplast/api"
	"ceroplast/sets"
)

// rival is in which town the rival is, and in which ones, as bits, it was, this one included.
type rival struct{ town, been int }

// to returns the rival once it has gone to a town.
func (r rival) to(town int) rival { return rival{town, r.been | 1<<town} }

// agreeing returns the towns, as bits, from which some rest of the rival's tour agrees, if those of the next day are known.
func (v view) agreeing(day int) int {
	agreeing := 0
towns:
	for town := range v.Towns {
		for _, seen := range v.Seen {
			if seen.Day == day && (seen.Town == town) != seen.Was {
				continue towns
			}
		}
		if v.next(town, day) != 0 {
			agreeing |= 1 << town
		}
	}
	return agreeing
}

// next returns the towns, as bits, to which the rival can go behind a day on which it is in this one.
func (v view) next(town, day int) int {
	next := 0
	for other := range len(v.Towns) {
		if v.leads(town, other) {
			next |= 1 << other
		}
	}
	return next & v.rests[day+1]
}

// isPossible reports whether some tour of the rival agrees with all that was heard.
func (v view) isPossible() bool { return sets.Has(v.rests[0], v.Rival) }

// ways returns where the rival can be, and was, on a day, or ErrRange if there is no such day, or ErrZero if no tour of the rival agrees.
func (v view) ways(day int) (takings, api.Errno) {
	switch {
	case !v.isDay(day):
		return nil, api.ErrRange
	case !v.isPossible():
		return nil, api.ErrZero
	}
	return v.until(v.begin(atLeast()), day).taken, api.OK
}

// rivalError returns the error of a list of towns as a tour of the rival.
func (v view) rivalError(towns []int) api.Errno {
	switch {
	case len(towns) != v.Days:
		return api.ErrLong
	case !v.areTowns(towns...):
		return api.ErrNone
	case !v.isRivals(towns):
		return api.ErrDown
	}
	for day, town := range towns {
		if !sets.Has(v.rests[day], town) {
			return api.ErrArg
		}
	}
	return api.OK
}

// isRivals reports whether this can be a tour of the rival, whatever was heard.
func (v view) isRivals(towns []int) bool {
	if towns[0] != v.Rival {
		return false
	}
	for day, town := range towns[1:] {
		if !v.leads(towns[day], town) {
			return false
		}
	}
	return true
}
