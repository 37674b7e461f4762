package van

import "ceroplast/api"

// loaded is a train whose crates are in vans.
type loaded struct {
	look
	plan plan
}

// counts is a number of crates for each stop.
type counts [api.MaxVaStops]int

// spans is a span for each stop.
type spans [api.MaxVaStops]api.Span

// outcome is how many crates surely are there in time, and how many are handled twice.
type outcome struct{ sure, twice int }

// twice returns how many crates of a van are handled twice at each stop.
func (l loaded) twice(van int) counts {
	var twice counts
	for stop := range l.Stops {
		isUnloaded := false // whether a crate that lies farther from the door is
		for crate, c := range l.Crates {
			switch {
			case l.plan[crate] != van:
			case c.Stop == stop:
				isUnloaded = true
			case c.Stop > stop && isUnloaded:
				twice[stop]++
			}
		}
	}
	return twice
}

// rides returns how long it takes a van to come to each stop from the one before, with all that is handled twice there.
func (l loaded) rides(van int) spans {
	var rides spans
	copy(rides[:], l.Vans[van].Legs)
	twice := l.twice(van)
	for stop := 1; stop < l.Stops; stop++ {
		delay := twice[stop-1] * l.Handle
		rides[stop] = plus(rides[stop], api.Span{Lo: delay, Hi: delay})
	}
	return rides
}

// times returns when a van comes to each stop.
func (l loaded) times(van int) spans {
	leave := l.Vans[van].Leave
	now := api.Span{Lo: leave, Hi: leave}
	times := l.rides(van)
	for stop := range l.Stops {
		now = plus(now, times[stop])
		times[stop] = now
	}
	return times
}

// timesIf returns when a van comes to each stop, if it comes to one at a minute at which it can.
func (l loaded) timesIf(van, stop, minute int) spans {
	times, rides := l.times(van), l.rides(van)
	times[stop] = api.Span{Lo: minute, Hi: minute}
	for next := stop + 1; next < l.Stops; next++ {
		times[next] = plus(times[next-1], rides[next])
	}
	for last := stop - 1; last >= 0; last-- {
		next, ride := times[last+1], rides[last+1]
		times[last] = api.Span{
			Lo: max(times[last].Lo, next.Lo-ride.Hi),
			Hi: min(times[last].Hi, next.Hi-ride.Lo),
		}
	}
	return times
}

func plus(a, b api.Span) api.Span { return api.Span{Lo: a.Lo + b.Lo, Hi: a.Hi + b.Hi} }

// tell returns the spans of all stops as they are told.
func (l loaded) tell(s spans) []api.Span {
	told := make([]api.Span, l.Stops)
	copy(told, s[:])
	return told
}

// comes returns when a crate that does not stay behind comes to its stop.
func (l loaded) comes(crate int) api.Span { return l.times(l.plan[crate])[l.Crates[crate].Stop] }

// arrives returns whether a crate is there in time.
func (l loaded) arrives(crate int) int {
	if l.plan[crate] == api.VaNone {
		return api.VaNever
	}
	comes, by := l.comes(crate), l.Crates[crate].By
	switch {
	case comes.Hi <= by:
		return api.VaSure
	case comes.Lo > by:
		return api.VaNever
	}
	return api.VaMay
}

func (l loaded) isSure(crate int) bool { return l.arrives(crate) == api.VaSure }

// latest returns how many minutes the latest crate can be late, if none stays behind.
func (l loaded) latest() int {
	late := 0
	for crate, c := range l.Crates {
		late = max(late, l.comes(crate).Hi-c.By)
	}
	return late
}

func (l loaded) outcome() outcome {
	o := outcome{sure: count(len(l.Crates), l.isSure)}
	for van := range l.Vans {
		for _, twice := range l.twice(van) {
			o.twice += twice
		}
	}
	return o
}

func (o outcome) isBetter(than outcome) bool {
	return o.sure > than.sure || o.sure == than.sure && o.twice < than.twice
}

// count returns of how many things, of so many, something is so.
func count(things int, isSo func(thing int) bool) int {
	many := 0
	for thing := range things {
		if isSo(thing) {
			many++
		}
	}
	return many
}
