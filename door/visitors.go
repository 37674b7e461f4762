package door

import (
	"iter"

	"ceroplast/api"
)

// inRooms is how many were in each room; behind the rooms it is zero.
type inRooms [api.MaxDoRooms]int

// visitors are the visitors of a day beside those of schools.
type visitors struct {
	adults, children int
	in               inRooms
}

// all returns how many visitors of the day there are, those of schools included.
func (d today) all(v visitors) int { return v.adults + v.children + pupils(d.day.Schools) }

// split returns what visitors pay: for adults, for children, for schools, and for rooms.
func (d today) split(v visitors) [4]int {
	return [4]int{v.adults * d.Price, v.children * d.half(), d.schools(), d.forRooms(v.in, 0)}
}

// pays returns what visitors pay for all.
func (d today) pays(v visitors) int {
	pence := 0
	for _, part := range d.split(v) {
		pence += part
	}
	return pence
}

// forRooms returns what so many pay for the rooms from this one on.
func (l look) forRooms(in inRooms, first int) int {
	pence := 0
	for room := first; room < len(l.Rooms); room++ {
		pence += in[room] * l.Rooms[room].More
	}
	return pence
}

// agreeing yields the visitors who agree with the entries that are looked at, in order.
func (d today) agreeing(looksAt func(entry int) bool) iter.Seq[visitors] {
	a := d.asked(looksAt)
	return func(yield func(visitors) bool) {
		// Of visitors who pay the same before they are in rooms, later ones are fewer: if the first of them cannot be in the rooms as is asked, the others cannot, either.
		hopeless := map[int]bool{} // by what they pay
	adults:
		for adults := range api.MaxDoHeads + 1 {
			for children := range api.MaxDoHeads + 1 {
				v := visitors{adults: adults, children: children}
				all := d.all(v)
				if all > a.all.Hi {
					continue adults
				}
				paid := d.pays(v)
				if all < a.all.Lo || hopeless[paid] {
					continue
				}
				hopeless[paid] = true
				for v.in = range d.filled(a.inside(all, paid)) {
					hopeless[paid] = false
					if !yield(v) {
						return
					}
				}
			}
		}
	}
}

// someAgree reports whether some visitors agree with the entries that are looked at.
func (d today) someAgree(looksAt func(entry int) bool) bool {
	for range d.agreeing(looksAt) {
		return true
	}
	return false
}

// filled yields, in order, how many there can be in each room as is asked.
func (l look) filled(a asked) iter.Seq[inRooms] {
	return func(yield func(inRooms) bool) {
		if lesser(a.least, a.most) != a.least {
			return
		}
		var in inRooms
		var fill func(room int, left api.Span) bool
		fill = func(room int, left api.Span) bool {
			if left.Lo > l.forRooms(a.most, room) || left.Hi < l.forRooms(a.least, room) {
				return true
			}
			if room == len(l.Rooms) {
				return yield(in)
			}
			allowed := l.allowed(a, room, left)
			for n := allowed.Lo; n <= allowed.Hi; n++ {
				in[room] = n
				if !fill(room+1, minus(left, n*l.Rooms[room].More)) {
					return false
				}
			}
			return true
		}
		fill(0, a.pence)
	}
}

// lesser returns of each room the lesser number.
func lesser(a, b inRooms) inRooms {
	for room := range a {
		a[room] = min(a[room], b[room])
	}
	return a
}

// allowed returns how many can be in a room so that, with those behind it, they pay what is left; the rooms from this one on must not ask for more pence than that.
func (l look) allowed(a asked, room int, left api.Span) api.Span {
	allowed := api.Span{Lo: a.least[room], Hi: a.most[room]}
	if more := l.Rooms[room].More; more > 0 {
		lack := left.Lo - l.forRooms(a.most, room+1)
		allowed.Lo = max(allowed.Lo, (lack+more-1)/more)
		allowed.Hi = min(allowed.Hi, (left.Hi-l.forRooms(a.least, room+1))/more)
	}
	return allowed
}
