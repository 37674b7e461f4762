package door

import (
	"math"

	"ceroplast/api"
	"ceroplast/sets"
)

// entry is an entry of a day: what it is of, and what it asks of visitors beside all else.
type entry struct {
	of  int
	ask func(a *asked)
}

// asked is what is asked of visitors: how many they are, how many of them are in each room, and how many pence they pay.
type asked struct {
	all         api.Span
	least, most inRooms
	pence       api.Span
}

// leaving is entries that are not looked at, as bits.
type leaving int

func (l leaving) looksAt(entry int) bool { return !sets.Has(int(l), entry) }

// entries returns the entries of the day, in order.
func (d today) entries() []entry {
	list := []entry{{api.DoDoor, func(a *asked) {
		count := d.day.Door
		a.all.Lo = count.Seen
		a.all.Hi = min(a.all.Hi, count.Seen+count.Miss)
	}}}
	for room, count := range d.day.Rooms {
		list = append(list, entry{room, func(a *asked) {
			a.least[room] = count.Seen
			a.most[room] = min(a.most[room], count.Seen+count.Miss)
		}})
	}
	return append(list, entry{api.DoTill, func(a *asked) {
		a.pence = api.Span{Lo: d.day.Taken, Hi: d.day.Taken}
	}})
}

// till returns the index of the entry of Taken.
func (d today) till() int { return len(d.day.Rooms) + 1 }

// asked returns what is asked of any visitors, and by the entries that are looked at.
func (d today) asked(looksAt func(entry int) bool) asked {
	a := asked{
		all:   api.Span{Lo: 0, Hi: api.MaxDoHeads},
		pence: api.Span{Lo: 0, Hi: math.MaxInt},
	}
	for room, r := range d.Rooms {
		a.most[room] = r.Full
	}
	for i, e := range d.entries() {
		if looksAt(i) {
			e.ask(&a)
		}
	}
	return a
}

// inside returns what is left to be asked once so many visitors have paid so much at the door.
func (a asked) inside(all, paid int) asked {
	for room := range a.most {
		a.most[room] = min(a.most[room], all)
	}
	a.pence = minus(a.pence, paid)
	return a
}

func minus(s api.Span, n int) api.Span { return api.Span{Lo: s.Lo - n, Hi: s.Hi - n} }

// wrong returns of what the fewest entries are without which some visitors agree with all others of the day, in order.
func (d today) wrong() []int {
	entries := d.entries()
	fewest := sets.Fewest(len(entries), func(set int) bool { return d.someAgree(leaving(set).looksAt) })
	var wrong []int
	for _, i := range sets.List(fewest) {
		wrong = append(wrong, entries[i].of)
	}
	return wrong
}
