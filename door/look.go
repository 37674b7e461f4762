package door

import (
	"ceroplast/api"
	"ceroplast/check"
)

// look is a book without an error that is looked at.
type look struct{ api.DoBook }

// today is a day of such a book.
type today struct {
	look
	day api.DoDay
}

// open returns the look at a book, or the error of the book.
func open(b api.DoBook) (look, api.Errno) {
	if _, _, e := Check(b); e != api.OK {
		return look{}, e
	}
	return look{b}, api.OK
}

// openDay returns a day of a book, or the error of the book, or ErrNone if there is no such day.
func openDay(b api.DoBook, day int) (today, api.Errno) {
	l, e := open(b)
	if e != api.OK {
		return today{}, e
	}
	if !check.IsIndex(len(l.Days), day) {
		return today{}, api.ErrNone
	}
	return today{l, l.Days[day]}, api.OK
}

// pupils returns how many children schools have together.
func pupils(schools []api.DoSchool) int {
	many := 0
	for _, s := range schools {
		many += s.Children
	}
	return many
}

// half returns what a child pays.
func (l look) half() int { return l.Price / 2 }

// school returns what a school with so many children pays.
func (l look) school(children int) int { return (children - children/api.DoThirteen) * l.half() }

// schools returns what all schools of the day pay.
func (d today) schools() int {
	pence := 0
	for _, s := range d.day.Schools {
		pence += d.school(s.Children)
	}
	return pence
}

// missing returns the day if each counter could miss so many more.
func (d today) missing(more int) today {
	rooms := make([]api.DoCount, len(d.day.Rooms))
	copy(rooms, d.day.Rooms)
	for room := range rooms {
		rooms[room].Miss += more
	}
	d.day.Rooms = rooms
	d.day.Door.Miss += more
	return d
}
