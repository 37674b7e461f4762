package door_test

import (
	"fmt"
	"math"
	"slices"
	"strings"
	"testing"

	"ceroplast/api"
	"ceroplast/door"
)

func count(seen, miss int) api.DoCount { return api.DoCount{Seen: seen, Miss: miss} }

func counts(list ...api.DoCount) []api.DoCount { return list }

func span(lo, hi int) api.Span { return api.Span{Lo: lo, Hi: hi} }

func aRoom(name string, more, full int) api.DoRoom {
	return api.DoRoom{Name: name, More: more, Full: full}
}

// schools are schools of so many children, a, b and c.
func schools(children ...int) []api.DoSchool {
	var list []api.DoSchool
	for i, n := range children {
		list = append(list, api.DoSchool{Name: string(rune('a' + i)), Children: n})
	}
	return list
}

// exampleB is B of the chapter's examples.
func exampleB() api.DoBook {
	return api.DoBook{
		Price: 12,
		Rooms: []api.DoRoom{aRoom("chamber", 6, 20)},
		Days: []api.DoDay{
			{Schools: []api.DoSchool{{Name: "parish", Children: 27}}, Door: count(40, 2), Rooms: counts(count(18, 3)), Taken: 408},
			{Schools: []api.DoSchool{{Name: "north", Children: 14}, {Name: "south", Children: 12}}, Door: count(30, 0), Rooms: counts(count(25, 1)), Taken: 198},
			{Door: count(5, 0), Rooms: counts(count(2, 0)), Taken: 114},
		},
	}
}

// oneDay is a book of one day, whose rooms a, b and c cost 1, 2 and 3 pence more, and hold 10 each.
func oneDay(price, taken int, at api.DoCount, rooms ...api.DoCount) api.DoBook {
	b := api.DoBook{Price: price, Days: []api.DoDay{{Door: at, Rooms: rooms, Taken: taken}}}
	for i := range rooms {
		b.Rooms = append(b.Rooms, aRoom(string(rune('a'+i)), i+1, 10))
	}
	return b
}

// withSchools is a book to whose first day schools come.
func withSchools(b api.DoBook, children ...int) api.DoBook {
	return changed(b, func(b *api.DoBook) { b.Days[0].Schools = schools(children...) })
}

// withRooms is a book whose rooms cost other pence, and hold others.
func withRooms(b api.DoBook, rooms ...api.DoRoom) api.DoBook {
	b.Rooms = rooms
	return b
}

func entries(list ...api.DoEntry) []api.DoEntry { return list }

func wrongIs(day, of int) api.DoEntry { return api.DoEntry{Day: day, Of: of} }

func clone(b api.DoBook) api.DoBook {
	b.Rooms = slices.Clone(b.Rooms)
	b.Days = slices.Clone(b.Days)
	for i := range b.Days {
		b.Days[i].Schools = slices.Clone(b.Days[i].Schools)
		b.Days[i].Rooms = slices.Clone(b.Days[i].Rooms)
	}
	return b
}

// changed is a book that something was done to.
func changed(b api.DoBook, do func(b *api.DoBook)) api.DoBook {
	b = clone(b)
	do(&b)
	return b
}

// change is something that is done to B, and what Check says of it then.
type change struct {
	name     string
	do       func(b *api.DoBook)
	part, at int
	e        api.Errno
}

func (c change) book() api.DoBook { return changed(exampleB(), c.do) }

// outside are numbers that are not from lo to hi.
func outside(lo, hi int) []int { return []int{math.MinInt, lo - 1, hi + 1, math.MaxInt} }

func badPrices() []change {
	changes := []change{
		{"the price before all else", func(b *api.DoBook) { *b = api.DoBook{Rooms: make([]api.DoRoom, 4), Days: make([]api.DoDay, 5)} }, 1, 0, api.ErrRange},
		{"an odd price before rooms", func(b *api.DoBook) { b.Price, b.Rooms = 13, make([]api.DoRoom, 4) }, 1, 0, api.ErrArg},
		{"an odd price out of its range", func(b *api.DoBook) { b.Price = 63 }, 1, 0, api.ErrRange},
		{"an odd price below 0", func(b *api.DoBook) { b.Price = -3 }, 1, 0, api.ErrRange},
	}
	for _, n := range append(outside(2, 60), 0, -2, 62) {
		changes = append(changes, change{fmt.Sprint("price ", n), func(b *api.DoBook) { b.Price = n }, 1, 0, api.ErrRange})
	}
	for _, n := range []int{3, 5, 11, 59} {
		changes = append(changes, change{fmt.Sprint("price ", n), func(b *api.DoBook) { b.Price = n }, 1, 0, api.ErrArg})
	}
	return changes
}

func badRooms() []change {
	changes := []change{
		{"4 rooms", func(b *api.DoBook) {
			b.Rooms = []api.DoRoom{aRoom("a", 1, 1), aRoom("b", 1, 1), aRoom("c", 1, 1), aRoom("d", 1, 1)}
		}, 2, 0, api.ErrLong},
		{"too many rooms before a wrong one", func(b *api.DoBook) { b.Rooms = make([]api.DoRoom, 4) }, 2, 0, api.ErrLong},
		{"too many rooms before days", func(b *api.DoBook) { b.Rooms, b.Days = make([]api.DoRoom, 4), make([]api.DoDay, 5) }, 2, 0, api.ErrLong},
		{"a name", func(b *api.DoBook) { b.Rooms[0].Name = "Chamber" }, 2, 0, api.ErrForm},
		{"no name", func(b *api.DoBook) { b.Rooms[0].Name = "" }, 2, 0, api.ErrForm},
		{"a long name", func(b *api.DoBook) { b.Rooms[0].Name = "abcdefghijklmnopq" }, 2, 0, api.ErrForm},
		{"a name before all else of a room", func(b *api.DoBook) { b.Rooms = append(b.Rooms, aRoom("9", -1, -1)) }, 2, 1, api.ErrForm},
		{"two rooms of one name", func(b *api.DoBook) { b.Rooms = append(b.Rooms, aRoom("chamber", 1, 1)) }, 2, 1, api.ErrTwice},
		{"two rooms of one name before numbers", func(b *api.DoBook) { b.Rooms = append(b.Rooms, aRoom("chamber", -1, -1)) }, 2, 1, api.ErrTwice},
		{"the last and the first room of one name", func(b *api.DoBook) { b.Rooms = append(b.Rooms, aRoom("b", 1, 1), aRoom("chamber", 1, 1)) }, 2, 2, api.ErrTwice},
		{"the first room decides: ErrRange", func(b *api.DoBook) { b.Rooms = []api.DoRoom{aRoom("a", 21, 1), aRoom("", 1, 1)} }, 2, 0, api.ErrRange},
		{"the first room decides: ErrTwice", func(b *api.DoBook) { b.Rooms = []api.DoRoom{aRoom("a", 1, 1), aRoom("a", 1, 1), aRoom("", 1, 1)} }, 2, 1, api.ErrTwice},
		{"a room before days", func(b *api.DoBook) { b.Rooms[0].Full, b.Days = 61, make([]api.DoDay, 5) }, 2, 0, api.ErrRange},
		{"the last room", func(b *api.DoBook) { b.Rooms = []api.DoRoom{aRoom("a", 1, 1), aRoom("b", 1, 1), aRoom("c", 1, -1)} }, 2, 2, api.ErrRange},
	}
	for _, n := range outside(0, 20) {
		changes = append(changes, change{fmt.Sprint("More ", n), func(b *api.DoBook) { b.Rooms[0].More = n }, 2, 0, api.ErrRange})
	}
	for _, n := range outside(0, 60) {
		changes = append(changes, change{fmt.Sprint("Full ", n), func(b *api.DoBook) { b.Rooms[0].Full = n }, 2, 0, api.ErrRange})
	}
	return changes
}

func badSchools() []change {
	changes := []change{
		{"4 schools", func(b *api.DoBook) {
			b.Days[1].Schools = append(schools(1, 1, 1), api.DoSchool{Name: "d", Children: 1})
		}, 3, 1, api.ErrLong},
		{"too many schools before all else", func(b *api.DoBook) { b.Days[1] = api.DoDay{Schools: make([]api.DoSchool, 4), Taken: -1} }, 3, 1, api.ErrLong},
		{"a name", func(b *api.DoBook) { b.Days[1].Schools[1].Name = "South" }, 3, 1, api.ErrForm},
		{"no name", func(b *api.DoBook) { b.Days[0].Schools[0].Name = "" }, 3, 0, api.ErrForm},
		{"a long name", func(b *api.DoBook) { b.Days[0].Schools[0].Name = "abcdefghijklmnopq" }, 3, 0, api.ErrForm},
		{"a name before all else of a school", func(b *api.DoBook) { b.Days[1].Schools[1] = api.DoSchool{} }, 3, 1, api.ErrForm},
		{"two schools of one name", func(b *api.DoBook) { b.Days[1].Schools[1].Name = "north" }, 3, 1, api.ErrTwice},
		{"two schools of one name before children", func(b *api.DoBook) { b.Days[1].Schools[1] = api.DoSchool{Name: "north"} }, 3, 1, api.ErrTwice},
		{"the last and the first school of one name", func(b *api.DoBook) {
			b.Days[2].Schools = schools(1, 1, 1)
			b.Days[2].Schools[2].Name = "a"
		}, 3, 2, api.ErrTwice},
		{"the first school decides: ErrRange", func(b *api.DoBook) { b.Days[1].Schools = append(schools(61), api.DoSchool{}) }, 3, 1, api.ErrRange},
		{"the first school decides: ErrTwice", func(b *api.DoBook) {
			b.Days[1].Schools = append(schools(1), api.DoSchool{Name: "a", Children: 1}, api.DoSchool{})
		}, 3, 1, api.ErrTwice},
		{"a school before all children", func(b *api.DoBook) { b.Days[1].Schools = schools(60, 61) }, 3, 1, api.ErrRange},
		{"a school before rooms", func(b *api.DoBook) { b.Days[1].Schools[0].Children, b.Days[1].Rooms = 0, nil }, 3, 1, api.ErrRange},
		{"61 children together", func(b *api.DoBook) { b.Days[1].Schools = schools(30, 31) }, 3, 1, api.ErrDown},
		{"61 children of three schools", func(b *api.DoBook) { b.Days[1].Schools = schools(20, 20, 21) }, 3, 1, api.ErrDown},
		{"180 children together", func(b *api.DoBook) { b.Days[1].Schools = schools(60, 60, 60) }, 3, 1, api.ErrDown},
		{"all children before rooms", func(b *api.DoBook) { b.Days[1].Schools, b.Days[1].Rooms = schools(60, 1), nil }, 3, 1, api.ErrDown},
		{"all children before counts", func(b *api.DoBook) { b.Days[1].Schools, b.Days[1].Door.Seen = schools(60, 1), 61 }, 3, 1, api.ErrDown},
	}
	for _, n := range append(outside(1, 60), -1) {
		changes = append(changes, change{fmt.Sprint("children ", n), func(b *api.DoBook) { b.Days[1].Schools[1].Children = n }, 3, 1, api.ErrRange})
	}
	return changes
}

func badDays() []change {
	changes := []change{
		{"5 days", func(b *api.DoBook) { b.Days = slices.Repeat(exampleB().Days[2:], 5) }, 3, 0, api.ErrLong},
		{"too many days before a wrong one", func(b *api.DoBook) { b.Days = make([]api.DoDay, 5) }, 3, 0, api.ErrLong},
		{"no rooms", func(b *api.DoBook) { b.Days[2].Rooms = nil }, 3, 2, api.ErrLong},
		{"too many rooms", func(b *api.DoBook) { b.Days[2].Rooms = counts(count(2, 0), count(0, 0)) }, 3, 2, api.ErrLong},
		{"rooms of a book without any", func(b *api.DoBook) { b.Rooms = nil }, 3, 0, api.ErrLong},
		{"too few rooms", func(b *api.DoBook) { b.Rooms = append(b.Rooms, aRoom("a", 1, 1)) }, 3, 0, api.ErrLong},
		{"rooms before counts", func(b *api.DoBook) { b.Days[2] = api.DoDay{Door: count(61, 6), Taken: -1} }, 3, 2, api.ErrLong},
		{"the first day decides: ErrRange", func(b *api.DoBook) { b.Days[0].Taken, b.Days[1].Schools = -1, make([]api.DoSchool, 4) }, 3, 0, api.ErrRange},
		{"the first day decides: ErrLong", func(b *api.DoBook) { b.Days[1].Rooms, b.Days[2].Schools = nil, schools(60, 1) }, 3, 1, api.ErrLong},
		{"the last of the rooms", func(b *api.DoBook) {
			*b = oneDay(2, 0, count(0, 0), count(0, 0), count(0, 0), count(0, 6))
		}, 3, 0, api.ErrRange},
	}
	for _, f := range []struct {
		name   string
		lo, hi int
		of     func(d *api.DoDay) *int
	}{
		{"Seen at the door", 0, 60, func(d *api.DoDay) *int { return &d.Door.Seen }},
		{"Miss at the door", 0, 5, func(d *api.DoDay) *int { return &d.Door.Miss }},
		{"Seen in a room", 0, 60, func(d *api.DoDay) *int { return &d.Rooms[0].Seen }},
		{"Miss in a room", 0, 5, func(d *api.DoDay) *int { return &d.Rooms[0].Miss }},
		{"Taken", 0, 10000, func(d *api.DoDay) *int { return &d.Taken }},
	} {
		for _, n := range outside(f.lo, f.hi) {
			for at := range 3 {
				changes = append(changes, change{fmt.Sprint(f.name, " ", n), func(b *api.DoBook) { *f.of(&b.Days[at]) = n }, 3, at, api.ErrRange})
			}
		}
	}
	return changes
}

func badBooks() []change {
	return slices.Concat(badPrices(), badRooms(), badSchools(), badDays())
}

func goodBooks() []change {
	return []change{
		{name: "the example", do: func(b *api.DoBook) {}},
		{name: "a price alone", do: func(b *api.DoBook) { *b = api.DoBook{Price: 2} }},
		{name: "no days", do: func(b *api.DoBook) { b.Days = nil }},
		{name: "no rooms", do: func(b *api.DoBook) { *b = oneDay(2, 0, count(0, 0)) }},
		{name: "the price 60", do: func(b *api.DoBook) { b.Price = 60 }},
		{name: "the greatest numbers", do: func(b *api.DoBook) {
			b.Price = 60
			b.Rooms = []api.DoRoom{aRoom("abcdefghijklmnop", 20, 60), aRoom("bcdefghijklmnop", 20, 60), aRoom("cdefghijklmnop", 20, 60)}
			b.Days = slices.Repeat([]api.DoDay{{Schools: schools(20, 20, 20), Door: count(60, 5), Rooms: slices.Repeat(counts(count(60, 5)), 3), Taken: 10000}}, 4)
		}},
		{name: "the least numbers", do: func(b *api.DoBook) {
			*b = withSchools(oneDay(2, 0, count(0, 0), count(0, 0)), 1)
			b.Rooms[0] = aRoom("a", 0, 0)
		}},
		{name: "a school of 60 children", do: func(b *api.DoBook) { b.Days[1].Schools = schools(60) }},
		{name: "60 children together", do: func(b *api.DoBook) { b.Days[1].Schools = schools(29, 31) }},
		{name: "more in a room than it holds", do: func(b *api.DoBook) { b.Days[1].Rooms[0].Seen = 60 }},
		{name: "fewer at the door than pupils", do: func(b *api.DoBook) { b.Days[0].Door.Seen = 0 }},
		{name: "the same school on two days", do: func(b *api.DoBook) { b.Days[2].Schools = b.Days[0].Schools }},
		{name: "a school with the name of a room", do: func(b *api.DoBook) { b.Days[1].Schools[0].Name = "chamber" }},
		{name: "the same day twice", do: func(b *api.DoBook) { b.Days[1] = b.Days[0] }},
	}
}

func TestP8_1Check(t *testing.T) {
	for _, c := range slices.Concat(badBooks(), goodBooks()) {
		if part, at, e := door.Check(c.book()); part != c.part || at != c.at || e != c.e {
			t.Errorf("%s: Check = %d, %d, %d, not %d, %d, %d", c.name, part, at, e, c.part, c.at, c.e)
		}
	}
}

// callAll calls every function, and returns all results as a text, and all errors of those that are not of Check.
func callAll(b api.DoBook, day, room, children int) (string, []api.Errno) {
	var out []any
	call := func(results ...any) { out = append(out, results...) }
	call(door.Check(b))
	checks := len(out)
	call(door.School(b, children))
	call(door.Together(b, day))
	call(door.Could(b, day))
	call(door.First(b, day))
	call(door.Visitors(b, day))
	call(door.Room(b, day, room))
	call(door.Split(b, day))
	call(door.Missed(b, day))
	call(door.Wrong(b))
	var errors []api.Errno
	for _, result := range out[checks:] {
		if e, isErrno := result.(api.Errno); isErrno {
			errors = append(errors, e)
		}
	}
	return fmt.Sprint(out...), errors
}

// checkZero checks that the functions that take a day have this error, and no other result.
func checkZero(t *testing.T, name string, b api.DoBook, day, room int, want api.Errno) {
	t.Helper()
	apart, together, e1 := door.Together(b, day)
	could, e2 := door.Could(b, day)
	first, many, e3 := door.First(b, day)
	adults, children, e4 := door.Visitors(b, day)
	in, e5 := door.Room(b, day, room)
	split, e6 := door.Split(b, day)
	missed, e7 := door.Missed(b, day)
	for i, e := range []api.Errno{e1, e2, e3, e4, e5, e6, e7} {
		if e != want {
			t.Errorf("%s: function %d returns %d, not %d", name, i, e, want)
		}
	}
	numbers := slices.Concat([]int{apart, together, many, first.Adults, first.Children, len(first.Rooms), missed}, split[:])
	spans := []api.Span{could, adults, children, in}
	if slices.ContainsFunc(numbers, func(n int) bool { return n != 0 }) || slices.ContainsFunc(spans, func(s api.Span) bool { return s != span(0, 0) }) {
		t.Errorf("%s: a result beside the error", name)
	}
}

func TestErrorOfTheBookComesFirst(t *testing.T) {
	for _, c := range badBooks() {
		b := c.book()
		for _, day := range []int{0, -1} {
			checkZero(t, c.name, b, day, day, c.e)
		}
		for _, children := range []int{3, -1} {
			if pence, e := door.School(b, children); pence != 0 || e != c.e {
				t.Errorf("%s: School = %d, %d", c.name, pence, e)
			}
		}
		if wrong, e := door.Wrong(b); len(wrong) > 0 || e != c.e {
			t.Errorf("%s: Wrong = %v, %d", c.name, wrong, e)
		}
	}
}

func TestNoSuchDay(t *testing.T) {
	for _, day := range outside(0, 2) {
		checkZero(t, fmt.Sprint("day ", day), exampleB(), day, 0, api.ErrNone)
		checkZero(t, fmt.Sprint("day ", day, " and room 9"), exampleB(), day, 9, api.ErrNone)
	}
	checkZero(t, "no days", api.DoBook{Price: 2}, 0, 0, api.ErrNone)
}

// TestNobodyExplains is of the error behind all others of First, Visitors, Room and Split.
func TestNobodyExplains(t *testing.T) {
	for day := 1; day <= 2; day++ {
		first, many, e1 := door.First(exampleB(), day)
		adults, children, e2 := door.Visitors(exampleB(), day)
		in, e3 := door.Room(exampleB(), day, 0)
		split, e4 := door.Split(exampleB(), day)
		for i, e := range []api.Errno{e1, e2, e3, e4} {
			if e != api.ErrZero {
				t.Errorf("day %d: function %d returns %d", day, i, e)
			}
		}
		if first.Adults+first.Children+len(first.Rooms)+many != 0 || adults != span(0, 0) || children != span(0, 0) || in != span(0, 0) || split != [4]int{} {
			t.Errorf("day %d: a result beside the error", day)
		}
	}
	for _, day := range []int{0, 1} {
		for _, room := range outside(0, 0) {
			if in, e := door.Room(exampleB(), day, room); in != span(0, 0) || e != api.ErrNone {
				t.Errorf("day %d: Room of %d = %v, %d", day, room, in, e)
			}
		}
	}
}

func TestP8_2School(t *testing.T) {
	for i, c := range []struct {
		price, children, want int
		e                     api.Errno
	}{
		{12, 12, 72, api.OK},
		{12, 13, 72, api.OK},
		{12, 27, 150, api.OK},
		{12, 0, 0, api.OK},
		{12, 1, 6, api.OK},
		{12, 14, 78, api.OK},
		{12, 25, 144, api.OK},
		{12, 26, 144, api.OK},
		{12, 39, 216, api.OK},
		{12, 52, 288, api.OK},
		{12, 60, 336, api.OK},
		{2, 13, 12, api.OK},
		{2, 60, 56, api.OK},
		{60, 1, 30, api.OK},
		{60, 60, 1680, api.OK},
		{12, -1, 0, api.ErrRange},
		{12, 61, 0, api.ErrRange},
		{12, math.MinInt, 0, api.ErrRange},
		{12, math.MaxInt, 0, api.ErrRange},
	} {
		if got, e := door.School(api.DoBook{Price: c.price}, c.children); got != c.want || e != c.e {
			t.Errorf("%d: School of %d = %d, %d", i, c.children, got, e)
		}
	}
}

func TestP8_2Together(t *testing.T) {
	empty := oneDay(10, 0, count(0, 0))
	for i, c := range []struct {
		b               api.DoBook
		day             int
		apart, together int
	}{
		{exampleB(), 0, 150, 150},
		{exampleB(), 1, 150, 144},
		{exampleB(), 2, 0, 0},
		{empty, 0, 0, 0},
		{withSchools(empty, 13), 0, 60, 60},
		{withSchools(empty, 12, 1), 0, 65, 60},
		{withSchools(empty, 12, 12, 12), 0, 180, 170},
		{withSchools(empty, 13, 13, 13), 0, 180, 180},
		{withSchools(empty, 12, 12, 15), 0, 5 * (12 + 12 + 14), 180},
		{withSchools(empty, 20, 20, 20), 0, 285, 280},
		{withSchools(empty, 60), 0, 280, 280},
	} {
		if apart, together, e := door.Together(c.b, c.day); apart != c.apart || together != c.together || e != api.OK {
			t.Errorf("%d: Together = %d, %d, %d, not %d, %d", i, apart, together, e, c.apart, c.together)
		}
	}
}

func TestP8_3Could(t *testing.T) {
	for i, c := range []struct {
		b    api.DoBook
		day  int
		want api.Span
		e    api.Errno
	}{
		{exampleB(), 0, span(336, 450), api.OK},
		{exampleB(), 1, span(0, 0), api.ErrZero},
		{exampleB(), 2, span(42, 72), api.OK},
		{oneDay(10, 0, count(0, 0)), 0, span(0, 0), api.OK},
		{oneDay(10, 9999, count(0, 0)), 0, span(0, 0), api.OK},
		{oneDay(10, 0, count(4, 0)), 0, span(20, 40), api.OK},
		{oneDay(10, 0, count(4, 3)), 0, span(20, 70), api.OK},
		{oneDay(10, 0, count(60, 0)), 0, span(300, 600), api.OK},
		// no more than 60, and no more in a room than it holds, or there are
		{oneDay(10, 0, count(58, 5)), 0, span(290, 600), api.OK},
		{oneDay(10, 0, count(20, 0), count(8, 5)), 0, span(108, 210), api.OK},
		{oneDay(10, 0, count(9, 0), count(8, 5)), 0, span(53, 99), api.OK},
		{oneDay(10, 0, count(9, 1), count(8, 5)), 0, span(53, 110), api.OK},
		{oneDay(10, 0, count(20, 0), count(10, 0)), 0, span(110, 210), api.OK},
		{oneDay(10, 0, count(20, 0), count(11, 0)), 0, span(0, 0), api.ErrZero},
		{oneDay(10, 0, count(9, 0), count(9, 0)), 0, span(54, 99), api.OK},
		{oneDay(10, 0, count(8, 0), count(9, 0)), 0, span(0, 0), api.ErrZero},
		{oneDay(10, 0, count(8, 1), count(9, 0)), 0, span(54, 99), api.OK},
		{oneDay(10, 0, count(8, 0), count(2, 0), count(3, 0), count(9, 0)), 0, span(0, 0), api.ErrZero},
		{oneDay(10, 0, count(8, 0), count(2, 1), count(3, 1), count(4, 1)), 0, span(40+20, 80+26), api.OK},
		{withRooms(oneDay(10, 0, count(8, 0), count(0, 5)), aRoom("a", 0, 10)), 0, span(40, 80), api.OK},
		{withRooms(oneDay(10, 0, count(8, 0), count(0, 5)), aRoom("a", 20, 0)), 0, span(40, 80), api.OK},
		// pupils are visitors, at the door and in rooms
		{withSchools(oneDay(10, 0, count(13, 0)), 13), 0, span(60, 60), api.OK},
		{withSchools(oneDay(10, 0, count(12, 0)), 13), 0, span(0, 0), api.ErrZero},
		{withSchools(oneDay(10, 0, count(12, 1)), 13), 0, span(60, 60), api.OK},
		{withSchools(oneDay(10, 0, count(11, 3)), 13), 0, span(60, 70), api.OK},
		{withSchools(oneDay(10, 0, count(14, 0), count(9, 5)), 12, 1), 0, span(5*13+5+9, 5*13+10+10), api.OK},
		{withSchools(oneDay(10, 0, count(3, 0), count(3, 0)), 3), 0, span(18, 18), api.OK},
		{withSchools(oneDay(10, 0, count(60, 5)), 60), 0, span(280, 280), api.OK},
		{withSchools(oneDay(10, 0, count(0, 5)), 60), 0, span(0, 0), api.ErrZero},
	} {
		if got, e := door.Could(c.b, c.day); got != c.want || e != c.e {
			t.Errorf("%d: Could = %v, %d, not %v, %d", i, got, e, c.want, c.e)
		}
	}
}

// found is what First, Visitors, Room of each room, and Split say of a day.
type found struct {
	first            api.DoTruth
	many             int
	adults, children api.Span
	in               []api.Span
	split            [4]int
}

func who(adults, children int, rooms ...int) api.DoTruth {
	return api.DoTruth{Adults: adults, Children: children, Rooms: rooms}
}

func sameTruth(a, b api.DoTruth) bool {
	return a.Adults == b.Adults && a.Children == b.Children && slices.Equal(a.Rooms, b.Rooms)
}

func TestP8_4P8_5Explain(t *testing.T) {
	for i, c := range []struct {
		b    api.DoBook
		want found
	}{
		{exampleB(), found{who(8, 7, 20), 9, span(8, 12), span(1, 7), []api.Span{span(18, 20)}, [4]int{96, 42, 150, 120}}},
		// nobody came
		{oneDay(10, 0, count(0, 0)), found{who(0, 0), 1, span(0, 0), span(0, 0), nil, [4]int{}}},
		{oneDay(10, 0, count(0, 5), count(0, 5)), found{who(0, 0, 0), 1, span(0, 0), span(0, 0), []api.Span{span(0, 0)}, [4]int{}}},
		// without rooms
		{oneDay(10, 50, count(7, 0)), found{who(3, 4), 1, span(3, 3), span(4, 4), nil, [4]int{30, 20}}},
		{oneDay(10, 50, count(5, 5)), found{who(0, 10), 6, span(0, 5), span(0, 10), nil, [4]int{0, 50}}},
		{oneDay(10, 50, count(6, 3)), found{who(1, 8), 4, span(1, 4), span(2, 8), nil, [4]int{10, 40}}},
		{oneDay(2, 118, count(56, 4)), found{who(58, 2), 2, span(58, 59), span(0, 2), nil, [4]int{116, 2}}},
		// schools
		{withSchools(oneDay(10, 60, count(13, 0)), 13), found{who(0, 0), 1, span(0, 0), span(0, 0), nil, [4]int{0, 0, 60}}},
		{withSchools(oneDay(10, 80, count(14, 1)), 12, 1), found{who(1, 1), 1, span(1, 1), span(1, 1), nil, [4]int{10, 5, 65}}},
		{withSchools(oneDay(10, 75, count(12, 3)), 12, 1), found{who(0, 2), 2, span(0, 1), span(0, 2), nil, [4]int{0, 10, 65}}},
		{withSchools(oneDay(60, 1680, count(60, 5)), 60), found{who(0, 0), 1, span(0, 0), span(0, 0), nil, [4]int{0, 0, 1680}}},
		// a room for nothing, with any number in it
		{withRooms(oneDay(10, 20, count(3, 0), count(0, 5)), aRoom("a", 0, 2)), found{who(1, 2, 0), 3, span(1, 1), span(2, 2), []api.Span{span(0, 2)}, [4]int{10, 10}}},
		{withRooms(oneDay(10, 20, count(3, 0), count(2, 5)), aRoom("a", 0, 60)), found{who(1, 2, 2), 2, span(1, 1), span(2, 2), []api.Span{span(2, 3)}, [4]int{10, 10}}},
		{withRooms(oneDay(10, 21, count(2, 2), count(0, 2), count(0, 2)), aRoom("a", 1, 60), aRoom("b", 0, 1)), found{who(0, 4, 1, 0), 6, span(0, 2), span(0, 4), []api.Span{span(1, 1), span(0, 1)}, [4]int{0, 20, 0, 1}}},
		{withRooms(oneDay(10, 21, count(2, 2), count(0, 2), count(0, 2)), aRoom("a", 0, 1), aRoom("b", 1, 60)), found{who(0, 4, 0, 1), 6, span(0, 2), span(0, 4), []api.Span{span(0, 1), span(1, 1)}, [4]int{0, 20, 0, 1}}},
		// a room with a school alone in it
		{withSchools(oneDay(10, 18, count(3, 0), count(3, 0)), 3), found{who(0, 0, 3), 1, span(0, 0), span(0, 0), []api.Span{span(3, 3)}, [4]int{0, 0, 15, 3}}},
		// pence in one room or in another one
		{oneDay(10, 13, count(2, 0), count(0, 2), count(0, 2)), found{who(0, 2, 1, 1), 1, span(0, 0), span(2, 2), []api.Span{span(1, 1), span(1, 1)}, [4]int{0, 10, 0, 3}}},
		{oneDay(10, 12, count(2, 0), count(0, 2), count(0, 2)), found{who(0, 2, 0, 1), 2, span(0, 0), span(2, 2), []api.Span{span(0, 2), span(0, 1)}, [4]int{0, 10, 0, 2}}},
		{oneDay(10, 18, count(2, 1), count(0, 3), count(0, 3), count(0, 3)), found{who(0, 2, 0, 1, 2), 8, span(0, 1), span(1, 3), []api.Span{span(0, 3), span(0, 2), span(0, 2)}, [4]int{0, 10, 0, 8}}},
	} {
		first, many, e1 := door.First(c.b, 0)
		adults, children, e2 := door.Visitors(c.b, 0)
		split, e3 := door.Split(c.b, 0)
		if !sameTruth(first, c.want.first) || many != c.want.many || e1 != api.OK {
			t.Errorf("%d: First = %v, %d, %d", i, first, many, e1)
		}
		if adults != c.want.adults || children != c.want.children || e2 != api.OK {
			t.Errorf("%d: Visitors = %v, %v, %d", i, adults, children, e2)
		}
		if split != c.want.split || e3 != api.OK {
			t.Errorf("%d: Split = %v, %d", i, split, e3)
		}
		for room, want := range c.want.in {
			if in, e := door.Room(c.b, 0, room); in != want || e != api.OK {
				t.Errorf("%d: Room of %d = %v, %d", i, room, in, e)
			}
		}
		for _, room := range outside(0, len(c.want.in)-1) {
			if in, e := door.Room(c.b, 0, room); in != span(0, 0) || e != api.ErrNone {
				t.Errorf("%d: Room of %d = %v, %d", i, room, in, e)
			}
		}
	}
}

// tens is a day on which nobody was counted at the door, and whoever comes pays tens of pence. Three large rooms have this count.
func tens(taken int, rooms api.DoCount) api.DoBook {
	b := oneDay(60, taken, count(0, 0), rooms, rooms, rooms)
	return withRooms(b, aRoom("a", 20, 60), aRoom("b", 20, 60), aRoom("c", 20, 60))
}

func TestP8_6Missed(t *testing.T) {
	for i, c := range []struct {
		b    api.DoBook
		day  int
		want int
		e    api.Errno
	}{
		{exampleB(), 0, 0, api.OK},
		{exampleB(), 1, 0, api.ErrDown},
		{exampleB(), 2, 3, api.OK},
		{oneDay(10, 0, count(0, 0)), 0, 0, api.OK},
		{oneDay(10, 5, count(0, 0)), 0, 1, api.OK},
		{oneDay(10, 10, count(0, 0)), 0, 1, api.OK},
		{oneDay(10, 11, count(0, 0)), 0, 0, api.ErrDown},
		{oneDay(10, 15, count(0, 0)), 0, 2, api.OK},
		{oneDay(10, 15, count(0, 1)), 0, 1, api.OK},
		{oneDay(10, 15, count(0, 2)), 0, 0, api.OK},
		// more than 5, and as many as there can be
		{oneDay(10, 595, count(0, 0)), 0, 60, api.OK},
		{oneDay(10, 600, count(0, 0)), 0, 60, api.OK},
		{oneDay(10, 600, count(0, 5)), 0, 55, api.OK},
		{oneDay(10, 600, count(59, 0)), 0, 1, api.OK},
		{oneDay(10, 605, count(0, 0)), 0, 0, api.ErrDown},
		{oneDay(10, 10000, count(60, 5)), 0, 0, api.ErrDown},
		// too little was taken
		{oneDay(10, 10, count(3, 5)), 0, 0, api.ErrDown},
		{oneDay(10, 15, count(3, 5)), 0, 0, api.OK},
		{oneDay(10, 14, count(2, 0), count(2, 0)), 0, 0, api.ErrDown},
		// counters in rooms miss as many more as that at the door
		{oneDay(10, 15, count(2, 0), count(0, 0)), 0, 0, api.OK},
		{oneDay(10, 16, count(2, 0), count(0, 0)), 0, 1, api.OK},
		{oneDay(10, 18, count(2, 0), count(0, 0)), 0, 3, api.OK},
		{oneDay(10, 18, count(2, 0), count(1, 0)), 0, 2, api.OK},
		{oneDay(10, 18, count(2, 0), count(0, 1)), 0, 2, api.OK},
		{oneDay(10, 18, count(2, 0), count(3, 0)), 0, 1, api.OK},
		{oneDay(10, 18, count(2, 1), count(3, 0)), 0, 0, api.OK},
		{oneDay(10, 13, count(2, 0), count(1, 0)), 0, 0, api.ErrDown},
		{oneDay(10, 13, count(2, 0), count(1, 0), count(0, 0)), 0, 1, api.OK},
		// rooms hold no more for it
		{oneDay(10, 65, count(11, 0), count(8, 0)), 0, 2, api.OK},
		{oneDay(10, 66, count(11, 0), count(8, 0)), 0, 0, api.ErrDown},
		{oneDay(10, 66, count(11, 0), count(11, 0)), 0, 0, api.ErrDown},
		{oneDay(10, 66, count(11, 0), count(5, 0)), 0, 1, api.OK},
		// pupils were at the door, too
		{withSchools(oneDay(10, 60, count(10, 0)), 13), 0, 3, api.OK},
		{withSchools(oneDay(10, 60, count(10, 3)), 13), 0, 0, api.OK},
		{withSchools(oneDay(10, 60, count(0, 0)), 13), 0, 13, api.OK},
		{withSchools(oneDay(10, 55, count(10, 0)), 13), 0, 0, api.ErrDown},
		{withSchools(oneDay(60, 1680, count(0, 0)), 60), 0, 60, api.OK},
		{tens(7, count(0, 0)), 0, 0, api.ErrDown},
		{tens(3601, count(0, 0)), 0, 0, api.ErrDown},
		{tens(7200, count(0, 0)), 0, 60, api.OK},
	} {
		if got, e := door.Missed(c.b, c.day); got != c.want || e != c.e {
			t.Errorf("%d: Missed = %d, %d, not %d, %d", i, got, e, c.want, c.e)
		}
	}
}

func TestP8_7Wrong(t *testing.T) {
	const atDoor, till = api.DoDoor, api.DoTill
	tensDays := tens(7, count(0, 0))
	tensDays.Days = slices.Repeat(tensDays.Days, 4)
	for i, c := range []struct {
		b    api.DoBook
		want []api.DoEntry
	}{
		{exampleB(), entries(wrongIs(1, 0), wrongIs(2, atDoor))},
		{api.DoBook{Price: 2}, nil},
		{oneDay(10, 0, count(0, 0)), nil},
		{oneDay(10, 50, count(7, 0)), nil},
		// of two that can be wrong, the first one is
		{oneDay(10, 50, count(4, 0)), entries(wrongIs(0, atDoor))},
		{oneDay(10, 50, count(11, 0)), entries(wrongIs(0, atDoor))},
		{oneDay(10, 41, count(4, 0), count(2, 0)), entries(wrongIs(0, 0))},
		{oneDay(10, 42, count(4, 0), count(0, 0), count(0, 0)), entries(wrongIs(0, 0))},
		{oneDay(10, 42, count(4, 0), count(1, 0), count(0, 0)), entries(wrongIs(0, 0))},
		{oneDay(10, 45, count(4, 0), count(5, 0)), entries(wrongIs(0, atDoor))},
		// one of them has to be
		{oneDay(10, 51, count(4, 0)), entries(wrongIs(0, till))},
		{oneDay(10, 605, count(60, 0)), entries(wrongIs(0, till))},
		{oneDay(10, 0, count(1, 0)), entries(wrongIs(0, atDoor))},
		{oneDay(10, 31, count(4, 0), count(11, 0)), entries(wrongIs(0, 0))},
		{oneDay(10, 43, count(4, 0), count(0, 0), count(0, 0), count(0, 0)), entries(wrongIs(0, 0))},
		{oneDay(10, 44, count(4, 0), count(2, 0), count(0, 0), count(0, 0)), entries(wrongIs(0, 0))},
		{oneDay(10, 36, count(4, 0), count(2, 0), count(2, 0), count(11, 0)), entries(wrongIs(0, 2))},
		// two of them have to be
		{oneDay(10, 46, count(4, 0), count(5, 0)), entries(wrongIs(0, atDoor), wrongIs(0, 0))},
		{oneDay(10, 10, count(2, 0), count(11, 0), count(11, 0)), entries(wrongIs(0, 0), wrongIs(0, 1))},
		{oneDay(10, 3, count(4, 0), count(11, 0)), entries(wrongIs(0, 0), wrongIs(0, till))},
		{oneDay(10, 605, count(60, 0), count(11, 0)), entries(wrongIs(0, 0))},
		{oneDay(10, 611, count(60, 0), count(11, 0)), entries(wrongIs(0, 0), wrongIs(0, till))},
		// all but one of them have to be
		{oneDay(10, 3, count(4, 0), count(11, 0), count(11, 0), count(11, 0)), entries(wrongIs(0, 0), wrongIs(0, 1), wrongIs(0, 2), wrongIs(0, till))},
		// schools are no entries: they came
		{withSchools(oneDay(10, 10, count(2, 0)), 3), entries(wrongIs(0, atDoor), wrongIs(0, till))},
		{withSchools(oneDay(10, 15, count(2, 0)), 3), entries(wrongIs(0, atDoor))},
		{withSchools(oneDay(10, 10, count(3, 0)), 3), entries(wrongIs(0, till))},
		{withSchools(oneDay(10, 0, count(0, 0)), 60), entries(wrongIs(0, atDoor), wrongIs(0, till))},
		{tensDays, entries(wrongIs(0, till), wrongIs(1, till), wrongIs(2, till), wrongIs(3, till))},
		{tens(7200, count(0, 0)), entries(wrongIs(0, till))},
		{tens(60, count(0, 0)), entries(wrongIs(0, atDoor))},
		{tens(60, count(1, 0)), entries(wrongIs(0, atDoor), wrongIs(0, till))},
		{tens(90, count(1, 0)), entries(wrongIs(0, atDoor))},
		{tens(70, count(1, 0)), entries(wrongIs(0, atDoor), wrongIs(0, 0))},
	} {
		if got, e := door.Wrong(c.b); !slices.Equal(got, c.want) || e != api.OK {
			t.Errorf("%d: Wrong = %v, %d, not %v", i, got, e, c.want)
		}
	}
}

// oddBooks are B with something odd about it, in all that n can be.
func oddBooks(n int) []api.DoBook {
	many := max(0, min(n, 1001))
	var books []api.DoBook
	for _, do := range []func(b *api.DoBook){
		func(b *api.DoBook) { b.Price = n },
		func(b *api.DoBook) { b.Rooms = make([]api.DoRoom, many) },
		func(b *api.DoBook) { b.Rooms[0].Name = strings.Repeat("a", many) },
		func(b *api.DoBook) { b.Rooms[0].More = n },
		func(b *api.DoBook) { b.Rooms[0].Full = n },
		func(b *api.DoBook) { b.Days = make([]api.DoDay, many) },
		func(b *api.DoBook) { b.Days = b.Days[:min(many, 3)] },
		func(b *api.DoBook) { b.Days[0].Schools = make([]api.DoSchool, many) },
		func(b *api.DoBook) { b.Days[0].Schools[0].Name = strings.Repeat("\xff", many) },
		func(b *api.DoBook) { b.Days[1].Schools[1].Children = n },
		func(b *api.DoBook) { b.Days[0].Rooms = make([]api.DoCount, many) },
		func(b *api.DoBook) { b.Days[0].Rooms[0].Seen = n },
		func(b *api.DoBook) { b.Days[0].Rooms[0].Miss = n },
		func(b *api.DoBook) { b.Days[2].Door.Seen = n },
		func(b *api.DoBook) { b.Days[2].Door.Miss = n },
		func(b *api.DoBook) { b.Days[2].Taken = n },
	} {
		books = append(books, change{do: do}.book())
	}
	return books
}

func TestP8_15AnyArguments(t *testing.T) {
	odd := []int{math.MinInt, -2, -1, 0, 1, 2, 3, 4, 5, 6, 13, 20, 27, 60, 61, 10000, 10001, math.MaxInt}
	books := []api.DoBook{{}, {Price: 2, Rooms: make([]api.DoRoom, 1000), Days: make([]api.DoDay, 1000)}, exampleB()}
	for _, n := range odd {
		books = append(books, oddBooks(n)...)
	}
	for _, b := range books {
		before := fmt.Sprint(b)
		for _, n := range odd {
			first, errors := callAll(b, n, n, n)
			if again, _ := callAll(b, n, n, n); again != first {
				t.Fatalf("%v, %d: %s, and then %s", b, n, first, again)
			}
			if len(errors) != 9 {
				t.Fatalf("%v, %d: %v", b, n, errors)
			}
			callAll(b, 0, n, n)
		}
		if fmt.Sprint(b) != before {
			t.Errorf("%s was modified: %v", before, b)
		}
	}
}

func TestP8_15NewMemory(t *testing.T) {
	b := exampleB()
	// An argument has room behind its end, which is not to be written to, either.
	b.Days[0].Rooms = append(make([]api.DoCount, 0, 4), b.Days[0].Rooms...)
	behind := b.Days[0].Rooms[:4]
	before := fmt.Sprint(b, behind)
	text, _ := callAll(b, 0, 0, 13)
	first, _, _ := door.First(b, 0)
	wrong, _ := door.Wrong(b)
	if len(first.Rooms) != 1 || len(wrong) != 2 {
		t.Fatalf("First = %v, Wrong = %v", first, wrong)
	}
	first.Rooms[0], wrong[0], wrong[1] = 9, wrongIs(9, 9), wrongIs(9, 9)
	_ = append(wrong[:0], wrongIs(7, 7))
	_ = append(first.Rooms[:0], 7, 7)
	if again, _ := callAll(b, 0, 0, 13); again != text || fmt.Sprint(b, behind) != before {
		t.Error("a result shares memory with an argument, or is kept")
	}
	b.Days[0].Rooms[0].Seen = 20
	if got, _ := door.Room(b, 0, 0); got != span(20, 20) {
		t.Errorf("Room of another book = %v", got)
	}
}

func TestP8_15NilAndEmpty(t *testing.T) {
	none := oneDay(10, 50, count(7, 0))
	empty := changed(none, func(b *api.DoBook) {
		b.Rooms = []api.DoRoom{}
		b.Days[0].Rooms, b.Days[0].Schools = []api.DoCount{}, []api.DoSchool{}
	})
	a, _ := callAll(none, 0, 0, 3)
	if b, _ := callAll(empty, 0, 0, 3); a != b {
		t.Errorf("%s, and %s", a, b)
	}
	a, _ = callAll(api.DoBook{Price: 2}, 0, 0, 3)
	if b, _ := callAll(api.DoBook{Price: 2, Rooms: []api.DoRoom{}, Days: []api.DoDay{}}, 0, 0, 3); a != b {
		t.Errorf("%s, and %s", a, b)
	}
}
