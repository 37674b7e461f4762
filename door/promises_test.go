package door_test

import (
	"cmp"
	"fmt"
	"iter"
	"math/rand"
	"slices"
	"testing"

	"ceroplast/api"
	"ceroplast/door"
)

// The definitions, word by word.

// schoolPays charges half the price for each child but every thirteenth one.
func schoolPays(b api.DoBook, children int) int {
	pence := 0
	for child := 1; child <= children; child++ {
		if child%13 != 0 {
			pence += b.Price / 2
		}
	}
	return pence
}

func pupilsOf(d api.DoDay) int {
	many := 0
	for _, s := range d.Schools {
		many += s.Children
	}
	return many
}

// partsOf returns what visitors pay for adults, for children, for schools and for rooms.
func partsOf(b api.DoBook, d api.DoDay, v api.DoTruth) [4]int {
	parts := [4]int{b.Price * v.Adults, b.Price / 2 * v.Children}
	for _, s := range d.Schools {
		parts[2] += schoolPays(b, s.Children)
	}
	for room, n := range v.Rooms {
		parts[3] += b.Rooms[room].More * n
	}
	return parts
}

func paidBy(b api.DoBook, d api.DoDay, v api.DoTruth) int {
	parts := partsOf(b, d, v)
	return parts[0] + parts[1] + parts[2] + parts[3]
}

// visitorsOf yields all visitors that there can be on a day, in order; each time in the same memory.
func visitorsOf(b api.DoBook, d api.DoDay) iter.Seq[api.DoTruth] {
	return func(yield func(api.DoTruth) bool) {
		v := api.DoTruth{Rooms: make([]int, len(b.Rooms))}
		var enter func(room, all int) bool
		enter = func(room, all int) bool {
			if room == len(b.Rooms) {
				return yield(v)
			}
			for n := 0; n <= b.Rooms[room].Full && n <= all; n++ {
				v.Rooms[room] = n
				if !enter(room+1, all) {
					return false
				}
			}
			return true
		}
		single := api.MaxDoHeads - pupilsOf(d)
		for v.Adults = 0; v.Adults <= single; v.Adults++ {
			for v.Children = 0; v.Adults+v.Children <= single; v.Children++ {
				if !enter(0, v.Adults+v.Children+pupilsOf(d)) {
					return
				}
			}
		}
	}
}

// entriesOf returns of what the entries of a day are, in order.
func entriesOf(b api.DoBook) []int {
	list := []int{api.DoDoor}
	for room := range b.Rooms {
		list = append(list, room)
	}
	return append(list, api.DoTill)
}

// counted returns the count of the door, or of a room, and how many visitors were there.
func counted(d api.DoDay, v api.DoTruth, of int) (api.DoCount, int) {
	if of == api.DoDoor {
		return d.Door, v.Adults + v.Children + pupilsOf(d)
	}
	return d.Rooms[of], v.Rooms[of]
}

func agrees(b api.DoBook, d api.DoDay, v api.DoTruth, of int) bool {
	if of == api.DoTill {
		return paidBy(b, d, v) == d.Taken
	}
	c, n := counted(d, v, of)
	return n >= c.Seen && n <= c.Seen+c.Miss
}

// against returns with what entries visitors do not agree, as bits of their indices.
func against(b api.DoBook, d api.DoDay, v api.DoTruth, entries []int) int {
	set := 0
	for i, of := range entries {
		if !agrees(b, d, v, of) {
			set += 1 << i
		}
	}
	return set
}

// lacking returns how many more each counter would have to miss so that visitors agree with all counts, or -1 if no number does.
func lacking(d api.DoDay, v api.DoTruth, entries []int) int {
	more := 0
	for _, of := range entries {
		if of == api.DoTill {
			continue
		}
		c, n := counted(d, v, of)
		if n < c.Seen {
			return -1
		}
		more = max(more, n-c.Seen-c.Miss)
	}
	return more
}

// reference is what all visitors that there can be say of a day.
type reference struct {
	entries []int         // of what they are
	pence   []int         // that those pay who agree with all counts
	explain []api.DoTruth // the day
	lacking []int         // of those who pay what was taken
	against map[int]bool  // with what entries some do not agree
}

func referenceOf(b api.DoBook, d api.DoDay) reference {
	r := reference{entries: entriesOf(b), against: map[int]bool{}}
	till := 1 << (len(r.entries) - 1)
	for v := range visitorsOf(b, d) {
		wrong := against(b, d, v, r.entries)
		r.against[wrong] = true
		if more := lacking(d, v, r.entries); more >= 0 && wrong&till == 0 {
			r.lacking = append(r.lacking, more)
		}
		if wrong == 0 {
			r.explain = append(r.explain, api.DoTruth{Adults: v.Adults, Children: v.Children, Rooms: slices.Clone(v.Rooms)})
		}
		if wrong == 0 || wrong == till {
			r.pence = append(r.pence, paidBy(b, d, v))
		}
	}
	return r
}

// does reports whether some visitors agree with all entries but these.
func (r reference) does(without []int) bool {
	set := 0
	for _, of := range without {
		set += 1 << slices.Index(r.entries, of)
	}
	for wrong := range r.against {
		if wrong&^set == 0 {
			return true
		}
	}
	return false
}

// listsOf returns all lists of some of these things, in their order: those with fewer things first, then compared thing by thing.
func listsOf[T any](things []T, compare func(a, b T) int) [][]T {
	lists := [][]T{nil}
	for _, thing := range things {
		for _, list := range slices.Clone(lists) {
			lists = append(lists, append(slices.Clone(list), thing))
		}
	}
	slices.SortFunc(lists, func(a, b []T) int {
		return cmp.Or(cmp.Compare(len(a), len(b)), slices.CompareFunc(a, b, compare))
	})
	return lists
}

// wrong returns the first of the fewest entries without which some visitors agree with all others.
func (r reference) wrong() []int {
	lists := listsOf(r.entries, cmp.Compare[int])
	return lists[slices.IndexFunc(lists, r.does)]
}

func spanOf(numbers []int) api.Span { return span(slices.Min(numbers), slices.Max(numbers)) }

// of returns a number of each of those who explain the day.
func (r reference) of(number func(v api.DoTruth) int) []int {
	var numbers []int
	for _, v := range r.explain {
		numbers = append(numbers, number(v))
	}
	return numbers
}

// roomsOf are so many rooms, the smaller the more there are.
func roomsOf(r *rand.Rand, many int) []api.DoRoom {
	full := []int{0, 60, 14, 5}[many]
	var rooms []api.DoRoom
	for i := range many {
		more := r.Intn(api.MaxDoMore + 1)
		if r.Intn(4) == 0 {
			more = r.Intn(3)
		}
		rooms = append(rooms, aRoom([]string{"b", "a", "c.9"}[i], more, r.Intn(full+1)))
	}
	return rooms
}

// someSchools are schools, so that at least some children can come without.
func someSchools(r *rand.Rand) []api.DoSchool {
	var children []int
	left := 45
	for range r.Intn(api.MaxDoSchools + 1) {
		n := 1 + r.Intn(left/2)
		children = append(children, n)
		left -= n
	}
	return schools(children...)
}

// anyVisitors are some visitors that there can be on a day.
func anyVisitors(r *rand.Rand, b api.DoBook, d api.DoDay) api.DoTruth {
	single := r.Intn(api.MaxDoHeads - pupilsOf(d) + 1)
	if r.Intn(2) == 0 {
		single = min(single, r.Intn(8))
	}
	v := api.DoTruth{Adults: r.Intn(single + 1)}
	v.Children = single - v.Adults
	for _, room := range b.Rooms {
		v.Rooms = append(v.Rooms, r.Intn(min(room.Full, single+pupilsOf(d))+1))
	}
	return v
}

// seenBy is a count that missed at most so many of n.
func seenBy(r *rand.Rand, n, most int) api.DoCount {
	miss := r.Intn(most + 1)
	return count(max(0, n-r.Intn(miss+1)), miss)
}

// dayOf is a day that these visitors explain, whose counters can miss at most so many.
func dayOf(r *rand.Rand, b api.DoBook, d api.DoDay, v api.DoTruth, most int) api.DoDay {
	d.Door = seenBy(r, v.Adults+v.Children+pupilsOf(d), most)
	d.Rooms = nil
	for _, n := range v.Rooms {
		d.Rooms = append(d.Rooms, seenBy(r, n, most))
	}
	d.Taken = paidBy(b, d, v)
	return d
}

// spoilt is a day of which some entries are other than they were.
func spoilt(r *rand.Rand, b api.DoBook, d api.DoDay) api.DoDay {
	d.Rooms = slices.Clone(d.Rooms)
	for range r.Intn(4) {
		other := count(r.Intn(12), r.Intn(3))
		if r.Intn(4) == 0 {
			other.Seen = r.Intn(api.MaxDoHeads + 1)
		}
		entry := r.Intn(len(b.Rooms) + 3)
		switch {
		case entry < len(b.Rooms):
			d.Rooms[entry] = other
		case entry == len(b.Rooms):
			d.Door = other
		case r.Intn(3) > 0:
			d.Taken = max(0, d.Taken+r.Intn(80)-30)
		default:
			d.Taken = r.Intn(api.MaxDoTaken + 1)
		}
	}
	return d
}

// bookOf is a book of so many days, of rooms that are not large; each day is explained, or was, until it was spoilt.
func bookOf(r *rand.Rand, days, most int, spoil bool) api.DoBook {
	b := api.DoBook{Price: 2 + 2*r.Intn(api.MaxDoPence/2), Rooms: roomsOf(r, r.Intn(api.MaxDoRooms+1))}
	for range days {
		d := api.DoDay{Schools: someSchools(r)}
		d = dayOf(r, b, d, anyVisitors(r, b, d), most)
		if spoil {
			d = spoilt(r, b, d)
		}
		b.Days = append(b.Days, d)
	}
	return b
}

func aBook(r *rand.Rand, days int) api.DoBook { return bookOf(r, days, r.Intn(api.MaxDoMiss+1), true) }

// checkDay checks all that is said of a day.
func checkDay(t *testing.T, b api.DoBook, day int) reference {
	t.Helper()
	r := referenceOf(b, b.Days[day])
	could, e := door.Could(b, day)
	if len(r.pence) == 0 && e != api.ErrZero || len(r.pence) > 0 && (e != api.OK || could != spanOf(r.pence)) {
		t.Fatalf("%v: Could of %d = %v, %d", b, day, could, e)
	}
	missed, e := door.Missed(b, day)
	if len(r.lacking) == 0 && e != api.ErrDown || len(r.lacking) > 0 && (e != api.OK || missed != slices.Min(r.lacking)) {
		t.Fatalf("%v: Missed of %d = %d, %d", b, day, missed, e)
	}
	checkExplained(t, b, day, r)
	alone := b
	alone.Days = b.Days[day : day+1]
	var want []api.DoEntry
	for _, of := range r.wrong() {
		want = append(want, wrongIs(0, of))
	}
	if wrong, e := door.Wrong(alone); !slices.Equal(wrong, want) || e != api.OK {
		t.Fatalf("%v: Wrong of %d = %v, %d, not %v", b, day, wrong, e, want)
	}
	return r
}

// checkExplained checks what First, Visitors, Room and Split say of a day.
func checkExplained(t *testing.T, b api.DoBook, day int, r reference) {
	t.Helper()
	first, many, e1 := door.First(b, day)
	adults, children, e2 := door.Visitors(b, day)
	split, e3 := door.Split(b, day)
	if len(r.explain) == 0 {
		if e1 != api.ErrZero || e2 != api.ErrZero || e3 != api.ErrZero {
			t.Fatalf("%v: nobody explains %d, but %d, %d, %d", b, day, e1, e2, e3)
		}
		return
	}
	if !sameTruth(first, r.explain[0]) || many != len(r.explain) || e1 != api.OK {
		t.Fatalf("%v: First of %d = %v, %d, %d", b, day, first, many, e1)
	}
	wantAdults := spanOf(r.of(func(v api.DoTruth) int { return v.Adults }))
	wantChildren := spanOf(r.of(func(v api.DoTruth) int { return v.Children }))
	if adults != wantAdults || children != wantChildren || e2 != api.OK {
		t.Fatalf("%v: Visitors of %d = %v, %v, %d", b, day, adults, children, e2)
	}
	if split != partsOf(b, b.Days[day], r.explain[0]) || e3 != api.OK {
		t.Fatalf("%v: Split of %d = %v, %d", b, day, split, e3)
	}
	for room := range b.Rooms {
		want := spanOf(r.of(func(v api.DoTruth) int { return v.Rooms[room] }))
		if in, e := door.Room(b, day, room); in != want || e != api.OK {
			t.Fatalf("%v: Room of %d, %d = %v, %d", b, day, room, in, e)
		}
	}
}

func TestP8_3ToP8_7AgainstTheDefinition(t *testing.T) {
	r := rand.New(rand.NewSource(803))
	explained, unexplained, lack, wrongs := 0, 0, map[int]int{}, map[int]int{}
	for range 400 {
		b := aBook(r, 1)
		known := checkDay(t, b, 0)
		if len(known.explain) > 0 {
			explained++
		} else {
			unexplained++
		}
		if len(known.lacking) == 0 {
			lack[-1]++
		} else {
			lack[min(slices.Min(known.lacking), 6)]++
		}
		wrongs[len(known.wrong())]++
	}
	if explained < 50 || unexplained < 50 || lack[-1] < 50 || lack[1] < 5 || lack[2] < 5 || lack[6] < 5 || wrongs[1] < 50 || wrongs[2] < 20 || wrongs[3] < 3 {
		t.Errorf("too few: %d are explained, %d are not, %v, %v", explained, unexplained, lack, wrongs)
	}
}

// TestP8_3ToP8_7LargeRooms is of two rooms that hold all visitors, and of a school whose children can be in them.
func TestP8_3ToP8_7LargeRooms(t *testing.T) {
	r := rand.New(rand.NewSource(8031))
	for i := range 6 {
		b := api.DoBook{Price: []int{2, 10, 60}[i%3], Rooms: []api.DoRoom{aRoom("a", []int{20, 0, 7}[i%3], 60), aRoom("b", 1+r.Intn(20), 60)}}
		d := api.DoDay{Schools: schools(1 + r.Intn(50))}
		d = dayOf(r, b, d, anyVisitors(r, b, d), api.MaxDoMiss)
		if i >= 3 {
			d = spoilt(r, b, d)
		}
		b.Days = []api.DoDay{d}
		checkDay(t, b, 0)
	}
}

// TestP8_7AllDays is of lists of entries of two days.
func TestP8_7AllDays(t *testing.T) {
	r := rand.New(rand.NewSource(807))
	met := map[int]int{}
	for range 150 {
		b := aBook(r, 2)
		b.Rooms = b.Rooms[:min(len(b.Rooms), 1)]
		var days []reference
		var all []api.DoEntry
		for day := range b.Days {
			b.Days[day].Rooms = b.Days[day].Rooms[:len(b.Rooms)]
			days = append(days, referenceOf(b, b.Days[day]))
			for _, of := range entriesOf(b) {
				all = append(all, wrongIs(day, of))
			}
		}
		lists := listsOf(all, func(a, b api.DoEntry) int { return cmp.Or(cmp.Compare(a.Day, b.Day), cmp.Compare(a.Of, b.Of)) })
		at := slices.IndexFunc(lists, func(list []api.DoEntry) bool {
			without := make([][]int, len(days))
			for _, e := range list {
				without[e.Day] = append(without[e.Day], e.Of)
			}
			return days[0].does(without[0]) && days[1].does(without[1])
		})
		wrong, e := door.Wrong(b)
		if !slices.Equal(wrong, lists[at]) || e != api.OK {
			t.Fatalf("%v: Wrong = %v, %d, not %v", b, wrong, e, lists[at])
		}
		met[len(wrong)]++
	}
	if met[0] < 5 || met[1] < 20 || met[2] < 20 || met[3] < 10 {
		t.Errorf("too few: %v", met)
	}
}

func within(n int, s api.Span) bool { return s.Lo <= n && n <= s.Hi }

func TestP8_8TrueTakings(t *testing.T) {
	r := rand.New(rand.NewSource(808))
	several := 0
	for range 1000 {
		b := bookOf(r, 0, 0, false)
		var truths []api.DoTruth
		for range 1 + r.Intn(api.MaxDoDays) {
			d := api.DoDay{Schools: someSchools(r)}
			v := anyVisitors(r, b, d)
			truths = append(truths, v)
			b.Days = append(b.Days, dayOf(r, b, d, v, api.MaxDoMiss))
		}
		for day, v := range truths {
			adults, children, e := door.Visitors(b, day)
			if !within(v.Adults, adults) || !within(v.Children, children) || e != api.OK {
				t.Fatalf("%v: Visitors of %d = %v, %v, %d, but they were %v", b, day, adults, children, e, v)
			}
			for room, n := range v.Rooms {
				if in, e := door.Room(b, day, room); !within(n, in) || e != api.OK {
					t.Fatalf("%v: Room of %d, %d = %v, %d, but they were %v", b, day, room, in, e, v)
				}
			}
			if missed, e := door.Missed(b, day); missed != 0 || e != api.OK {
				t.Fatalf("%v: Missed of %d = %d, %d", b, day, missed, e)
			}
			if _, many, _ := door.First(b, day); many > 1 {
				several++
			}
		}
		if wrong, e := door.Wrong(b); len(wrong) > 0 || e != api.OK {
			t.Fatalf("%v: Wrong = %v, %d", b, wrong, e)
		}
	}
	if several < 500 {
		t.Errorf("only %d days have several explanations", several)
	}
}

func TestP8_9EachPennyOnce(t *testing.T) {
	r := rand.New(rand.NewSource(809))
	parts := [4]int{}
	for range 1000 {
		b := aBook(r, 1)
		d := b.Days[0]
		split, e := door.Split(b, 0)
		first, _, _ := door.First(b, 0)
		if e == api.ErrZero {
			continue
		}
		if split[0]+split[1]+split[2]+split[3] != d.Taken || paidBy(b, d, first) != d.Taken || e != api.OK {
			t.Fatalf("%v: Split = %v, %d, First = %v", b, split, e, first)
		}
		if could, e := door.Could(b, 0); !within(d.Taken, could) || e != api.OK {
			t.Fatalf("%v: Could = %v, %d", b, could, e)
		}
		for part, pence := range split {
			parts[part] += min(pence, 1)
		}
	}
	if slices.Min(parts[:]) < 50 {
		t.Errorf("too few have some parts: %v", parts)
	}
}

func TestP8_10WithoutTheWrong(t *testing.T) {
	r := rand.New(rand.NewSource(810))
	met := map[int]int{}
	for range 120 {
		b := aBook(r, 1+r.Intn(2))
		wrong, e := door.Wrong(b)
		if e != api.OK {
			t.Fatalf("%v: Wrong: %d", b, e)
		}
		for day, d := range b.Days {
			known := referenceOf(b, d)
			var without []int
			for _, entry := range wrong {
				if entry.Day == day {
					without = append(without, entry.Of)
				}
			}
			for _, list := range listsOf(known.entries, cmp.Compare[int]) {
				if len(list) < len(without) && known.does(list) {
					t.Fatalf("%v: Wrong = %v, but of %d %v do", b, wrong, day, list)
				}
			}
			if !known.does(without) {
				t.Fatalf("%v: Wrong = %v, but of %d they do not do", b, wrong, day)
			}
			met[len(without)]++
		}
	}
	if met[0] < 20 || met[1] < 50 || met[2] < 10 {
		t.Errorf("too few: %v", met)
	}
}

func TestP8_11Schools(t *testing.T) {
	r := rand.New(rand.NewSource(811))
	less := 0
	for range 1000 {
		b := aBook(r, 1)
		apart, together, e := door.Together(b, 0)
		want := 0
		for _, s := range b.Days[0].Schools {
			pence, _ := door.School(b, s.Children)
			want += pence
		}
		one, _ := door.School(b, pupilsOf(b.Days[0]))
		if apart != want || together != one || e != api.OK {
			t.Fatalf("%v: Together = %d, %d, %d", b, apart, together, e)
		}
		most := b.Price / 2 * max(0, len(b.Days[0].Schools)-1)
		if together > apart || apart-together > most {
			t.Fatalf("%v: Together = %d, %d", b, apart, together)
		}
		if together < apart {
			less++
		}
	}
	if less < 50 {
		t.Errorf("only %d pay less as one", less)
	}
	for price := 2; price <= api.MaxDoPence; price += 2 {
		b := api.DoBook{Price: price}
		before := 0
		for children := range api.MaxDoHeads + 1 {
			pence, e := door.School(b, children)
			if pence < before || pence != schoolPays(b, children) || e != api.OK {
				t.Fatalf("%d: School of %d = %d, %d", price, children, pence, e)
			}
			before = pence
		}
	}
}

// missing is a day whose counters can miss so many more.
func missing(d api.DoDay, more int) api.DoDay {
	d.Door.Miss += more
	d.Rooms = slices.Clone(d.Rooms)
	for room := range d.Rooms {
		d.Rooms[room].Miss += more
	}
	return d
}

func TestP8_12Missed(t *testing.T) {
	r := rand.New(rand.NewSource(812))
	met, within := 0, 0
	for range 700 {
		b := bookOf(r, 1, r.Intn(3), true)
		missed, e := door.Missed(b, 0)
		if e == api.ErrDown {
			if _, _, f := door.First(b, 0); f != api.ErrZero {
				t.Fatalf("%v: Missed: %d, First: %d", b, e, f)
			}
			continue
		}
		for more := max(0, missed-1); more <= missed; more++ {
			d := missing(b.Days[0], more)
			entries, explain := entriesOf(b), false
			for v := range visitorsOf(b, d) {
				if against(b, d, v, entries) == 0 {
					explain = true
					break
				}
			}
			if explain != (more == missed) || e != api.OK {
				t.Fatalf("%v: Missed = %d, %d, but %d: %t", b, missed, e, more, explain)
			}
			then := changed(b, func(b *api.DoBook) { b.Days[0] = d })
			if _, _, e := door.Check(then); e != api.OK {
				continue // no counter of a book misses so many
			}
			if _, _, f := door.First(then, 0); (f == api.OK) != explain {
				t.Fatalf("%v: Missed = %d, but First of %d more: %d", b, missed, more, f)
			}
			within++
		}
		met += min(missed, 1)
	}
	if met < 50 || within < 200 {
		t.Errorf("only %d lack some, and %d are within the limits", met, within)
	}
}

// lesser is a book one of whose counters misses fewer, if it can.
func lesser(r *rand.Rand, b api.DoBook, day int) api.DoBook {
	return changed(b, func(b *api.DoBook) {
		c := &b.Days[day].Door
		if at := r.Intn(len(b.Rooms) + 1); at < len(b.Rooms) {
			c = &b.Days[day].Rooms[at]
		}
		c.Miss = r.Intn(c.Miss + 1)
	})
}

// spansOf returns the spans that are said of a day; none of them if there are no such visitors.
func spansOf(b api.DoBook, day int) (could, others []api.Span) {
	if s, e := door.Could(b, day); e == api.OK {
		could = append(could, s)
	}
	adults, children, e := door.Visitors(b, day)
	if e != api.OK {
		return could, nil
	}
	others = append(others, adults, children)
	for room := range b.Rooms {
		s, _ := door.Room(b, day, room)
		others = append(others, s)
	}
	return could, others
}

// areWithin reports whether the spans are within others; no spans are within any.
func areWithin(spans, others []api.Span) bool {
	if len(spans) == 0 {
		return true
	}
	for i, s := range spans {
		if i >= len(others) || s.Lo < others[i].Lo || s.Hi > others[i].Hi {
			return false
		}
	}
	return true
}

func TestP8_13KnownBetter(t *testing.T) {
	r := rand.New(rand.NewSource(813))
	narrower, more := 0, 0
	for range 900 {
		b := aBook(r, 1)
		better := lesser(r, b, 0)
		could, others := spansOf(b, 0)
		thenCould, thenOthers := spansOf(better, 0)
		if !areWithin(thenCould, could) || !areWithin(thenOthers, others) {
			t.Fatalf("%v: %v, %v, and with a lesser Miss %v: %v, %v", b, could, others, better, thenCould, thenOthers)
		}
		_, many, _ := door.First(b, 0)
		_, thenMany, _ := door.First(better, 0)
		wrong, _ := door.Wrong(b)
		thenWrong, _ := door.Wrong(better)
		missed, e := door.Missed(b, 0)
		thenMissed, f := door.Missed(better, 0)
		if thenMany > many || len(thenWrong) < len(wrong) || thenMissed < missed || e != f {
			t.Fatalf("%v: %d, %v, %d, %d, and with a lesser Miss %v: %d, %v, %d, %d", b, many, wrong, missed, e, better, thenMany, thenWrong, thenMissed, f)
		}
		if thenMany < many {
			narrower++
		}
		if len(thenWrong) > len(wrong) {
			more++
		}
	}
	if narrower < 50 || more < 20 {
		t.Errorf("only %d are narrower, and of %d more are wrong", narrower, more)
	}
}

func TestP8_14DayByDay(t *testing.T) {
	r := rand.New(rand.NewSource(814))
	several := 0
	for range 250 {
		b := aBook(r, api.MaxDoDays)
		wrong, e := door.Wrong(b)
		if e != api.OK {
			t.Fatalf("%v: Wrong: %d", b, e)
		}
		var want []api.DoEntry
		days := map[int]bool{}
		for day := range b.Days {
			alone := changed(b, func(b *api.DoBook) { b.Days = b.Days[day : day+1] })
			list, _ := door.Wrong(alone)
			for _, entry := range list {
				want = append(want, wrongIs(day, entry.Of))
				days[day] = true
			}
		}
		if !slices.Equal(wrong, want) {
			t.Fatalf("%v: Wrong = %v, but day by day %v", b, wrong, want)
		}
		if len(days) > 1 {
			several++
		}
	}
	if several < 100 {
		t.Errorf("only %d books have several days of which something is wrong", several)
	}
}

func TestP8_15NotModified(t *testing.T) {
	r := rand.New(rand.NewSource(815))
	for range 100 {
		b := aBook(r, 1+r.Intn(api.MaxDoDays))
		before := fmt.Sprint(b)
		for day := range b.Days {
			first, _ := callAll(b, day, 0, 13)
			if again, _ := callAll(b, day, 0, 13); again != first {
				t.Fatalf("%v: %s, and then %s", b, first, again)
			}
		}
		if fmt.Sprint(b) != before {
			t.Fatalf("%s was modified: %v", before, b)
		}
	}
}

// BenchmarkMissed is of a day that no number of visitors explains.
func BenchmarkMissed(b *testing.B) {
	book := tens(3601, count(0, 0))
	for b.Loop() {
		door.Missed(book, 0)
	}
}

// BenchmarkWrong is of four such days.
func BenchmarkWrong(b *testing.B) {
	book := tens(3601, count(0, 5))
	book.Days[0].Door = count(30, 5)
	book.Days = slices.Repeat(book.Days, api.MaxDoDays)
	for b.Loop() {
		door.Wrong(book)
	}
}

// BenchmarkFirst is of a day that as many visitors explain as there can be.
func BenchmarkFirst(b *testing.B) {
	book := withRooms(oneDay(2, 90, count(45, 5), count(0, 5), count(0, 5), count(0, 5)), aRoom("a", 0, 60), aRoom("b", 0, 60), aRoom("c", 0, 60))
	for b.Loop() {
		door.First(book, 0)
	}
}

// BenchmarkCould is of as many visitors as can agree with all counts.
func BenchmarkCould(b *testing.B) {
	book := oneDay(2, 90, count(55, 5), count(5, 5), count(5, 5), count(5, 5))
	for b.Loop() {
		door.Could(book, 0)
	}
}
