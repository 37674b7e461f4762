package head_test

import (
	"fmt"
	"math"
	"slices"
	"strings"
	"testing"

	"ceroplast/api"
	"ceroplast/head"
)

// Indices of the bodies and heads of the chapter's examples.
const (
	k = 0
	c = 1
	n = 2
	j = 3

	ada = 0
	ben = 1
	cy  = 2
	dot = 3
)

func newBody(name string, shown ...api.HeShown) api.HeBody {
	return api.HeBody{Name: name, Shown: shown}
}

func from(day int, as string) api.HeShown { return api.HeShown{Day: day, As: as} }

func pair(a, b int) api.HePair { return api.HePair{A: a, B: b} }

func span(lo, hi int) api.Span { return api.Span{Lo: lo, Hi: hi} }

func swap(day, a, b int) api.HeLine { return api.HeLine{Day: day, Kind: api.HeSwap, A: a, B: b} }

func either(day, a, b, c, d int) api.HeLine {
	return api.HeLine{Day: day, Kind: api.HeEither, A: a, B: b, C: c, D: d}
}

func some(day int, bodies ...int) api.HeLine {
	line := api.HeLine{Day: day, Kind: api.HeSome}
	for _, body := range bodies {
		line.Set |= 1 << body
	}
	return line
}

func seen(day, body, head int) api.HeLine {
	return api.HeLine{Day: day, Kind: api.HeSeen, A: body, B: head}
}

func not(day, body, head int) api.HeLine {
	return api.HeLine{Day: day, Kind: api.HeNot, A: body, B: head}
}

// example is B of the chapter's examples, with more lines.
func example(more ...api.HeLine) api.HeBook {
	return api.HeBook{
		Bodies: []api.HeBody{
			newBody("k", from(0, "king"), from(20, "bishop")),
			newBody("c", from(0, "clown")),
			newBody("n", from(0, "nun")),
			newBody("j", from(10, "judge")),
		},
		Heads: []string{"ada", "ben", "cy", "dot"},
		Lines: append([]api.HeLine{swap(5, k, c), either(10, k, n, c, j), some(15, k, c, n), seen(18, k, cy)}, more...),
	}
}

// exampleW is W of the chapter's examples.
func exampleW() api.HeBook { return example(seen(25, c, cy)) }

// book is a book of so many bodies, each shown as an own person from day 0 on: a, b, c ..
func book(bodies int, lines ...api.HeLine) api.HeBook {
	b := api.HeBook{Lines: lines}
	for i := range bodies {
		name := string(rune('a' + i))
		b.Bodies = append(b.Bodies, newBody("body."+name, from(0, name)))
		b.Heads = append(b.Heads, "head."+name)
	}
	return b
}

func clone(b api.HeBook) api.HeBook {
	b.Bodies = slices.Clone(b.Bodies)
	for i := range b.Bodies {
		b.Bodies[i].Shown = slices.Clone(b.Bodies[i].Shown)
	}
	b.Heads = slices.Clone(b.Heads)
	b.Lines = slices.Clone(b.Lines)
	return b
}

// change is a book that something was done to, and what Check says of it.
type change struct {
	name     string
	do       func(b *api.HeBook)
	part, at int
	e        api.Errno
}

func (c change) book() api.HeBook {
	b := example()
	c.do(&b)
	return b
}

// lines is a change of the lines, of which the last one is wrong.
func lines(name string, e api.Errno, lines ...api.HeLine) change {
	return change{name, func(b *api.HeBook) { b.Lines = lines }, 3, len(lines) - 1, e}
}

func badBodies() []change {
	return []change{
		{"6 bodies", func(b *api.HeBook) { *b = book(6) }, 1, 0, api.ErrLong},
		{"too many bodies before all else", func(b *api.HeBook) { *b = api.HeBook{Bodies: make([]api.HeBody, 6), Lines: make([]api.HeLine, 9)} }, 1, 0, api.ErrLong},
		{"name of a body", func(b *api.HeBook) { b.Bodies[1].Name = "1c" }, 1, 1, api.ErrForm},
		{"name of a body before all else of it", func(b *api.HeBook) { b.Bodies[0] = newBody("", make([]api.HeShown, 4)...) }, 1, 0, api.ErrForm},
		{"a long name of a body", func(b *api.HeBook) { b.Bodies[3].Name = "abcdefghijklmnopq" }, 1, 3, api.ErrForm},
		{"two bodies of one name", func(b *api.HeBook) { b.Bodies[3].Name = "c" }, 1, 3, api.ErrTwice},
		{"two bodies of one name before its entries", func(b *api.HeBook) { b.Bodies[3] = newBody("c", make([]api.HeShown, 4)...) }, 1, 3, api.ErrTwice},
		{"4 entries", func(b *api.HeBook) {
			b.Bodies[2].Shown = []api.HeShown{from(0, "a"), from(1, "a"), from(2, "a"), from(3, "a")}
		}, 1, 2, api.ErrLong},
		{"too many entries before a wrong one", func(b *api.HeBook) { b.Bodies[2].Shown = make([]api.HeShown, 4) }, 1, 2, api.ErrLong},
		{"day of an entry below", func(b *api.HeBook) { b.Bodies[2].Shown[0].Day = -1 }, 1, 2, api.ErrRange},
		{"day of an entry above", func(b *api.HeBook) { b.Bodies[0].Shown[1].Day = 365 }, 1, 0, api.ErrRange},
		{"day of an entry far below", func(b *api.HeBook) { b.Bodies[0].Shown[1].Day = math.MinInt }, 1, 0, api.ErrRange},
		{"day of an entry far above", func(b *api.HeBook) { b.Bodies[0].Shown[0].Day = math.MaxInt }, 1, 0, api.ErrRange},
		{"day of an entry before all else of it", func(b *api.HeBook) { b.Bodies[0].Shown[1] = from(-1, "") }, 1, 0, api.ErrRange},
		{"two entries of one day", func(b *api.HeBook) { b.Bodies[0].Shown[1].Day = 0 }, 1, 0, api.ErrArg},
		{"an entry of a day before", func(b *api.HeBook) { b.Bodies[0].Shown[0].Day = 21 }, 1, 0, api.ErrArg},
		{"order of days before the name", func(b *api.HeBook) { b.Bodies[0].Shown[1] = from(0, "") }, 1, 0, api.ErrArg},
		{"nobody's name", func(b *api.HeBook) { b.Bodies[0].Shown[0].As = "" }, 1, 0, api.ErrForm},
		{"name of a second entry", func(b *api.HeBook) { b.Bodies[0].Shown[1].As = "Bishop" }, 1, 0, api.ErrForm},
		{"the first entry decides", func(b *api.HeBook) { b.Bodies[0].Shown = []api.HeShown{from(5, ""), from(365, "b")} }, 1, 0, api.ErrForm},
		{"the first body decides", func(b *api.HeBook) { b.Bodies[0].Shown[0].As, b.Bodies[1].Shown[0].Day = "", -1 }, 1, 0, api.ErrForm},
		{"a body before heads", func(b *api.HeBook) { b.Bodies[3].Shown[0].As, b.Heads = "?", nil }, 1, 3, api.ErrForm},
	}
}

func badHeads() []change {
	return []change{
		{"3 heads", func(b *api.HeBook) { b.Heads = b.Heads[:3] }, 2, 0, api.ErrLong},
		{"5 heads", func(b *api.HeBook) { b.Heads = append(b.Heads, "eve") }, 2, 0, api.ErrLong},
		{"no heads", func(b *api.HeBook) { b.Heads = nil }, 2, 0, api.ErrLong},
		{"too few heads before a wrong one", func(b *api.HeBook) { b.Heads = []string{""} }, 2, 0, api.ErrLong},
		{"name of a head", func(b *api.HeBook) { b.Heads[3] = "dot!" }, 2, 3, api.ErrForm},
		{"two heads of one name", func(b *api.HeBook) { b.Heads[2] = "ben" }, 2, 2, api.ErrTwice},
		{"the first head decides", func(b *api.HeBook) { b.Heads[1], b.Heads[2] = "ada", "" }, 2, 1, api.ErrTwice},
		{"a head before lines", func(b *api.HeBook) { b.Heads[3], b.Lines = "ada", make([]api.HeLine, 9) }, 2, 3, api.ErrTwice},
	}
}

func badLines() []change {
	return []change{
		{"9 lines", func(b *api.HeBook) { b.Lines = slices.Repeat([]api.HeLine{swap(0, k, c)}, 9) }, 3, 0, api.ErrLong},
		{"too many lines before a wrong one", func(b *api.HeBook) { b.Lines = slices.Repeat([]api.HeLine{swap(-1, 9, 9)}, 9) }, 3, 0, api.ErrLong},
		lines("day below", api.ErrRange, swap(-1, k, c)),
		lines("day above", api.ErrRange, swap(0, k, c), swap(365, k, c)),
		lines("day far below", api.ErrRange, swap(math.MinInt, k, c)),
		lines("day far above", api.ErrRange, swap(math.MaxInt, k, c)),
		lines("day before all else of it", api.ErrRange, swap(5, k, c), api.HeLine{Day: -1, Kind: 5, A: 9}),
		lines("a day before", api.ErrArg, swap(5, k, c), swap(4, k, c)),
		lines("a day before the kind", api.ErrArg, swap(5, k, c), api.HeLine{Day: 4, Kind: 5, A: 9}),
		lines("kind below", api.ErrRange, api.HeLine{Kind: -1, A: 9}),
		lines("kind above", api.ErrRange, api.HeLine{Kind: 5, A: 9}),
		lines("kind far above", api.ErrRange, api.HeLine{Kind: math.MaxInt}),
		lines("kind far below", api.ErrRange, api.HeLine{Kind: math.MinInt}),
		lines("no body A", api.ErrNone, swap(0, 4, c)),
		lines("no body B", api.ErrNone, swap(0, k, -1)),
		lines("no body far off", api.ErrNone, swap(0, math.MinInt, math.MaxInt)),
		lines("no body, before two that are the same", api.ErrNone, swap(0, 4, 4)),
		lines("no body, before a field that is not named", api.ErrNone, api.HeLine{A: 4, B: 1, C: 1}),
		lines("no body C", api.ErrNone, either(0, k, c, 4, j)),
		lines("no body D", api.ErrNone, either(0, k, c, n, -1)),
		lines("no body D, before A and B the same", api.ErrNone, either(0, k, k, n, 4)),
		lines("no body D, before Set", api.ErrNone, api.HeLine{Kind: api.HeEither, A: k, B: c, C: n, D: 4, Set: 1}),
		lines("set below", api.ErrNone, api.HeLine{Kind: api.HeSome, Set: -1}),
		lines("set far below", api.ErrNone, api.HeLine{Kind: api.HeSome, Set: math.MinInt}),
		lines("set with a bit that is none", api.ErrNone, some(0, k, c, 4)),
		lines("set with one bit, that is none", api.ErrNone, some(0, 4)),
		lines("set with a bit far off", api.ErrNone, some(0, k, c, 62)),
		lines("set with a bit that is none, before A", api.ErrNone, api.HeLine{Kind: api.HeSome, Set: 16, A: 1}),
		lines("nothing that was seen", api.ErrNone, seen(0, 4, cy)),
		lines("no head that was seen", api.ErrNone, seen(0, k, 4)),
		lines("no head that was seen, before Set", api.ErrNone, api.HeLine{Kind: api.HeSeen, B: -1, Set: 1}),
		lines("no body that was not seen", api.ErrNone, not(0, -1, cy)),
		lines("no head that was not seen", api.ErrNone, not(0, k, 4)),
		lines("two bodies the same", api.ErrArg, swap(0, c, c)),
		lines("A and B the same", api.ErrArg, either(0, c, c, k, j)),
		lines("C and D the same", api.ErrArg, either(0, k, j, c, c)),
		lines("an empty set", api.ErrArg, some(0)),
		lines("a set of one", api.ErrArg, some(0, j)),
		lines("C of a swap", api.ErrArg, api.HeLine{A: k, B: c, C: 1}),
		lines("D of a swap", api.ErrArg, api.HeLine{A: k, B: c, D: -1}),
		lines("Set of a swap", api.ErrArg, api.HeLine{A: k, B: c, Set: 1}),
		lines("Set of two swaps", api.ErrArg, api.HeLine{Kind: api.HeEither, A: k, B: c, C: c, D: j, Set: 3}),
		lines("A of a set", api.ErrArg, api.HeLine{Kind: api.HeSome, Set: 7, A: 1}),
		lines("B of a set", api.ErrArg, api.HeLine{Kind: api.HeSome, Set: 7, B: math.MaxInt}),
		lines("C of a set", api.ErrArg, api.HeLine{Kind: api.HeSome, Set: 7, C: 1}),
		lines("D of a set", api.ErrArg, api.HeLine{Kind: api.HeSome, Set: 7, D: 1}),
		lines("C of what was seen", api.ErrArg, api.HeLine{Kind: api.HeSeen, C: 1}),
		lines("D of what was seen", api.ErrArg, api.HeLine{Kind: api.HeSeen, D: 1}),
		lines("Set of what was seen", api.ErrArg, api.HeLine{Kind: api.HeSeen, Set: math.MinInt}),
		lines("C of what was not seen", api.ErrArg, api.HeLine{Kind: api.HeNot, C: 1}),
		lines("D of what was not seen", api.ErrArg, api.HeLine{Kind: api.HeNot, D: 1}),
		lines("Set of what was not seen", api.ErrArg, api.HeLine{Kind: api.HeNot, Set: 1}),
		lines("3 sets", api.ErrLong, some(0, k, c), swap(1, k, c), some(2, k, c), some(2, k, c)),
		lines("no body in a third set", api.ErrNone, some(0, k, c), some(0, k, c), some(0, k, 4)),
		lines("a third set of one", api.ErrArg, some(0, k, c), some(0, k, c), some(0, k)),
		{"the first line decides", func(b *api.HeBook) { b.Lines[0], b.Lines[1].Day = swap(5, k, k), -1 }, 3, 0, api.ErrArg},
		{"a line of no bodies", func(b *api.HeBook) { *b = book(0, seen(0, 0, 0)) }, 3, 0, api.ErrNone},
		{"a set of no bodies", func(b *api.HeBook) { *b = book(0, some(0)) }, 3, 0, api.ErrArg},
		{"a bit of 5 bodies", func(b *api.HeBook) { *b = book(5, some(0, 4, 5)) }, 3, 0, api.ErrNone},
	}
}

func badBooks() []change { return slices.Concat(badBodies(), badHeads(), badLines()) }

func goodBooks() []change {
	return []change{
		{name: "the example", do: func(b *api.HeBook) {}},
		{name: "nothing", do: func(b *api.HeBook) { *b = api.HeBook{} }},
		{name: "one body", do: func(b *api.HeBook) { *b = book(1, seen(0, 0, 0), not(364, 0, 0)) }},
		{name: "5 bodies, 8 lines", do: func(b *api.HeBook) { *b = book(5, slices.Repeat([]api.HeLine{swap(364, 4, 3)}, 8)...) }},
		{name: "a body shown as nobody", do: func(b *api.HeBook) { b.Bodies[1].Shown = nil }},
		{name: "the ends of all days", do: func(b *api.HeBook) {
			b.Bodies[1].Shown = []api.HeShown{from(0, "abcdefghijklmnop"), from(1, "a"), from(364, "b")}
			b.Lines = []api.HeLine{swap(0, k, c), swap(364, k, c)}
		}},
		{name: "bodies, heads and persons of one name", do: func(b *api.HeBook) { b.Heads[0], b.Bodies[1].Shown[0].As = "k", "k" }},
		{name: "two persons of one name", do: func(b *api.HeBook) { b.Bodies[0].Shown[1].As = "king" }},
		{name: "two sets", do: func(b *api.HeBook) { b.Lines = []api.HeLine{some(1, k, c, n, j), some(1, n, j)} }},
		{name: "twice the same way", do: func(b *api.HeBook) { b.Lines = []api.HeLine{either(1, k, c, c, k)} }},
		{name: "two ways with one body", do: func(b *api.HeBook) { b.Lines = []api.HeLine{either(1, k, c, k, j)} }},
		{name: "a head on its own body", do: func(b *api.HeBook) { b.Lines = []api.HeLine{seen(1, j, dot), not(1, c, ben)} }},
	}
}

func TestP3_1Check(t *testing.T) {
	for _, c := range slices.Concat(badBooks(), goodBooks()) {
		if part, at, e := head.Check(c.book()); part != c.part || at != c.at || e != c.e {
			t.Errorf("%s: Check = %d, %d, %d, not %d, %d, %d", c.name, part, at, e, c.part, c.at, c.e)
		}
	}
}

func TestErrorOfTheBookComesFirst(t *testing.T) {
	for _, c := range badBooks() {
		b := c.book()
		pairs, e1 := head.First(b)
		bodies, e2 := head.Where(b, -1, -1)
		heads, e3 := head.On(b, 9, 365)
		many, e4 := head.Many(b, -1)
		as, e5 := head.As(b, -1, 365)
		sure, may, e6 := head.Ever(b, -1)
		between, e7 := head.Between(b, 9, "")
		wrong, e8 := head.Wrong(b)
		for i, e := range []api.Errno{e1, e2, e3, e4, e5, e6, e7, e8} {
			if e != c.e {
				t.Errorf("%s: function %d returns %d, not %d", c.name, i, e, c.e)
			}
		}
		if len(pairs)+len(bodies)+len(heads)+many+len(as)+len(sure)+len(may)+len(wrong) > 0 || between != span(0, 0) {
			t.Errorf("%s: a result beside the error", c.name)
		}
	}
}

// impossible are books without a truth.
func impossible() []api.HeBook {
	return []api.HeBook{exampleW(), book(1, not(0, 0, 0)), book(2, swap(3, 0, 1), seen(3, 0, 0)), book(3, some(1, 0, 1), seen(364, 2, 0))}
}

// TestErrorsBehindTheBook is of the errors of the other arguments, and of no truth, and of their order.
func TestErrorsBehindTheBook(t *testing.T) {
	for _, b := range append(impossible(), example(), book(1)) {
		possible := api.OK
		if _, e := head.First(b); e != api.OK {
			possible = api.ErrZero
		}
		for _, of := range []int{math.MinInt, -1, 0, len(b.Bodies) - 1, len(b.Bodies), 5, math.MaxInt} {
			for _, day := range []int{math.MinInt, -1, 0, 364, 365, math.MaxInt} {
				wide := possible
				if day < 0 || day > 364 {
					wide = api.ErrRange
				}
				want, without := wide, possible
				if of < 0 || of >= len(b.Bodies) {
					want, without = api.ErrNone, api.ErrNone
				}
				bodies, e1 := head.Where(b, of, day)
				heads, e2 := head.On(b, of, day)
				as, e3 := head.As(b, of, day)
				many, e4 := head.Many(b, day)
				sure, may, e5 := head.Ever(b, of)
				if e1 != want || e2 != want || e3 != want || e4 != wide || e5 != without {
					t.Errorf("%v, %d, %d: %d, %d, %d, %d, %d", b, of, day, e1, e2, e3, e4, e5)
				}
				if want != api.OK && len(bodies)+len(heads)+len(as) > 0 || wide != api.OK && many > 0 || without != api.OK && len(sure)+len(may) > 0 {
					t.Errorf("%v, %d, %d: a result beside an error", b, of, day)
				}
			}
		}
	}
}

func TestP3_2First(t *testing.T) {
	for i, c := range []struct {
		b    api.HeBook
		want []api.HePair
		e    api.Errno
	}{
		{example(), []api.HePair{pair(k, c), pair(k, n), pair(c, n), pair(0, 0)}, api.OK},
		{exampleW(), nil, api.ErrZero},
		{api.HeBook{}, nil, api.OK},
		{book(3), nil, api.OK},
		{book(3, swap(9, 2, 1)), []api.HePair{pair(1, 2)}, api.OK},
		{book(4, either(9, 3, 2, 1, 0)), []api.HePair{pair(0, 1)}, api.OK},
		{book(4, either(9, 3, 0, 2, 0)), []api.HePair{pair(0, 2)}, api.OK},
		{book(4, either(9, 3, 0, 2, 0), not(9, 2, 0)), []api.HePair{pair(0, 3), pair(0, 0)}, api.OK},
		{book(5, some(9, 4, 2, 3)), []api.HePair{pair(2, 3)}, api.OK},
		{book(5, some(9, 4, 2, 3), seen(9, 4, 2)), []api.HePair{pair(2, 4), pair(0, 0)}, api.OK},
		{book(5, some(9, 4, 2, 3), seen(9, 4, 3)), []api.HePair{pair(3, 4), pair(0, 0)}, api.OK},
		{book(3, seen(0, 1, 1), swap(0, 0, 1), seen(0, 1, 0), not(0, 0, 0)), []api.HePair{pair(0, 0), pair(0, 1), pair(0, 0), pair(0, 0)}, api.OK},
		{book(3, seen(0, 1, 0), swap(0, 0, 1)), nil, api.ErrZero},
		{book(3, swap(0, 0, 1), not(0, 1, 0)), nil, api.ErrZero},
		// The last line decides about the first one.
		{book(3, some(1, 0, 1, 2), some(2, 0, 1, 2), seen(3, 0, 2), seen(3, 1, 0)), []api.HePair{pair(0, 1), pair(0, 2), pair(0, 0), pair(0, 0)}, api.OK},
		{book(3, some(1, 0, 1, 2), swap(2, 0, 1), seen(3, 0, 0)), []api.HePair{pair(0, 1), pair(0, 1), pair(0, 0)}, api.OK},
		{book(3, some(1, 0, 1, 2), swap(2, 0, 1), seen(3, 2, 0)), []api.HePair{pair(0, 2), pair(0, 1), pair(0, 0)}, api.OK},
		{book(3, some(1, 0, 1, 2), swap(2, 0, 1), seen(3, 0, 2)), []api.HePair{pair(1, 2), pair(0, 1), pair(0, 0)}, api.OK},
	} {
		if got, e := head.First(c.b); !slices.Equal(got, c.want) || e != c.e {
			t.Errorf("%d: First = %v, %d, not %v, %d", i, got, e, c.want, c.e)
		}
	}
}

func TestP3_3Where(t *testing.T) {
	for i, c := range []struct {
		b         api.HeBook
		head, day int
		want      []int
	}{
		{example(), ada, 18, []int{n, j}},
		{example(), ada, 15, []int{n, j}},
		{example(), ada, 14, []int{c, j}},
		{example(), ada, 10, []int{c, j}},
		{example(), ada, 9, []int{c}},
		{example(), ada, 5, []int{c}},
		{example(), ada, 4, []int{k}},
		{example(), ada, 0, []int{k}},
		{example(), cy, 364, []int{k}},
		{example(), dot, 364, []int{c, j}},
		{book(3), 2, 364, []int{2}},
		{book(5, some(7, 0, 1, 2, 3, 4)), 4, 7, []int{0, 1, 2, 3, 4}},
		{book(5, some(7, 0, 1, 2, 3, 4)), 4, 6, []int{4}},
		// All lines of a day are done on it.
		{book(3, swap(7, 0, 1), swap(7, 1, 2)), 0, 7, []int{2}},
		{book(3, swap(7, 0, 1), swap(7, 1, 2)), 0, 6, []int{0}},
		// What is seen later tells of days before.
		{book(3, some(7, 0, 1, 2), not(364, 0, 0)), 0, 8, []int{1, 2}},
	} {
		if got, e := head.Where(c.b, c.head, c.day); !slices.Equal(got, c.want) || e != api.OK {
			t.Errorf("%d: Where = %v, %d, not %v", i, got, e, c.want)
		}
	}
}

func TestP3_3On(t *testing.T) {
	for i, c := range []struct {
		b         api.HeBook
		body, day int
		want      []int
	}{
		{example(), c, 18, []int{ben, dot}},
		{example(), k, 18, []int{cy}},
		{example(), k, 14, []int{ben, cy}},
		{example(), k, 9, []int{ben}},
		{example(), j, 9, []int{dot}},
		{example(), j, 10, []int{ada, dot}},
		{example(), n, 20, []int{ada, ben}},
		{book(5, some(7, 0, 1, 2, 3, 4)), 0, 7, []int{0, 1, 2, 3, 4}},
		{book(4, swap(7, 0, 1), swap(8, 1, 2), swap(9, 2, 3)), 3, 9, []int{0}},
		{book(4, swap(7, 0, 1), swap(8, 1, 2), swap(9, 2, 3)), 2, 9, []int{3}},
	} {
		if got, e := head.On(c.b, c.body, c.day); !slices.Equal(got, c.want) || e != api.OK {
			t.Errorf("%d: On = %v, %d, not %v", i, got, e, c.want)
		}
	}
}

func TestP3_3Many(t *testing.T) {
	for i, c := range []struct {
		b         api.HeBook
		day, want int
	}{
		{example(), 0, 1},
		{example(), 10, 2},
		{example(), 18, 2},
		{api.HeBook{}, 364, 1},
		{book(5, some(7, 0, 1, 2, 3, 4)), 6, 1},
		{book(5, some(7, 0, 1, 2, 3, 4)), 7, 10},
		// The first heads again, one of 20 circles of three, or one of 15 twice two.
		{book(5, some(7, 0, 1, 2, 3, 4), some(8, 0, 1, 2, 3, 4)), 8, 36},
		{book(5, some(7, 0, 1, 2, 3, 4), some(8, 0, 1, 2, 3, 4)), 7, 10},
		{book(3, either(1, 0, 1, 1, 0)), 1, 1},
		{book(4, either(1, 0, 1, 2, 3), either(1, 0, 1, 2, 3)), 1, 2},
		{book(4, some(1, 0, 1, 2, 3), seen(9, 0, 0)), 1, 3},
	} {
		if got, e := head.Many(c.b, c.day); got != c.want || e != api.OK {
			t.Errorf("%d: Many = %d, %d, not %d", i, got, e, c.want)
		}
	}
}

func TestP3_4As(t *testing.T) {
	alike := book(3, some(5, 0, 1, 2))
	alike.Bodies[0].Shown[0].As, alike.Bodies[2].Shown[0].As = "z", "z"
	for i, c := range []struct {
		b         api.HeBook
		head, day int
		want      []string
	}{
		{example(), ada, 18, []string{"judge", "nun"}},
		{example(), dot, 5, nil},
		{example(), dot, 9, nil},
		{example(), dot, 10, []string{"clown", "judge"}},
		{example(), cy, 18, []string{"king"}},
		{example(), cy, 19, []string{"king"}},
		{example(), cy, 20, []string{"bishop"}},
		{example(), cy, 364, []string{"bishop"}},
		{alike, 0, 5, []string{"b", "z"}},
		{alike, 1, 4, []string{"b"}},
		{alike, 1, 5, []string{"b", "z"}},
		{alike, 2, 4, []string{"z"}},
		// Some body is shown as nobody, another one as somebody.
		{book(2, some(5, 0, 1), seen(5, 1, 0)), 0, 5, []string{"b"}},
		{api.HeBook{Bodies: []api.HeBody{newBody("a"), newBody("b", from(5, "z.1"), from(6, "z")), newBody("c", from(6, "z0"))}, Heads: []string{"x", "y", "z"}, Lines: []api.HeLine{some(0, 0, 1, 2)}}, 0, 4, nil},
		{api.HeBook{Bodies: []api.HeBody{newBody("a"), newBody("b", from(5, "z.1"), from(6, "z")), newBody("c", from(6, "z0"))}, Heads: []string{"x", "y", "z"}, Lines: []api.HeLine{some(0, 0, 1, 2)}}, 0, 5, []string{"z.1"}},
		{api.HeBook{Bodies: []api.HeBody{newBody("a", from(0, "z.0")), newBody("b", from(5, "z")), newBody("c", from(5, "z0"))}, Heads: []string{"x", "y", "z"}, Lines: []api.HeLine{some(0, 0, 1, 2)}}, 0, 5, []string{"z", "z.0", "z0"}},
	} {
		if got, e := head.As(c.b, c.head, c.day); !slices.Equal(got, c.want) || e != api.OK {
			t.Errorf("%d: As = %v, %d, not %v", i, got, e, c.want)
		}
	}
}

func TestP3_4Ever(t *testing.T) {
	late := book(2, swap(9, 0, 1))
	late.Bodies[0].Shown = []api.HeShown{from(3, "c"), from(9, "b"), from(364, "a")}
	late.Bodies[1].Shown = []api.HeShown{from(0, "e"), from(8, "d"), from(10, "c")}
	for i, c := range []struct {
		b         api.HeBook
		head      int
		sure, may []string
	}{
		{example(), ada, []string{"clown", "king"}, []string{"clown", "judge", "king", "nun"}},
		{example(), cy, []string{"bishop", "king", "nun"}, []string{"bishop", "king", "nun"}},
		{example(), dot, nil, []string{"clown", "judge"}},
		{book(2), 1, []string{"b"}, []string{"b"}},
		{book(2, swap(0, 0, 1)), 1, []string{"a"}, []string{"a"}},
		{book(2, swap(1, 0, 1)), 1, []string{"a", "b"}, []string{"a", "b"}},
		{book(2, swap(1, 0, 1), swap(1, 1, 0)), 1, []string{"b"}, []string{"b"}},
		{book(3, some(364, 0, 1, 2)), 1, []string{"b"}, []string{"a", "b", "c"}},
		// Once it is on a, once on c, and on b in between in one way only.
		{book(3, either(5, 0, 1, 0, 2), swap(9, 1, 2)), 0, []string{"a", "b", "c"}, []string{"a", "b", "c"}},
		{late, 0, []string{"c", "d"}, []string{"c", "d"}},
		{late, 1, []string{"a", "b", "d", "e"}, []string{"a", "b", "d", "e"}},
		{api.HeBook{Bodies: []api.HeBody{newBody("a")}, Heads: []string{"x"}}, 0, nil, nil},
	} {
		sure, may, e := head.Ever(c.b, c.head)
		if !slices.Equal(sure, c.sure) || !slices.Equal(may, c.may) || e != api.OK {
			t.Errorf("%d: Ever = %v, %v, %d, not %v, %v", i, sure, may, e, c.sure, c.may)
		}
	}
}

func TestP3_4Between(t *testing.T) {
	twice := book(2, swap(9, 0, 1), swap(20, 0, 1))
	twice.Bodies[0].Shown = []api.HeShown{from(3, "x"), from(15, "y"), from(30, "x")}
	for i, c := range []struct {
		b    api.HeBook
		head int
		as   string
		want api.Span
		e    api.Errno
	}{
		{example(), cy, "king", span(10, 19), api.OK},
		{example(), cy, "bishop", span(20, 364), api.OK},
		{example(), cy, "nun", span(0, 14), api.OK},
		{example(), ada, "king", span(0, 4), api.OK},
		{example(), ada, "clown", span(5, 14), api.OK},
		{example(), dot, "judge", span(10, 364), api.OK},
		{example(), dot, "clown", span(10, 364), api.OK},
		{example(), ada, "bishop", span(0, 0), api.ErrNone},
		{example(), ada, "pope", span(0, 0), api.ErrNone},
		{example(), ada, "ada", span(0, 0), api.ErrNone},
		{example(), ada, "", span(0, 0), api.ErrForm},
		{example(), ada, "King", span(0, 0), api.ErrForm},
		{example(), 4, "", span(0, 0), api.ErrNone},
		{example(), -1, "", span(0, 0), api.ErrNone},
		{exampleW(), ada, "", span(0, 0), api.ErrZero},
		{exampleW(), ada, "pope", span(0, 0), api.ErrZero},
		{exampleW(), 4, "", span(0, 0), api.ErrNone},
		{book(1, not(364, 0, 0)), 0, "a", span(0, 0), api.ErrZero},
		{book(1), 0, "a", span(0, 364), api.OK},
		{book(1), 0, "b", span(0, 0), api.ErrNone},
		{book(2, swap(364, 0, 1)), 0, "b", span(364, 364), api.OK},
		{book(2, swap(1, 0, 1)), 0, "a", span(0, 0), api.OK},
		{book(2, swap(0, 0, 1)), 0, "a", span(0, 0), api.ErrNone},
		// On the day itself nobody sees what was there between two lines.
		{book(2, swap(7, 0, 1), swap(7, 0, 1)), 0, "b", span(0, 0), api.ErrNone},
		{book(2, swap(7, 0, 1), swap(8, 0, 1)), 0, "b", span(7, 7), api.OK},
		// The first day is of one truth, the last one of another.
		{book(3, either(5, 0, 1, 0, 2), swap(9, 1, 2)), 0, "b", span(5, 364), api.OK},
		{twice, 0, "x", span(3, 364), api.OK},
		{twice, 0, "y", span(20, 29), api.OK},
		{twice, 1, "x", span(9, 14), api.OK},
		{twice, 1, "y", span(15, 19), api.OK},
	} {
		if got, e := head.Between(c.b, c.head, c.as); got != c.want || e != c.e {
			t.Errorf("%d: Between = %v, %d, not %v, %d", i, got, e, c.want, c.e)
		}
	}
}

func TestP3_5Wrong(t *testing.T) {
	for i, c := range []struct {
		b    api.HeBook
		want []int
	}{
		{example(), nil},
		{exampleW(), []int{3}},
		{api.HeBook{}, nil},
		{book(1, not(0, 0, 0)), []int{0}},
		{book(1, not(0, 0, 0), not(9, 0, 0), not(9, 0, 0)), []int{0, 1, 2}},
		{book(2, swap(3, 0, 1), seen(3, 0, 0)), []int{0}},
		{book(2, swap(3, 0, 1), seen(3, 0, 0), not(3, 0, 1)), []int{0}},
		{book(2, seen(3, 0, 0), not(3, 0, 0)), []int{1}},
		{book(2, swap(3, 0, 1), seen(3, 0, 0), seen(3, 0, 1)), []int{1}},
		// Of two lists with two lines the first one.
		{book(3, seen(3, 0, 1), swap(3, 0, 1), seen(4, 0, 0)), []int{0, 1}},
		{book(3, seen(3, 0, 0), seen(3, 1, 0), seen(4, 0, 1), seen(5, 0, 0)), []int{1, 2}},
		// Not the first line alone, but a later one.
		{book(3, swap(1, 0, 1), swap(2, 1, 2), seen(3, 2, 1)), []int{0}},
		{book(3, swap(1, 0, 1), swap(2, 1, 2), seen(3, 2, 2)), []int{1}},
		{book(4, swap(1, 0, 1), swap(2, 2, 3), seen(3, 0, 1), seen(3, 2, 2)), []int{1}},
		// What stays away need not have been written at all: the later lines are as they were.
		{book(3, some(1, 0, 1), seen(1, 2, 2), some(2, 1, 2), seen(2, 2, 2)), []int{2}},
	} {
		if got, e := head.Wrong(c.b); !slices.Equal(got, c.want) || e != api.OK {
			t.Errorf("%d: Wrong = %v, %d, not %v", i, got, e, c.want)
		}
	}
}

// callAll calls every function, and returns all results as a text.
func callAll(b api.HeBook, of, day int, as string) string {
	var out []any
	call := func(results ...any) { out = append(out, results...) }
	call(head.Check(b))
	call(head.First(b))
	call(head.Where(b, of, day))
	call(head.On(b, of, day))
	call(head.Many(b, day))
	call(head.As(b, of, day))
	call(head.Ever(b, of))
	call(head.Between(b, of, as))
	call(head.Wrong(b))
	return fmt.Sprint(out...)
}

func TestP3_14AnyArguments(t *testing.T) {
	odd := []int{math.MinInt, -5, -1, 0, 1, 2, 4, 5, 31, 32, 63, 64, 364, 365, math.MaxInt}
	books := []api.HeBook{{}, example(), exampleW(), full(), {Bodies: make([]api.HeBody, 1000), Heads: make([]string, 1000), Lines: make([]api.HeLine, 1000)}, {Lines: make([]api.HeLine, 8)}}
	for _, n := range odd {
		for _, do := range []func(b *api.HeBook){
			func(b *api.HeBook) { b.Bodies[0].Shown[1].Day = n },
			func(b *api.HeBook) { b.Lines[1].Day = n },
			func(b *api.HeBook) { b.Lines[3].Kind = n },
			func(b *api.HeBook) { b.Lines[1].A = n },
			func(b *api.HeBook) { b.Lines[3].B = n },
			func(b *api.HeBook) { b.Lines[1].C = n },
			func(b *api.HeBook) { b.Lines[1].D = n },
			func(b *api.HeBook) { b.Lines[2].Set = n },
			func(b *api.HeBook) { b.Heads[1] = strings.Repeat("a", max(0, min(n, 1000))) },
			func(b *api.HeBook) { *b = book(max(0, min(n, 1000)), b.Lines...) },
		} {
			books = append(books, change{do: do}.book())
		}
	}
	for _, b := range books {
		before := fmt.Sprint(b)
		for _, n := range odd {
			as := strings.Repeat("k", max(0, min(n, 1000)))
			first := callAll(b, n, n, as)
			if again := callAll(b, n, n, as); again != first {
				t.Fatalf("%v, %d: %s, and then %s", b, n, first, again)
			}
			callAll(b, 0, n, "king")
		}
		if fmt.Sprint(b) != before {
			t.Errorf("%s was modified: %v", before, b)
		}
	}
}

func TestP3_14NewMemory(t *testing.T) {
	b := example()
	before := fmt.Sprint(b)
	text := callAll(b, ada, 18, "king")
	pairs, _ := head.First(b)
	bodies, _ := head.Where(b, ada, 18)
	heads, _ := head.On(b, c, 18)
	as, _ := head.As(b, ada, 18)
	sure, may, _ := head.Ever(b, cy)
	wrong, _ := head.Wrong(exampleW())
	pairs[0].A, bodies[0], heads[0], as[0], sure[0], wrong[0] = 4, 4, 4, "x", "x", 4
	if may[0] != "bishop" {
		t.Error("sure and may of Ever share memory")
	}
	may[0] = "y"
	if fmt.Sprint(b) != before || callAll(b, ada, 18, "king") != text {
		t.Error("a result shares memory with the book, or is kept")
	}
}

func TestP3_14NilAndEmpty(t *testing.T) {
	none, empty := book(2), book(2)
	none.Bodies[1].Shown, none.Lines = nil, nil
	empty.Bodies[1].Shown, empty.Lines = []api.HeShown{}, []api.HeLine{}
	nothing := api.HeBook{Bodies: []api.HeBody{}, Heads: []string{}, Lines: []api.HeLine{}}
	if a, b := callAll(none, 1, 1, "a"), callAll(empty, 1, 1, "a"); a != b {
		t.Errorf("%s, and %s", a, b)
	}
	if a, b := callAll(api.HeBook{}, 0, 0, "a"), callAll(nothing, 0, 0, "a"); a != b {
		t.Errorf("%s, and %s", a, b)
	}
}

// full is a book with as many truths as can be.
func full() api.HeBook {
	b := book(5)
	for i := range b.Bodies {
		b.Bodies[i].Shown = []api.HeShown{from(i, "x"), from(50+i, "y"), from(100+i, b.Heads[i])}
	}
	for i := range api.MaxHeLines {
		b.Lines = append(b.Lines, either(10*i, i%5, (i+1)%5, (i+2)%5, (i+3)%5))
	}
	b.Lines[0], b.Lines[1] = some(0, 0, 1, 2, 3, 4), some(10, 0, 1, 2, 3, 4)
	return b
}

func BenchmarkEver(b *testing.B) {
	full := full()
	for b.Loop() {
		head.Ever(full, 0)
	}
}

func BenchmarkWrong(b *testing.B) {
	full := full()
	full.Lines = slices.Insert(full.Lines[:6], 0, seen(0, 0, 1), seen(0, 0, 0))
	full.Lines[7] = not(364, 0, 0)
	for b.Loop() {
		head.Wrong(full)
	}
}
