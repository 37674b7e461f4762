package head_test

import (
	"cmp"
	"math/rand"
	"slices"
	"testing"

	"ceroplast/api"
	"ceroplast/head"
)

// The definitions, word by word.

// told is a truth: the pair of each line, and who has which head at first and once each line is done.
type told struct {
	pairs []api.HePair
	after [][]int
}

// pairsOf returns the pairs of which a line says that their heads were exchanged, ascending.
func pairsOf(line api.HeLine) []api.HePair {
	sorted := func(a, b int) api.HePair { return pair(min(a, b), max(a, b)) }
	var pairs []api.HePair
	switch line.Kind {
	case api.HeSwap:
		return []api.HePair{sorted(line.A, line.B)}
	case api.HeEither:
		pairs = []api.HePair{sorted(line.A, line.B), sorted(line.C, line.D)}
	case api.HeSome:
		for b := range api.MaxHeBodies {
			for a := range b {
				if line.Set&(1<<a) != 0 && line.Set&(1<<b) != 0 {
					pairs = append(pairs, pair(a, b))
				}
			}
		}
	}
	slices.SortFunc(pairs, func(p, q api.HePair) int { return cmp.Or(cmp.Compare(p.A, q.A), cmp.Compare(p.B, q.B)) })
	return slices.Compact(pairs)
}

func exchanged(has []int, p api.HePair) []int {
	has = slices.Clone(has)
	has[p.A], has[p.B] = has[p.B], has[p.A]
	return has
}

// truthsOf returns all truths, in order: those without lines, and then with one line more, and so on.
func truthsOf(b api.HeBook) []told {
	var first []int
	for i := range b.Bodies {
		first = append(first, i)
	}
	truths := []told{{after: [][]int{first}}}
	for _, line := range b.Lines {
		var more []told
		for _, t := range truths {
			has := t.after[len(t.after)-1]
			with := func(p api.HePair, now []int) {
				more = append(more, told{append(slices.Clone(t.pairs), p), append(slices.Clone(t.after), now)})
			}
			switch {
			case line.Kind < api.HeSeen:
				for _, p := range pairsOf(line) {
					with(p, exchanged(has, p))
				}
			case (has[line.A] == line.B) == (line.Kind == api.HeSeen):
				with(api.HePair{}, has)
			}
		}
		truths = more
	}
	return truths
}

// on returns who has which head on a day of a truth.
func (t told) on(b api.HeBook, day int) []int {
	done := 0
	for done < len(b.Lines) && b.Lines[done].Day <= day {
		done++
	}
	return t.after[done]
}

// shownAs returns as whom a body is shown on a day, "" if as nobody.
func shownAs(body api.HeBody, day int) string {
	as := ""
	for _, s := range body.Shown {
		if s.Day <= day {
			as = s.As
		}
	}
	return as
}

// as returns as whom a head is shown on a day of a truth, "" if as nobody.
func (t told) as(b api.HeBook, head, day int) string {
	return shownAs(b.Bodies[slices.Index(t.on(b, day), head)], day)
}

// names returns as whom a head is shown on all days, each by its first and its last day.
func (t told) names(b api.HeBook, head int) map[string]api.Span {
	days := map[string]api.Span{}
	for day := range api.MaxDay + 1 {
		if as := t.as(b, head, day); as != "" {
			if s, ok := days[as]; ok {
				days[as] = span(s.Lo, day)
			} else {
				days[as] = span(day, day)
			}
		}
	}
	return days
}

func ascending[T cmp.Ordered](list []T) []T {
	slices.Sort(list)
	return slices.Compact(list)
}

// daysOf returns the days on which something can change, the days before them, and one at random.
func daysOf(r *rand.Rand, b api.HeBook) []int {
	days := []int{0, api.MaxDay, r.Intn(api.MaxDay + 1)}
	for _, line := range b.Lines {
		days = append(days, line.Day, max(0, line.Day-1))
	}
	for _, body := range b.Bodies {
		for _, s := range body.Shown {
			days = append(days, s.Day, max(0, s.Day-1))
		}
	}
	return ascending(days)
}

// Books at random.

func randomShown(r *rand.Rand) []api.HeShown {
	var shown []api.HeShown
	day := r.Intn(3) * r.Intn(20)
	for range r.Intn(4) {
		shown = append(shown, from(day, string(rune('p'+r.Intn(5)))))
		day += 1 + r.Intn(30)
	}
	return shown
}

func randomBodies(r *rand.Rand, bodies int) api.HeBook {
	b := book(bodies)
	for i := range b.Bodies {
		b.Bodies[i].Shown = randomShown(r)
	}
	return b
}

func randomPair(r *rand.Rand, bodies int) (a, b int) {
	a, b = r.Intn(bodies), r.Intn(bodies-1)
	if b >= a {
		b++
	}
	return a, b
}

// randomExchange is a line that tells of an exchange of the heads of a and b; it is a HeSome only if it can be.
func randomExchange(r *rand.Rand, day, bodies, a, b int, canBeSome bool) api.HeLine {
	switch r.Intn(3) {
	case 0:
		c, d := randomPair(r, bodies)
		if r.Intn(2) == 0 {
			return either(day, c, d, a, b)
		}
		return either(day, a, b, c, d)
	case 1:
		if canBeSome {
			line := some(day, a, b)
			line.Set |= r.Intn(1 << bodies)
			return line
		}
	}
	return swap(day, a, b)
}

// trueBook is a book of what really was, and who had which head once each line was done, and at first.
func trueBook(r *rand.Rand, bodies int) (api.HeBook, [][]int) {
	b := randomBodies(r, bodies)
	has := truthsOf(b)[0].after[0]
	after := [][]int{has}
	day, somes := 0, 0
	for range r.Intn(api.MaxHeLines + 1) {
		day += r.Intn(3) * r.Intn(20)
		line := seen(day, 0, has[0])
		if body, head := r.Intn(bodies), r.Intn(bodies); r.Intn(5) < 2 || bodies == 1 {
			line = seen(day, body, has[body])
			if has[body] != head {
				line = not(day, body, head)
			}
		} else {
			a, c := randomPair(r, bodies)
			line = randomExchange(r, day, bodies, a, c, somes < api.MaxHeSome)
			if line.Kind == api.HeSome {
				somes++
			}
			has = exchanged(has, pair(a, c))
		}
		b.Lines = append(b.Lines, line)
		after = append(after, has)
	}
	return b, after
}

// randomBook is a book of what was, with some of what was seen made wrong.
func randomBook(r *rand.Rand) api.HeBook {
	bodies := 1 + r.Intn(api.MaxHeBodies)
	b, _ := trueBook(r, bodies)
	for i, line := range b.Lines {
		if line.Kind >= api.HeSeen && r.Intn(5) == 0 {
			b.Lines[i] = []api.HeLine{seen(line.Day, line.A, r.Intn(bodies)), not(line.Day, line.A, line.B)}[r.Intn(2)]
		}
	}
	return b
}

func possible(b api.HeBook) bool {
	_, e := head.First(b)
	return e == api.OK
}

// answer is all that is told of a book on a day.
type answer struct {
	where, on [][]int
	many      int
	as        [][]string
}

func answerOn(t *testing.T, b api.HeBook, day int) answer {
	t.Helper()
	var a answer
	var e api.Errno
	a.many, e = head.Many(b, day)
	if e != api.OK {
		t.Fatalf("%v: Many on %d: %d", b, day, e)
	}
	for i := range b.Bodies {
		where, e1 := head.Where(b, i, day)
		on, e2 := head.On(b, i, day)
		as, e3 := head.As(b, i, day)
		if e1 != api.OK || e2 != api.OK || e3 != api.OK {
			t.Fatalf("%v: %d on %d: %d, %d, %d", b, i, day, e1, e2, e3)
		}
		a.where, a.on, a.as = append(a.where, where), append(a.on, on), append(a.as, as)
	}
	return a
}

func (a answer) equal(other answer) bool {
	return a.many == other.many && slices.EqualFunc(a.where, other.where, slices.Equal[[]int]) && slices.EqualFunc(a.on, other.on, slices.Equal[[]int]) && slices.EqualFunc(a.as, other.as, slices.Equal[[]string])
}

func isSubset[T comparable](list, of []T) bool {
	return !slices.ContainsFunc(list, func(x T) bool { return !slices.Contains(of, x) })
}

// within reports whether nothing is told that was not told before.
func (a answer) within(before answer) bool {
	for i := range a.where {
		if !isSubset(a.where[i], before.where[i]) || !isSubset(a.on[i], before.on[i]) || !isSubset(a.as[i], before.as[i]) {
			return false
		}
	}
	return a.many <= before.many
}

// compare compares what is told of a book on each day with what is told of it once it was changed.
func compare(t *testing.T, r *rand.Rand, b, changed api.HeBook, does func(day int, before, now answer) bool) {
	t.Helper()
	for _, day := range daysOf(r, changed) {
		if before, now := answerOn(t, b, day), answerOn(t, changed, day); !does(day, before, now) {
			t.Fatalf("%v on %d, and then %v: %v, before %v", b, day, changed, now, before)
		}
	}
}

func ever(t *testing.T, b api.HeBook, of int) (sure, may []string) {
	t.Helper()
	sure, may, e := head.Ever(b, of)
	if e != api.OK {
		t.Fatalf("%v: Ever of %d: %d", b, of, e)
	}
	return sure, may
}

func between(t *testing.T, b api.HeBook, of int, as string) api.Span {
	t.Helper()
	s, e := head.Between(b, of, as)
	if e != api.OK {
		t.Fatalf("%v: Between of %d as %s: %d", b, of, as, e)
	}
	return s
}

func TestP3_2AgainstTheDefinition(t *testing.T) {
	r := rand.New(rand.NewSource(302))
	truths := map[bool]int{}
	for range 3000 {
		b := randomBook(r)
		want, wantE := []api.HePair(nil), api.ErrZero
		if all := truthsOf(b); len(all) > 0 {
			want, wantE = all[0].pairs, api.OK
		}
		if got, e := head.First(b); !slices.Equal(got, want) || e != wantE {
			t.Fatalf("%v: First = %v, %d, not %v, %d", b, got, e, want, wantE)
		}
		truths[wantE == api.OK]++
	}
	if truths[true] < 1000 || truths[false] < 300 {
		t.Errorf("too few with a truth, or without: %v", truths)
	}
}

func TestP3_3AndP3_4OnADayAgainstTheDefinition(t *testing.T) {
	r := rand.New(rand.NewSource(303))
	doubts := 0
	for range 600 {
		b := randomBook(r)
		truths := truthsOf(b)
		if len(truths) == 0 {
			continue
		}
		for _, day := range daysOf(r, b) {
			var ways [][]int
			for _, truth := range truths {
				ways = append(ways, truth.on(b, day))
			}
			slices.SortFunc(ways, slices.Compare)
			ways = slices.CompactFunc(ways, slices.Equal[[]int])
			want := answer{many: len(ways)}
			for i := range b.Bodies {
				var where, on []int
				var as []string
				for _, has := range ways {
					body := slices.Index(has, i)
					where, on = append(where, body), append(on, has[i])
					if name := shownAs(b.Bodies[body], day); name != "" {
						as = append(as, name)
					}
				}
				want.where, want.on, want.as = append(want.where, ascending(where)), append(want.on, ascending(on)), append(want.as, ascending(as))
			}
			if got := answerOn(t, b, day); !got.equal(want) {
				t.Fatalf("%v on %d: %v, not %v", b, day, got, want)
			}
			if want.many > 1 {
				doubts++
			}
		}
	}
	if doubts < 500 {
		t.Errorf("only %d days in doubt", doubts)
	}
}

func TestP3_4EverAndBetweenAgainstTheDefinition(t *testing.T) {
	r := rand.New(rand.NewSource(304))
	sures, doubts, nevers := 0, 0, 0
	for range 400 {
		b := randomBook(r)
		truths := truthsOf(b)
		if len(truths) == 0 || len(truths) > 100 {
			continue
		}
		of := r.Intn(len(b.Bodies))
		in := map[string]int{}
		days := map[string]api.Span{}
		for _, truth := range truths {
			for as, s := range truth.names(b, of) {
				if in[as] > 0 {
					s = span(min(s.Lo, days[as].Lo), max(s.Hi, days[as].Hi))
				}
				in[as]++
				days[as] = s
			}
		}
		gotSure, gotMay := ever(t, b, of)
		var sure, may []string
		for _, as := range []string{"p", "q", "r", "s", "t"} {
			s, e := head.Between(b, of, as)
			if in[as] == 0 {
				nevers++
				if s != span(0, 0) || e != api.ErrNone {
					t.Fatalf("%v: Between of %d as %s = %v, %d", b, of, as, s, e)
				}
				continue
			}
			if s != days[as] || e != api.OK {
				t.Fatalf("%v: Between of %d as %s = %v, %d, not %v", b, of, as, s, e, days[as])
			}
			may = append(may, as)
			if in[as] == len(truths) {
				sure = append(sure, as)
				sures++
			} else {
				doubts++
			}
		}
		if !slices.Equal(gotSure, sure) || !slices.Equal(gotMay, may) {
			t.Fatalf("%v: Ever of %d = %v, %v, not %v, %v", b, of, gotSure, gotMay, sure, may)
		}
	}
	if sures < 100 || doubts < 100 || nevers < 100 {
		t.Errorf("too few that are sure, or not, or never: %d, %d, %d", sures, doubts, nevers)
	}
}

// without is a book as if some of its lines had never been written.
func without(b api.HeBook, lines []int) api.HeBook {
	b = clone(b)
	for _, i := range slices.Backward(lines) {
		b.Lines = slices.Delete(b.Lines, i, i+1)
	}
	return b
}

// listsOf returns all lists of so many numbers below many, in order.
func listsOf(many, size int) [][]int {
	if size == 0 {
		return [][]int{nil}
	}
	var lists [][]int
	for last := range many {
		for _, list := range listsOf(last, size-1) {
			lists = append(lists, append(slices.Clone(list), last))
		}
	}
	slices.SortFunc(lists, slices.Compare)
	return lists
}

func wrongOf(b api.HeBook) []int {
	for size := 0; ; size++ {
		for _, list := range listsOf(len(b.Lines), size) {
			if len(truthsOf(without(b, list))) > 0 {
				return list
			}
		}
	}
}

// worseBook is a book in which several lines can be wrong.
func worseBook(r *rand.Rand) api.HeBook {
	b := randomBook(r)
	for i, line := range b.Lines {
		if r.Intn(2) == 0 {
			b.Lines[i] = seen(line.Day, r.Intn(len(b.Bodies)), r.Intn(len(b.Bodies)))
		}
	}
	return b
}

func TestP3_5AgainstTheDefinition(t *testing.T) {
	r := rand.New(rand.NewSource(305))
	var wrongs [api.MaxHeLines + 1]int
	for range 1500 {
		b := worseBook(r)
		want := wrongOf(b)
		if got, e := head.Wrong(b); !slices.Equal(got, want) || e != api.OK {
			t.Fatalf("%v: Wrong = %v, %d, not %v", b, got, e, want)
		}
		wrongs[len(want)]++
	}
	if wrongs[0] < 100 || wrongs[1] < 100 || wrongs[2] < 50 || wrongs[3] < 10 {
		t.Errorf("too few with so many wrong lines: %v", wrongs)
	}
}

func TestP3_6WhatReallyWas(t *testing.T) {
	r := rand.New(rand.NewSource(306))
	for range 600 {
		b, after := trueBook(r, 1+r.Intn(api.MaxHeBodies))
		was := told{after: after}
		if wrong, e := head.Wrong(b); len(wrong) > 0 || e != api.OK {
			t.Fatalf("%v: Wrong = %v, %d", b, wrong, e)
		}
		for _, day := range daysOf(r, b) {
			got := answerOn(t, b, day)
			for body, of := range was.on(b, day) {
				as := was.as(b, of, day)
				if !slices.Contains(got.where[of], body) || !slices.Contains(got.on[body], of) || as != "" && !slices.Contains(got.as[of], as) {
					t.Fatalf("%v on %d: %d has %d, shown as %q, but %v", b, day, body, of, as, got)
				}
			}
		}
		of := r.Intn(len(b.Bodies))
		sure, may := ever(t, b, of)
		names := was.names(b, of)
		for as, days := range names {
			if s := between(t, b, of, as); !slices.Contains(may, as) || s.Lo > days.Lo || s.Hi < days.Hi {
				t.Fatalf("%v: %d is %s on %v, but Ever = %v, Between = %v", b, of, as, days, may, s)
			}
		}
		for _, as := range sure {
			if _, ok := names[as]; !ok {
				t.Fatalf("%v: %d is never %s, but Ever = %v", b, of, as, sure)
			}
		}
	}
}

func TestP3_7OneMoreThatWasSeen(t *testing.T) {
	r := rand.New(rand.NewSource(307))
	less := 0
	for range 600 {
		b := randomBook(r)
		if len(b.Lines) == api.MaxHeLines || !possible(b) {
			continue
		}
		bodies := len(b.Bodies)
		at := r.Intn(len(b.Lines) + 1)
		day := r.Intn(50)
		if at > 0 {
			day = b.Lines[at-1].Day
		}
		if at < len(b.Lines) {
			day = b.Lines[at].Day
		}
		line := []api.HeLine{seen(day, r.Intn(bodies), r.Intn(bodies)), not(day, r.Intn(bodies), r.Intn(bodies))}[r.Intn(2)]
		more := clone(b)
		more.Lines = slices.Insert(more.Lines, at, line)
		if !possible(more) {
			continue
		}
		compare(t, r, b, more, func(_ int, before, now answer) bool {
			if now.many < before.many {
				less++
			}
			return now.within(before)
		})
		for of := range b.Bodies {
			sure, may := ever(t, b, of)
			sureNow, mayNow := ever(t, more, of)
			if !isSubset(mayNow, may) || !isSubset(sure, sureNow) {
				t.Fatalf("%v, with %v at %d: Ever of %d = %v, %v, before %v, %v", b, line, at, of, sureNow, mayNow, sure, may)
			}
			for _, as := range mayNow {
				if s, before := between(t, more, of, as), between(t, b, of, as); s.Lo < before.Lo || s.Hi > before.Hi {
					t.Fatalf("%v, with %v at %d: Between of %d as %s = %v, before %v", b, line, at, of, as, s, before)
				}
			}
		}
	}
	if less < 200 {
		t.Errorf("only %d days with less doubt", less)
	}
}

func TestP3_7OneMoreExchange(t *testing.T) {
	r := rand.New(rand.NewSource(317))
	for range 400 {
		b := randomBook(r)
		bodies := len(b.Bodies)
		if len(b.Lines) == api.MaxHeLines || bodies == 1 || !possible(b) {
			continue
		}
		last := 0
		if len(b.Lines) > 0 {
			last = b.Lines[len(b.Lines)-1].Day
		}
		somes := 0
		for _, line := range b.Lines {
			if line.Kind == api.HeSome {
				somes++
			}
		}
		day := last + r.Intn(20)
		p, q := randomPair(r, bodies)
		more := clone(b)
		more.Lines = append(more.Lines, randomExchange(r, day, bodies, p, q, somes < api.MaxHeSome))
		compare(t, r, b, more, func(d int, before, now answer) bool { return d >= day || now.equal(before) })
	}
}

func TestP3_8FewestWrong(t *testing.T) {
	r := rand.New(rand.NewSource(308))
	wrongs := 0
	for range 1000 {
		b := worseBook(r)
		wrong, e := head.Wrong(b)
		if e != api.OK || !possible(without(b, wrong)) {
			t.Fatalf("%v: Wrong = %v, %d, and still no truth", b, wrong, e)
		}
		for size := range len(wrong) {
			for _, list := range listsOf(len(b.Lines), size) {
				if possible(without(b, list)) {
					t.Fatalf("%v: Wrong = %v, but without %v there is a truth", b, wrong, list)
				}
			}
		}
		wrongs += len(wrong)
	}
	if wrongs < 500 {
		t.Errorf("only %d wrong lines", wrongs)
	}
}

func TestP3_9EachSomewhere(t *testing.T) {
	r := rand.New(rand.NewSource(309))
	for range 600 {
		b := randomBook(r)
		if !possible(b) {
			continue
		}
		day := r.Intn(100)
		got := answerOn(t, b, day)
		for i := range b.Bodies {
			if len(got.where[i]) == 0 || len(got.on[i]) == 0 || got.many < len(got.where[i]) || got.many < len(got.on[i]) {
				t.Fatalf("%v on %d: %v of %d", b, day, got, i)
			}
			for of := range b.Heads {
				if slices.Contains(got.where[of], i) != slices.Contains(got.on[i], of) {
					t.Fatalf("%v on %d: %v, of the body %d and the head %d", b, day, got, i, of)
				}
			}
		}
	}
}

func TestP3_10And11EverAndBetween(t *testing.T) {
	r := rand.New(rand.NewSource(310))
	shown := 0
	for range 150 {
		b := randomBook(r)
		if !possible(b) {
			continue
		}
		of := r.Intn(len(b.Bodies))
		sure, may := ever(t, b, of)
		if !isSubset(sure, may) {
			t.Fatalf("%v: Ever of %d = %v, %v", b, of, sure, may)
		}
		days := map[string][]int{}
		for day := range api.MaxDay + 1 {
			as, e := head.As(b, of, day)
			if e != api.OK || !isSubset(as, may) {
				t.Fatalf("%v on %d: As of %d = %v, %d, but Ever has %v", b, day, of, as, e, may)
			}
			for _, name := range as {
				days[name] = append(days[name], day)
			}
		}
		if len(days) != len(may) {
			t.Fatalf("%v: %d can be shown as %v, but Ever has %v", b, of, days, may)
		}
		for as, list := range days {
			if s := between(t, b, of, as); s != span(list[0], list[len(list)-1]) {
				t.Fatalf("%v: Between of %d as %s = %v, but on %v", b, of, as, s, list)
			}
			shown++
		}
	}
	if shown < 100 {
		t.Errorf("only %d shown", shown)
	}
}

func TestP3_12Back(t *testing.T) {
	r := rand.New(rand.NewSource(312))
	backs := 0
	for range 600 {
		b := randomBook(r)
		if len(b.Lines)+2 > api.MaxHeLines || len(b.Bodies) == 1 || !possible(b) {
			continue
		}
		at := r.Intn(len(b.Lines) + 1)
		day := 0
		if at > 0 {
			day = b.Lines[at-1].Day
		}
		p, q := randomPair(r, len(b.Bodies))
		back := clone(b)
		back.Lines = slices.Insert(back.Lines, at, swap(day, p, q), swap(day, q, p))
		compare(t, r, b, back, func(_ int, before, now answer) bool { return now.equal(before) })
		backs++
	}
	if backs < 50 {
		t.Errorf("only %d books", backs)
	}
}

func TestP3_13ToldApart(t *testing.T) {
	r := rand.New(rand.NewSource(313))
	apart, fewer := 0, 0
	for range 400 {
		b := randomBook(r)
		for i, line := range b.Lines {
			if line.Kind != api.HeEither && line.Kind != api.HeSome || !possible(b) {
				continue
			}
			ways := pairsOf(line)
			p := ways[r.Intn(len(ways))]
			one := clone(b)
			one.Lines[i] = swap(line.Day, p.B, p.A)
			if !possible(one) {
				continue
			}
			apart++
			compare(t, r, b, one, func(_ int, before, now answer) bool {
				if now.many < before.many {
					fewer++
				}
				return now.within(before)
			})
		}
	}
	if apart < 200 || fewer < 200 {
		t.Errorf("only %d told apart, fewer ways on %d days", apart, fewer)
	}
}
