package van_test

import (
	"cmp"
	"iter"
	"math/rand"
	"slices"
	"testing"

	"ceroplast/api"
	"ceroplast/van"
)

// The definitions, word by word.

// lying returns the crates of a van that are still in it at a stop, the one farthest from the door first.
func lying(t api.VaTrain, plan []int, vehicle, stop int) []int {
	var crates []int
	for crate, c := range t.Crates {
		if plan[crate] == vehicle && c.Stop >= stop {
			crates = append(crates, crate)
		}
	}
	return crates
}

func twiceAt(t api.VaTrain, plan []int, vehicle, stop int) int {
	crates := lying(t, plan, vehicle, stop)
	many := 0
	for i, crate := range crates {
		isBehind := slices.ContainsFunc(crates[:i], func(other int) bool { return t.Crates[other].Stop == stop })
		if t.Crates[crate].Stop != stop && isBehind {
			many++
		}
	}
	return many
}

func twiceOf(t api.VaTrain, plan []int, vehicle int) []int {
	var twice []int
	for stop := range t.Stops {
		twice = append(twice, twiceAt(t, plan, vehicle, stop))
	}
	return twice
}

// comesOf returns when a van comes to each stop, if its legs take so long.
func comesOf(t api.VaTrain, plan []int, vehicle int, legs []int) []int {
	var comes []int
	minute := t.Vans[vehicle].Leave
	for stop, leg := range legs {
		minute += leg
		comes = append(comes, minute)
		minute += twiceAt(t, plan, vehicle, stop) * t.Handle
	}
	return comes
}

// roadsOf yields how long all legs of a van can take; each time in the same memory.
func roadsOf(v api.VaVan) iter.Seq[[]int] {
	legs := make([]int, len(v.Legs))
	return func(yield func([]int) bool) {
		var from func(stop int) bool
		from = func(stop int) bool {
			if stop == len(legs) {
				return yield(legs)
			}
			for minutes := v.Legs[stop].Lo; minutes <= v.Legs[stop].Hi; minutes++ {
				legs[stop] = minutes
				if !from(stop + 1) {
					return false
				}
			}
			return true
		}
		from(0)
	}
}

// timesOf returns when a van comes to each stop in those truths that do; nil, if none does.
func timesOf(t api.VaTrain, plan []int, vehicle int, does func(comes []int) bool) []api.Span {
	var times []api.Span
	for legs := range roadsOf(t.Vans[vehicle]) {
		comes := comesOf(t, plan, vehicle, legs)
		if !does(comes) {
			continue
		}
		if times == nil {
			for _, minute := range comes {
				times = append(times, span(minute, minute))
			}
		}
		for stop, minute := range comes {
			times[stop] = span(min(times[stop].Lo, minute), max(times[stop].Hi, minute))
		}
	}
	return times
}

func always([]int) bool { return true }

func arrivesOf(t api.VaTrain, plan []int, crate int) int {
	if plan[crate] == none {
		return api.VaNever
	}
	c, there, many := t.Crates[crate], 0, 0
	for legs := range roadsOf(t.Vans[plan[crate]]) {
		many++
		if comesOf(t, plan, plan[crate], legs)[c.Stop] <= c.By {
			there++
		}
	}
	switch there {
	case many:
		return api.VaSure
	case 0:
		return api.VaNever
	}
	return api.VaMay
}

// isPlan reports whether a list of vans is a plan, beside the pairs.
func isPlan(t api.VaTrain, plan []int) bool {
	for vehicle, v := range t.Vans {
		size := 0
		for crate, c := range t.Crates {
			if plan[crate] == vehicle {
				size += c.Size
			}
		}
		if size > v.Room {
			return false
		}
	}
	return true
}

// brokenBy returns the pairs whose crates are in the same van.
func brokenBy(t api.VaTrain, plan []int) []int {
	var pairs []int
	for i, pair := range t.Apart {
		if plan[pair.A] != none && plan[pair.A] == plan[pair.B] {
			pairs = append(pairs, i)
		}
	}
	return pairs
}

// listsOf yields all lists of vans for the crates, in no order.
func listsOf(t api.VaTrain) iter.Seq[[]int] {
	many := 1
	for range t.Crates {
		many *= len(t.Vans) + 1
	}
	return func(yield func([]int) bool) {
		for number := range many {
			plan := []int{}
			for range t.Crates {
				plan = append(plan, number%(len(t.Vans)+1)-1)
				number /= len(t.Vans) + 1
			}
			if !yield(plan) {
				return
			}
		}
	}
}

func comparePlans(p, q []int) int {
	return slices.CompareFunc(p, q, func(a, b int) int {
		switch {
		case a == b:
			return 0
		case a == none:
			return 1
		case b == none:
			return -1
		}
		return cmp.Compare(a, b)
	})
}

// fate is what is told of a plan: how late each crate can be at most, how many surely are there in time, and how many are handled twice.
type fate struct {
	late        []int
	sure, twice int
}

func fateOf(t api.VaTrain, plan []int) fate {
	var f fate
	times := make([][]api.Span, len(t.Vans))
	for vehicle := range t.Vans {
		times[vehicle] = timesOf(t, plan, vehicle, always)
		for stop := range t.Stops {
			f.twice += twiceAt(t, plan, vehicle, stop)
		}
	}
	for crate, c := range t.Crates {
		if plan[crate] == none {
			continue
		}
		late := times[plan[crate]][c.Stop].Hi - c.By
		f.late = append(f.late, late)
		if late <= 0 {
			f.sure++
		}
	}
	return f
}

// compareLists compares lists of pairs: the shorter one is first.
func compareLists(a, b []int) int { return cmp.Or(cmp.Compare(len(a), len(b)), slices.Compare(a, b)) }

// earlierOf returns the fewest minutes by which the vans have to leave earlier; -1, if none will do.
func earlierOf(t api.VaTrain, plan []int, f fate) int {
	if slices.Contains(plan, none) {
		return -1
	}
	for minutes := range api.MaxVaEarlier + 1 {
		if !slices.ContainsFunc(f.late, func(late int) bool { return late-minutes > 0 }) {
			return minutes
		}
	}
	return -1
}

// truthOf returns what is told of a train by all its plans.
func truthOf(t api.VaTrain) answers {
	a := answers{t: t, sure: -1, notLoose: api.ErrDown, notEarlier: api.ErrDown}
	some := make([]bool, len(t.Crates))
	for plan := range listsOf(t) {
		if !isPlan(t, plan) {
			continue
		}
		f, pairs := fateOf(t, plan), brokenBy(t, plan)
		if f.sure == len(t.Crates) && (a.notLoose != api.OK || compareLists(pairs, a.loose) < 0) {
			a.loose, a.notLoose = pairs, api.OK
		}
		if len(pairs) > 0 {
			continue
		}
		order := cmp.Or(cmp.Compare(a.sure, f.sure), cmp.Compare(f.twice, a.twice))
		if order < 0 || order == 0 && comparePlans(plan, a.best) < 0 {
			a.best, a.sure, a.twice = plan, f.sure, f.twice
		}
		if minutes := earlierOf(t, plan, f); minutes >= 0 && (a.notEarlier != api.OK || minutes < a.earlier) {
			a.earlier, a.notEarlier = minutes, api.OK
		}
		for crate := range some {
			some[crate] = some[crate] || arrivesOf(t, plan, crate) == api.VaSure
		}
	}
	for crate := range some {
		if !some[crate] {
			a.never = append(a.never, crate)
		}
	}
	return a
}

func randomSpan(r *rand.Rand, lo, hi, width int) api.Span {
	at := lo + r.Intn(hi-lo+1)
	return span(at, min(hi, at+r.Intn(width)))
}

// trainWithin is a train of so many of each, whose legs are that wide at most.
func trainWithin(r *rand.Rand, vans, stops, crates, pairs, width int) api.VaTrain {
	t := api.VaTrain{Stops: stops, Handle: r.Intn(8)}
	for i := range vans {
		v := api.VaVan{Name: string(rune('a' + i)), Room: 3 + r.Intn(9), Leave: r.Intn(12)}
		for range stops {
			v.Legs = append(v.Legs, randomSpan(r, 0, 12+width, width))
		}
		t.Vans = append(t.Vans, v)
	}
	for i := range crates {
		stop := r.Intn(stops)
		t.Crates = append(t.Crates, aCrate(string(rune('a'+i)), 1+r.Intn(4), stop, 5+r.Intn((stop+1)*(14+width))))
	}
	for range pairs {
		if crates > 1 {
			b := 1 + r.Intn(crates-1)
			t.Apart = append(t.Apart, aPair(r.Intn(b), b))
		}
	}
	return t
}

func randomTrain(r *rand.Rand) api.VaTrain {
	return trainWithin(r, 1+r.Intn(2), 1+r.Intn(3), r.Intn(5), r.Intn(4), 3)
}

// largeTrain is a train as large as can be.
func largeTrain(r *rand.Rand, width int) api.VaTrain {
	return trainWithin(r, api.MaxVaVans, api.MaxVaStops, api.MaxVaCrates, api.MaxVaPairs, width)
}

// easyTrain is a train of which all crates are there in time by many plans.
func easyTrain(r *rand.Rand) api.VaTrain {
	t := trainWithin(r, 1+r.Intn(2), 1+r.Intn(3), 2+r.Intn(3), r.Intn(5), 3)
	for i := range t.Vans {
		t.Vans[i].Room += 4
	}
	for i := range t.Crates {
		t.Crates[i].By += r.Intn(40)
	}
	return t
}

// mixedTrain is one of these trains.
func mixedTrain(r *rand.Rand) api.VaTrain {
	if r.Intn(2) == 0 {
		return easyTrain(r)
	}
	return randomTrain(r)
}

// randomPlan is a plan, with the crates in vans as far as they can be.
func randomPlan(r *rand.Rand, t api.VaTrain) []int {
	plan := behind(len(t.Crates))
	for _, crate := range r.Perm(len(plan)) {
		plan[crate] = r.Intn(len(t.Vans)+1) - 1
		if !isPlan(t, plan) || len(brokenBy(t, plan)) > 0 {
			plan[crate] = none
		}
	}
	return plan
}

func checkAnswers(t *testing.T, train api.VaTrain) answers {
	t.Helper()
	a := truthOf(train)
	if best, sure, twice, e := van.Best(train); !slices.Equal(best, a.best) || sure != a.sure || twice != a.twice || e != api.OK {
		t.Fatalf("%v: Best = %v, %d, %d, %d, not %v, %d, %d", train, best, sure, twice, e, a.best, a.sure, a.twice)
	}
	if never, e := van.Never(train); !slices.Equal(never, a.never) || e != api.OK {
		t.Fatalf("%v: Never = %v, %d, not %v", train, never, e, a.never)
	}
	if loose, e := van.Loose(train); !slices.Equal(loose, a.loose) || e != a.notLoose {
		t.Fatalf("%v: Loose = %v, %d, not %v, %d", train, loose, e, a.loose, a.notLoose)
	}
	if earlier, e := van.Earlier(train); earlier != a.earlier || e != a.notEarlier {
		t.Fatalf("%v: Earlier = %d, %d, not %d, %d", train, earlier, e, a.earlier, a.notEarlier)
	}
	return a
}

func TestP6_5ToP6_8AgainstTheDefinition(t *testing.T) {
	r := rand.New(rand.NewSource(605))
	met := map[string]int{}
	for range 5000 {
		a := checkAnswers(t, mixedTrain(r))
		for name, is := range map[string]bool{
			"twice":          a.twice > 0,
			"stays behind":   slices.Contains(a.best, none),
			"never":          len(a.never) > 0,
			"some never":     len(a.never) > 0 && len(a.never) < len(a.t.Crates),
			"loose":          len(a.loose) > 0,
			"two are loose":  len(a.loose) > 1,
			"other is loose": len(a.loose) > 0 && a.loose[0] > 0,
			"not loose":      a.notLoose != api.OK,
			"earlier":        a.earlier > 0,
			"not earlier":    a.notEarlier != api.OK,
		} {
			if is {
				met[name]++
			}
		}
	}
	for name, times := range met {
		if times < 20 {
			t.Errorf("only %d times: %s", times, name)
		}
	}
	if len(met) < 10 {
		t.Errorf("not all is met: %v", met)
	}
	for range 4 {
		checkAnswers(t, largeTrain(r, 2))
	}
}

// closeTo is a train by a plan of which it is a close thing whether crates are there in time.
func closeTo(r *rand.Rand, t api.VaTrain, plan []int) api.VaTrain {
	return changed(t, func(t *api.VaTrain) {
		for crate, vehicle := range plan {
			if vehicle != none {
				c := &t.Crates[crate]
				comes := timesOf(*t, plan, vehicle, always)[c.Stop]
				c.By = max(0, comes.Lo-2+r.Intn(comes.Hi-comes.Lo+4))
			}
		}
	})
}

func TestP6_2ToP6_4AgainstTheDefinition(t *testing.T) {
	r := rand.New(rand.NewSource(602))
	var met [3]int
	told := 0
	for i := range 400 {
		train := randomTrain(r)
		if i%20 == 0 {
			train = largeTrain(r, 3)
		}
		plan := randomPlan(r, train)
		train = closeTo(r, train, plan)
		for vehicle := range train.Vans {
			if twice, e := van.Twice(train, plan, vehicle); !slices.Equal(twice, twiceOf(train, plan, vehicle)) || e != api.OK {
				t.Fatalf("%v: Twice of %v, %d = %v, %d, not %v", train, plan, vehicle, twice, e, twiceOf(train, plan, vehicle))
			}
			want := timesOf(train, plan, vehicle, always)
			if times, e := van.Times(train, plan, vehicle); !slices.Equal(times, want) || e != api.OK {
				t.Fatalf("%v: Times of %v, %d = %v, %d, not %v", train, plan, vehicle, times, e, want)
			}
			told += checkTold(t, train, plan, vehicle, want)
		}
		for crate := range train.Crates {
			want := arrivesOf(train, plan, crate)
			if arrives, e := van.Arrives(train, plan, crate); arrives != want || e != api.OK {
				t.Fatalf("%v: Arrives of %v, %d = %d, %d, not %d", train, plan, crate, arrives, e, want)
			}
			met[want]++
		}
	}
	if slices.Min(met[:]) < 50 || told < 500 {
		t.Errorf("too few: %v, and %d are told", met, told)
	}
}

// checkTold asks Told for all minutes at which a van comes to a stop, and some others, and returns at how many there was less to tell than Times.
func checkTold(t *testing.T, train api.VaTrain, plan []int, vehicle int, times []api.Span) int {
	t.Helper()
	less := 0
	for stop, comes := range times {
		for minute := comes.Lo - 2; minute <= comes.Hi+2; minute++ {
			want, e := timesOf(train, plan, vehicle, func(comes []int) bool { return comes[stop] == minute }), api.OK
			if want == nil {
				e = api.ErrZero
			}
			if told, f := van.Told(train, plan, vehicle, stop, minute); !slices.Equal(told, want) || f != e {
				t.Fatalf("%v: Told of %v, %d, %d, %d = %v, %d, not %v, %d", train, plan, vehicle, stop, minute, told, f, want, e)
			}
			if want != nil && !slices.Equal(want, times) {
				less++
			}
		}
	}
	return less
}

// randomRoads are legs that take as long as can be, as short, or something between.
func randomRoads(r *rand.Rand, v api.VaVan) []int {
	var legs []int
	for _, leg := range v.Legs {
		minutes := []int{leg.Lo, leg.Hi, leg.Lo + r.Intn(leg.Hi-leg.Lo+1)}
		legs = append(legs, minutes[r.Intn(3)])
	}
	return legs
}

// ends returns the legs of a van that take as short, and as long, as can be.
func ends(v api.VaVan) (short, long []int) {
	for _, leg := range v.Legs {
		short, long = append(short, leg.Lo), append(long, leg.Hi)
	}
	return short, long
}

func TestP6_9InTime(t *testing.T) {
	r := rand.New(rand.NewSource(609))
	var met [3]int
	for range 500 {
		train := largeTrain(r, 40)
		plan := randomPlan(r, train)
		times := make([][]api.Span, len(train.Vans))
		for vehicle, v := range train.Vans {
			times[vehicle], _ = van.Times(train, plan, vehicle)
			short, long := ends(v)
			first, last := comesOf(train, plan, vehicle, short), comesOf(train, plan, vehicle, long)
			for stop, comes := range times[vehicle] {
				if first[stop] != comes.Lo || last[stop] != comes.Hi {
					t.Fatalf("%v: Times of %v, %d = %v, but it comes at %v, and at %v", train, plan, vehicle, times[vehicle], first, last)
				}
			}
		}
		for crate, c := range train.Crates {
			arrives, _ := van.Arrives(train, plan, crate)
			met[arrives]++
			if plan[crate] == none {
				if arrives != api.VaNever {
					t.Fatalf("%v: %d stays behind by %v, but Arrives = %d", train, crate, plan, arrives)
				}
				continue
			}
			comes := times[plan[crate]][c.Stop]
			if arrives == api.VaMay && (comes.Lo > c.By || comes.Hi <= c.By) {
				t.Fatalf("%v: Arrives of %v, %d = %d, but it comes at %v", train, plan, crate, arrives, comes)
			}
			for range 10 {
				minute := comesOf(train, plan, plan[crate], randomRoads(r, train.Vans[plan[crate]]))[c.Stop]
				if arrives == api.VaSure && minute > c.By || arrives == api.VaNever && minute <= c.By {
					t.Fatalf("%v: Arrives of %v, %d = %d, but it comes at %d", train, plan, crate, arrives, minute)
				}
			}
		}
	}
	if slices.Min(met[:]) < 100 {
		t.Errorf("too few of some fate: %v", met)
	}
}

// told returns how many crates surely are there in time by a plan, and how many are handled twice, as Arrives and Twice tell; ok is false if it is none.
func told(t *testing.T, train api.VaTrain, plan []int) (sure, twice int, ok bool) {
	t.Helper()
	for vehicle := range train.Vans {
		crates, e := van.Twice(train, plan, vehicle)
		if e == api.ErrDown {
			return 0, 0, false
		}
		if e != api.OK {
			t.Fatalf("%v: Twice of %v, %d: %d", train, plan, vehicle, e)
		}
		for _, many := range crates {
			twice += many
		}
	}
	for crate := range train.Crates {
		if arrives, _ := van.Arrives(train, plan, crate); arrives == api.VaSure {
			sure++
		}
	}
	return sure, twice, true
}

// TestP6_10TheMost asks Arrives and Twice of all plans.
func TestP6_10TheMost(t *testing.T) {
	r := rand.New(rand.NewSource(610))
	ties := 0
	for i := range 250 {
		train := mixedTrain(r)
		if i%50 == 0 {
			train = largeTrain(r, 20)
		}
		best, most, fewest, e := van.Best(train)
		if sure, twice, ok := told(t, train, best); e != api.OK || !ok || sure != most || twice != fewest {
			t.Fatalf("%v: Best = %v, %d, %d, %d, but by this %d, %d, %t", train, best, most, fewest, e, sure, twice, ok)
		}
		for plan := range listsOf(train) {
			sure, twice, ok := told(t, train, plan)
			if !ok {
				continue
			}
			order := cmp.Or(cmp.Compare(most, sure), cmp.Compare(twice, fewest), comparePlans(plan, best))
			if order < 0 {
				t.Fatalf("%v: Best = %v, %d, %d, but by %v %d, %d", train, best, most, fewest, plan, sure, twice)
			}
			if sure == most && twice == fewest && order > 0 {
				ties++
			}
		}
	}
	if ties < 100 {
		t.Errorf("only %d ties", ties)
	}
}

func TestP6_11LastInFirstOut(t *testing.T) {
	r := rand.New(rand.NewSource(611))
	handled := 0
	for range 600 {
		train := largeTrain(r, 10)
		train.Apart = nil
		plan := randomPlan(r, train)
		for vehicle := range train.Vans {
			twice, _ := van.Twice(train, plan, vehicle)
			for crate, c := range train.Crates {
				if plan[crate] != vehicle {
					continue
				}
				other := slices.Clone(plan)
				other[crate] = none
				without, _ := van.Twice(train, other, vehicle)
				for stop := range train.Stops {
					// Without it the crate is not handled twice any more, and at its own stop no other one for its sake.
					less := twice[stop] - without[stop]
					if less < 0 || stop < c.Stop && less > 1 || stop > c.Stop && less > 0 {
						t.Fatalf("%v: Twice of %v = %v, and without %d %v", train, plan, twice, crate, without)
					}
					handled += less
				}
			}
		}
		slices.SortStableFunc(train.Crates, func(a, b api.VaCrate) int { return cmp.Compare(b.Stop, a.Stop) })
		plan = randomPlan(r, train)
		for vehicle := range train.Vans {
			if twice, e := van.Twice(train, plan, vehicle); slices.Max(twice) > 0 || e != api.OK {
				t.Fatalf("%v: Twice of %v, %d = %v, %d", train, plan, vehicle, twice, e)
			}
		}
	}
	if handled < 300 {
		t.Errorf("only %d crates were handled twice", handled)
	}
}

func isWithin(inner, outer api.Span) bool {
	return outer.Lo <= inner.Lo && inner.Lo <= inner.Hi && inner.Hi <= outer.Hi
}

func TestP6_12Told(t *testing.T) {
	r := rand.New(rand.NewSource(612))
	less := 0
	for range 500 {
		train := largeTrain(r, 100)
		plan := randomPlan(r, train)
		for vehicle, v := range train.Vans {
			times, _ := van.Times(train, plan, vehicle)
			comes := comesOf(train, plan, vehicle, randomRoads(r, v))
			for stop, minute := range comes {
				told, e := van.Told(train, plan, vehicle, stop, minute)
				if e != api.OK || len(told) != train.Stops || told[stop] != span(minute, minute) {
					t.Fatalf("%v: Told of %v, %d, %d, %d = %v, %d", train, plan, vehicle, stop, minute, told, e)
				}
				for other, when := range told {
					if !isWithin(when, times[other]) || !isWithin(span(comes[other], comes[other]), when) {
						t.Fatalf("%v: Told of %v, %d, %d, %d = %v, of %v, but it came at %v", train, plan, vehicle, stop, minute, told, times, comes)
					}
					if other != stop && when != times[other] {
						less++
					}
				}
			}
		}
	}
	if less < 1000 {
		t.Errorf("only %d times were told better", less)
	}
}

func TestP6_13Never(t *testing.T) {
	r := rand.New(rand.NewSource(613))
	nevers, others := 0, 0
	for i := range 300 {
		train := mixedTrain(r)
		if i%50 == 0 {
			train = largeTrain(r, 20)
		}
		never, e := van.Never(train)
		if e != api.OK {
			t.Fatalf("%v: Never: %d", train, e)
		}
		for plan := range listsOf(train) {
			for _, crate := range never {
				if arrives, e := van.Arrives(train, plan, crate); e == api.OK && arrives == api.VaSure {
					t.Fatalf("%v: Never = %v, but %d surely is there by %v", train, never, crate, plan)
				}
			}
		}
		for crate := range train.Crates {
			some := false
			for vehicle := range train.Vans {
				plan := behind(len(train.Crates))
				plan[crate] = vehicle
				arrives, e := van.Arrives(train, plan, crate)
				some = some || e == api.OK && arrives == api.VaSure
			}
			if some == slices.Contains(never, crate) {
				t.Fatalf("%v: Never = %v, but %d surely is there alone: %t", train, never, crate, some)
			}
			if some {
				others++
			}
		}
		nevers += len(never)
	}
	if nevers < 100 || others < 100 {
		t.Errorf("only %d never are there, and %d others", nevers, others)
	}
}

// isPossible reports whether all crates surely are there in time by some plan.
func isPossible(t *testing.T, train api.VaTrain) bool {
	t.Helper()
	_, sure, _, e := van.Best(train)
	if e != api.OK {
		t.Fatalf("%v: Best: %d", train, e)
	}
	return sure == len(train.Crates)
}

// without returns a train without a set of its pairs, and the list of these.
func without(train api.VaTrain, set int) (rest api.VaTrain, pairs []int) {
	rest = clone(train)
	rest.Apart = nil
	for i, pair := range train.Apart {
		if set&(1<<i) != 0 {
			pairs = append(pairs, i)
		} else {
			rest.Apart = append(rest.Apart, pair)
		}
	}
	return rest, pairs
}

func TestP6_14Loose(t *testing.T) {
	r := rand.New(rand.NewSource(614))
	met, downs := map[int]int{}, 0
	for range 600 {
		train := easyTrain(r)
		loose, e := van.Loose(train)
		rest, _ := without(train, -1)
		if e == api.ErrDown {
			downs++
			if len(loose) > 0 || isPossible(t, rest) {
				t.Fatalf("%v: Loose = %v, %d", train, loose, e)
			}
			continue
		}
		met[len(loose)]++
		found := false
		for set := range 1 << len(train.Apart) {
			rest, pairs := without(train, set)
			order := compareLists(pairs, loose)
			found = found || order == 0
			if order <= 0 && isPossible(t, rest) != (order == 0) {
				t.Fatalf("%v: Loose = %v, %d, but without %v there is a plan: %t", train, loose, e, pairs, order < 0)
			}
		}
		if e != api.OK || !found {
			t.Fatalf("%v: Loose = %v, %d", train, loose, e)
		}
	}
	if downs < 50 || met[0] < 50 || met[1] < 50 || met[2] < 10 {
		t.Errorf("too few: %v, and %d without a plan", met, downs)
	}
}

// later is a train whose crates have to be there so many minutes later: as if all vans left so much earlier.
func later(train api.VaTrain, minutes int) api.VaTrain {
	return changed(train, func(t *api.VaTrain) {
		for i := range t.Crates {
			t.Crates[i].By += minutes
		}
	})
}

func TestP6_15Earlier(t *testing.T) {
	r := rand.New(rand.NewSource(615))
	some, downs, far := 0, 0, 0
	for i := range 1500 {
		train := easyTrain(r)
		if i%3 == 0 {
			for i := range train.Vans {
				train.Vans[i].Leave += 200 + r.Intn(150)
			}
		}
		earlier, e := van.Earlier(train)
		if e == api.ErrDown {
			downs++
			if earlier != 0 || isPossible(t, later(train, api.MaxVaEarlier)) {
				t.Fatalf("%v: Earlier = %d, %d", train, earlier, e)
			}
			continue
		}
		if e != api.OK || earlier < 0 || earlier > api.MaxVaEarlier || !isPossible(t, later(train, earlier)) {
			t.Fatalf("%v: Earlier = %d, %d", train, earlier, e)
		}
		if earlier > 0 {
			some++
			if isPossible(t, later(train, earlier-1)) {
				t.Fatalf("%v: Earlier = %d, but a minute less will do", train, earlier)
			}
		}
		if earlier > 200 {
			far++
		}
	}
	if some < 200 || downs < 100 || far < 30 {
		t.Errorf("only %d have to leave earlier, %d of them much, and of %d there is no plan", some, far, downs)
	}
}

// ease is something that is done to a train, by which no fewer crates surely are there in time.
type ease struct {
	name string
	do   func(t *api.VaTrain)
}

func eases(r *rand.Rand, train api.VaTrain) []ease {
	list := []ease{{"Handle", func(t *api.VaTrain) { t.Handle = r.Intn(t.Handle + 1) }}}
	for i, v := range train.Vans {
		list = append(list, ease{"Room", func(t *api.VaTrain) { t.Vans[i].Room = min(api.MaxVaRoom, v.Room+1+r.Intn(4)) }})
		for stop, leg := range v.Legs {
			list = append(list, ease{"Legs", func(t *api.VaTrain) {
				hi := r.Intn(leg.Hi + 1)
				t.Vans[i].Legs[stop] = span(r.Intn(hi+1), hi)
			}})
		}
	}
	for i := range train.Crates {
		list = append(list, ease{"By", func(t *api.VaTrain) { t.Crates[i].By += r.Intn(20) }})
	}
	for i := range train.Apart {
		list = append(list, ease{"Apart", func(t *api.VaTrain) { t.Apart = slices.Delete(t.Apart, i, i+1) }})
	}
	return list
}

// stiffTrain is a train of one van with room for all, in which it takes long to handle crates twice.
func stiffTrain(r *rand.Rand) api.VaTrain {
	t := trainWithin(r, 1, 2+r.Intn(2), 4, r.Intn(3), 3)
	t.Vans[0].Room = api.MaxVaRoom
	t.Handle = 5 + r.Intn(20)
	for i := range t.Crates {
		t.Crates[i].By += r.Intn(40)
	}
	return t
}

func TestP6_16Easier(t *testing.T) {
	r := rand.New(rand.NewSource(616))
	more := map[string]int{}
	for i := range 2000 {
		train := mixedTrain(r)
		if i%3 == 0 {
			train = stiffTrain(r)
		}
		_, sure, _, _ := van.Best(train)
		for _, easing := range eases(r, train) {
			other := changed(train, easing.do)
			_, n, _, e := van.Best(other)
			if e != api.OK || n < sure {
				t.Fatalf("%v: %d, but with another %s, of %v, %d, %d", train, sure, easing.name, other, n, e)
			}
			if n > sure {
				more[easing.name]++
			}
		}
	}
	for _, name := range []string{"Room", "Handle", "Legs", "By", "Apart"} {
		if more[name] < 20 {
			t.Errorf("only %d times more with another %s", more[name], name)
		}
	}
}
