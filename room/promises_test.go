package room_test

import (
	"cmp"
	"iter"
	"math/bits"
	"math/rand"
	"slices"
	"testing"

	"ceroplast/api"
	"ceroplast/room"
)

// The definitions, word by word.

// degreesOf returns how warm a place can be, ascending: all sums of degrees, one of each span.
func degreesOf(h api.RoHouse, place, lit int) []int {
	spans := []api.Span{h.Weather}
	for stove, warms := range h.Places[place].Warms {
		if lit&(1<<stove) != 0 {
			spans = append(spans, warms)
		}
	}
	sums := map[int]bool{0: true}
	for _, s := range spans {
		next := map[int]bool{}
		for sum := range sums {
			for d := s.Lo; d <= s.Hi; d++ {
				next[sum+d] = true
			}
		}
		sums = next
	}
	var degrees []int
	for d := range sums {
		degrees = append(degrees, d)
	}
	slices.Sort(degrees)
	return degrees
}

func harms(f api.RoFigure, degrees int) bool { return degrees < f.Cracks || degrees > f.Slumps }

func fateOf(h api.RoHouse, figure, place, lit int) int {
	degrees := degreesOf(h, place, lit)
	harmed := 0
	for _, d := range degrees {
		if harms(h.Figures[figure], d) {
			harmed++
		}
	}
	switch harmed {
	case 0:
		return api.RoSafe
	case len(degrees):
		return api.RoLost
	}
	return api.RoMay
}

// loadsOf returns how many pounds each joist carries, joist by joist.
func loadsOf(h api.RoHouse, p api.RoPlan) []int {
	var loads []int
	for joist := range h.Holds {
		pounds := 0
		for figure, place := range p.At {
			if place != api.RoNone && h.Places[place].Joists>>joist%2 == 1 {
				pounds += h.Figures[figure].Weight
			}
		}
		loads = append(loads, pounds)
	}
	return loads
}

func keepsBill(h api.RoHouse, p api.RoPlan, bill []int) bool {
	for class := range api.MaxRoClass + 1 {
		promised, there := 0, 0
		for _, other := range bill {
			if other == class {
				promised++
			}
		}
		for figure, place := range p.At {
			if place != api.RoNone && h.Places[place].Dear && h.Figures[figure].Class == class {
				there++
			}
		}
		if there < promised {
			return false
		}
	}
	return true
}

func worthOf(h api.RoHouse, p api.RoPlan) int {
	worth := 0
	for figure, place := range p.At {
		if place != api.RoNone {
			worth += h.Figures[figure].Worth
		}
	}
	return worth
}

// fates are what becomes of each figure at each place, by the stoves that are lit.
type fates [1 << api.MaxRoStoves][api.MaxRoFigures][api.MaxRoPlaces]int

func fatesOf(h api.RoHouse) *fates {
	var f fates
	for lit := range 1 << h.Stoves {
		for figure := range h.Figures {
			for place := range h.Places {
				f[lit][figure][place] = fateOf(h, figure, place, lit)
			}
		}
	}
	return &f
}

// isSound reports whether no figure is harmed by a plan, and no joist carries too much.
func isSound(h api.RoHouse, f *fates, p api.RoPlan) bool {
	for figure, place := range p.At {
		if place != api.RoNone && f[p.Lit][figure][place] != api.RoSafe {
			return false
		}
	}
	for joist, pounds := range loadsOf(h, p) {
		if pounds > h.Holds[joist] {
			return false
		}
	}
	return true
}

// plansOf yields all plans without an error, allowed or not, in no order; each one is yielded in the same memory.
func plansOf(h api.RoHouse) iter.Seq[api.RoPlan] {
	many := 1 << h.Stoves
	for range h.Figures {
		many *= len(h.Places) + 1
	}
	return func(yield func(api.RoPlan) bool) {
		at := make([]int, len(h.Figures))
		for number := range many {
			lit, rest := number%(1<<h.Stoves), number>>h.Stoves
			taken, twice := 0, false
			for figure := range at {
				at[figure] = rest%(len(h.Places)+1) - 1
				rest /= len(h.Places) + 1
				if place := at[figure]; place != api.RoNone {
					twice = twice || taken&(1<<place) != 0
					taken |= 1 << place
				}
			}
			if !twice && !yield(api.RoPlan{Lit: lit, At: at}) {
				return
			}
		}
	}
}

func comparePlans(p, q api.RoPlan) int {
	if p.Lit != q.Lit {
		return cmp.Compare(p.Lit, q.Lit)
	}
	return slices.CompareFunc(p.At, q.At, func(a, b int) int {
		switch {
		case a == b:
			return 0
		case a == api.RoNone:
			return 1
		case b == api.RoNone:
			return -1
		}
		return cmp.Compare(a, b)
	})
}

// answers is what is told of all plans of a house.
type answers struct {
	isPossible bool
	best       api.RoPlan
	worth      int
	never      []int
	breaks     []int
}

// partOf splits a bill: into those of its indices that are in a set, and the numbers of the others.
func partOf(bill []int, set int) (indices, rest []int) {
	for i, class := range bill {
		if set&(1<<i) != 0 {
			indices = append(indices, i)
		} else {
			rest = append(rest, class)
		}
	}
	return indices, rest
}

func compareLists(a, b []int) int { return cmp.Or(cmp.Compare(len(a), len(b)), slices.Compare(a, b)) }

func answersOf(h api.RoHouse) answers {
	f := fatesOf(h)
	a := answers{worth: -1}
	shown := make([]bool, len(h.Figures))
	foundBreaks := false
	for p := range plansOf(h) {
		if !isSound(h, f, p) {
			continue
		}
		for set := range 1 << len(h.Bill) {
			without, rest := partOf(h.Bill, set)
			if keepsBill(h, p, rest) && (!foundBreaks || compareLists(without, a.breaks) < 0) {
				a.breaks, foundBreaks = without, true
			}
		}
		if !keepsBill(h, p, h.Bill) {
			continue
		}
		a.isPossible = true
		for figure, place := range p.At {
			shown[figure] = shown[figure] || place != api.RoNone
		}
		worth := worthOf(h, p)
		if worth > a.worth || worth == a.worth && comparePlans(p, a.best) < 0 {
			a.best, a.worth = api.RoPlan{Lit: p.Lit, At: slices.Clone(p.At)}, worth
		}
	}
	for figure := range shown {
		if a.isPossible && !shown[figure] {
			a.never = append(a.never, figure)
		}
	}
	a.worth = max(a.worth, 0)
	return a
}

// needsOf returns the stoves with which a figure is safe somewhere: the fewest, of several the least number; or -1.
func needsOf(h api.RoHouse, figure int) int {
	for many := range h.Stoves + 1 {
		for lit := range 1 << h.Stoves {
			if bits.OnesCount(uint(lit)) == many && isSafeSomewhere(h, figure, lit) {
				return lit
			}
		}
	}
	return -1
}

func isSafeSomewhere(h api.RoHouse, figure, lit int) bool {
	for place := range h.Places {
		if fateOf(h, figure, place, lit) == api.RoSafe {
			return true
		}
	}
	return false
}

// marginOf makes the weather worse, degree by degree, until a figure is harmed.
func marginOf(h api.RoHouse, p api.RoPlan) (figure, degrees int) {
	for ; ; degrees++ {
		worse := h
		worse.Weather = span(h.Weather.Lo-degrees-1, h.Weather.Hi+degrees+1)
		for figure, place := range p.At {
			if place != api.RoNone && fateOf(worse, figure, place, p.Lit) != api.RoSafe {
				return figure, degrees
			}
		}
	}
}

func randomSpan(r *rand.Rand, lo, hi, width int) api.Span {
	at := lo + r.Intn(hi-lo+1)
	return span(at, min(hi, at+r.Intn(width)))
}

func randomFigure(r *rand.Rand, name string) api.RoFigure {
	cracks := -10 + r.Intn(35)
	return figure(name, r.Intn(3), 10+r.Intn(90), cracks, min(cracks+5+r.Intn(40), 100), r.Intn(8))
}

func randomPlace(r *rand.Rand, name string, stoves, joists int) api.RoPlace {
	p := place(name, r.Intn(3) > 0, r.Intn(1<<joists))
	for range stoves {
		p.Warms = append(p.Warms, randomSpan(r, 0, 15, 4))
	}
	return p
}

// houseWithin is a house of so many of each.
func houseWithin(r *rand.Rand, stoves, joists, places, figures int) api.RoHouse {
	h := api.RoHouse{Weather: randomSpan(r, 0, 25, 12), Stoves: stoves}
	for range joists {
		h.Holds = append(h.Holds, 20+r.Intn(200))
	}
	for i := range places {
		h.Places = append(h.Places, randomPlace(r, string(rune('a'+i)), stoves, joists))
	}
	for i := range figures {
		h.Figures = append(h.Figures, randomFigure(r, string(rune('a'+i))))
	}
	for range max(0, r.Intn(5)-1) {
		h.Bill = append(h.Bill, r.Intn(3))
	}
	return h
}

func randomHouse(r *rand.Rand) api.RoHouse {
	return houseWithin(r, r.Intn(4), r.Intn(4), r.Intn(5), r.Intn(5))
}

// largeHouse is a house as large as can be.
func largeHouse(r *rand.Rand) api.RoHouse {
	return houseWithin(r, api.MaxRoStoves, api.MaxRoJoists, api.MaxRoPlaces, api.MaxRoFigures)
}

// randomPlan is a plan without an error, allowed or not.
func randomPlan(r *rand.Rand, h api.RoHouse) api.RoPlan {
	p := api.RoPlan{Lit: r.Intn(1 << h.Stoves)}
	for range h.Figures {
		place := r.Intn(len(h.Places)+1) - 1
		if slices.Contains(p.At, place) {
			place = api.RoNone
		}
		p.At = append(p.At, place)
	}
	return p
}

// best returns Best of a house of which some plan is allowed; ok is false if none is.
func best(t *testing.T, h api.RoHouse) (p api.RoPlan, worth int, ok bool) {
	t.Helper()
	p, worth, e := room.Best(h)
	if e != api.OK && e != api.ErrDown {
		t.Fatalf("%v: Best: %d", h, e)
	}
	return p, worth, e == api.OK
}

func checkAnswers(t *testing.T, h api.RoHouse) answers {
	t.Helper()
	a, want := answersOf(h), api.OK
	if !a.isPossible {
		want = api.ErrDown
	}
	if p, worth, e := room.Best(h); !samePlan(p, a.best) || worth != a.worth || e != want {
		t.Fatalf("%v: Best = %v, %d, %d, not %v, %d, %d", h, p, worth, e, a.best, a.worth, want)
	}
	if never, e := room.Never(h); !slices.Equal(never, a.never) || e != want {
		t.Fatalf("%v: Never = %v, %d, not %v, %d", h, never, e, a.never, want)
	}
	if breaks, e := room.Breaks(h); !slices.Equal(breaks, a.breaks) || e != api.OK {
		t.Fatalf("%v: Breaks = %v, %d, not %v", h, breaks, e, a.breaks)
	}
	return a
}

func TestP5_4AndP5_5AgainstTheDefinition(t *testing.T) {
	r := rand.New(rand.NewSource(504))
	shows, lights, nevers, breaks := 0, 0, 0, 0
	for range 1500 {
		a := checkAnswers(t, randomHouse(r))
		if a.worth > 0 {
			shows++
		}
		if a.best.Lit > 0 {
			lights++
		}
		if len(a.never) > 0 {
			nevers++
		}
		if len(a.breaks) > 0 {
			breaks++
		}
	}
	if shows < 300 || lights < 100 || nevers < 200 || breaks < 200 {
		t.Errorf("only %d show something, %d light stoves, %d never show all, %d break a promise", shows, lights, nevers, breaks)
	}
	for range 15 {
		checkAnswers(t, largeHouse(r))
	}
}

func TestP5_2AgainstTheDefinition(t *testing.T) {
	r := rand.New(rand.NewSource(502))
	var met [3]int
	for range 150 {
		h := houseWithin(r, r.Intn(4), 0, 3, 3)
		for place := range h.Places {
			for lit := range 1 << h.Stoves {
				degrees := degreesOf(h, place, lit)
				want := span(degrees[0], degrees[len(degrees)-1])
				if got, e := room.Warmth(h, place, lit); got != want || e != api.OK {
					t.Fatalf("%v: Warmth of %d, %d = %v, %d, not %v", h, place, lit, got, e, want)
				}
				for figure := range h.Figures {
					want := fateOf(h, figure, place, lit)
					if got, e := room.Fate(h, figure, place, lit); got != want || e != api.OK {
						t.Fatalf("%v: Fate of %d, %d, %d = %d, %d, not %d", h, figure, place, lit, got, e, want)
					}
					met[want]++
				}
			}
		}
	}
	if slices.Min(met[:]) < 200 {
		t.Errorf("too few of some fate: %v", met)
	}
}

func TestP5_3AgainstTheDefinition(t *testing.T) {
	r := rand.New(rand.NewSource(503))
	allowed := 0
	for range 400 {
		h := randomHouse(r)
		f := fatesOf(h)
		for range 10 {
			p := randomPlan(r, h)
			if got, e := room.Loads(h, p); !slices.Equal(got, loadsOf(h, p)) || e != api.OK {
				t.Fatalf("%v: Loads of %v = %v, %d, not %v", h, p, got, e, loadsOf(h, p))
			}
			want, e := 0, api.ErrDown
			if isSound(h, f, p) && keepsBill(h, p, h.Bill) {
				want, e = worthOf(h, p), api.OK
				allowed++
			}
			if got, f := room.Shows(h, p); got != want || f != e {
				t.Fatalf("%v: Shows of %v = %d, %d, not %d, %d", h, p, got, f, want, e)
			}
		}
	}
	if allowed < 300 || allowed > 3700 {
		t.Errorf("%d of 4000 plans were allowed", allowed)
	}
}

func TestP5_7AgainstTheDefinition(t *testing.T) {
	r := rand.New(rand.NewSource(507))
	met := map[api.Errno]int{}
	for range 300 {
		h := randomHouse(r)
		f := fatesOf(h)
		for p := range plansOf(h) {
			var figure, degrees int
			e := api.OK
			switch {
			case r.Intn(20) > 0:
				continue
			case !isSound(h, f, p) || !keepsBill(h, p, h.Bill):
				e = api.ErrDown
			case !slices.ContainsFunc(p.At, func(place int) bool { return place != api.RoNone }):
				e = api.ErrNone
			default:
				figure, degrees = marginOf(h, p)
			}
			met[e]++
			if a, b, g := room.Margin(h, p); a != figure || b != degrees || g != e {
				t.Fatalf("%v: Margin of %v = %d, %d, %d, not %d, %d, %d", h, p, a, b, g, figure, degrees, e)
			}
		}
	}
	if len(met) != 3 || met[api.OK] < 50 || met[api.ErrNone] < 10 || met[api.ErrDown] < 50 {
		t.Errorf("too few of some error: %v", met)
	}
}

// truthOf is how warm a place is in some truth of weather and stoves.
func truthOf(r *rand.Rand, h api.RoHouse, place, lit int) int {
	degrees := degreesOf(h, place, lit)
	switch r.Intn(3) {
	case 0:
		return degrees[0]
	case 1:
		return degrees[len(degrees)-1]
	}
	return degrees[r.Intn(len(degrees))]
}

func TestP5_8NothingSlumps(t *testing.T) {
	r := rand.New(rand.NewSource(508))
	shown := 0
	for i := range 500 {
		h := randomHouse(r)
		if i%5 == 0 {
			h = largeHouse(r)
		}
		p, _, ok := best(t, h)
		if !ok {
			continue
		}
		for figure, place := range p.At {
			if place == api.RoNone {
				continue
			}
			shown++
			for range 10 {
				if d := truthOf(r, h, place, p.Lit); harms(h.Figures[figure], d) {
					t.Fatalf("%v: by %v the figure %d is at %d degrees", h, p, figure, d)
				}
			}
		}
		for joist, pounds := range loadsOf(h, p) {
			if pounds > h.Holds[joist] {
				t.Fatalf("%v: by %v the joist %d carries %d", h, p, joist, pounds)
			}
		}
		if !keepsBill(h, p, h.Bill) {
			t.Fatalf("%v: by %v the bill is not kept", h, p)
		}
	}
	if shown < 200 {
		t.Errorf("only %d figures were shown", shown)
	}
}

// TestP5_9NoMore asks Shows of all plans.
func TestP5_9NoMore(t *testing.T) {
	r := rand.New(rand.NewSource(509))
	nevers := 0
	for range 250 {
		h := houseWithin(r, r.Intn(3), r.Intn(3), r.Intn(5), r.Intn(5))
		first, most, _ := best(t, h)
		never, _ := room.Never(h)
		nevers += len(never)
		found, isBest := false, false
		some := make([]bool, len(h.Figures))
		for p := range plansOf(h) {
			worth, e := room.Shows(h, p)
			if e != api.OK {
				continue
			}
			found = true
			isBest = isBest || samePlan(p, first) && worth == most
			if worth > most || worth == most && comparePlans(p, first) < 0 {
				t.Fatalf("%v: Best = %v, %d, but %v shows %d", h, first, most, p, worth)
			}
			for figure, place := range p.At {
				some[figure] = some[figure] || place != api.RoNone
			}
		}
		for figure, shown := range some {
			if found && shown == slices.Contains(never, figure) {
				t.Fatalf("%v: Never = %v, but some plan shows %d: %t", h, never, figure, shown)
			}
		}
		if _, _, ok := best(t, h); ok != found || found && !isBest {
			t.Fatalf("%v: Best = %v, %d, %t, but there are plans: %t, and it is one: %t", h, first, most, ok, found, isBest)
		}
	}
	if nevers < 50 {
		t.Errorf("only %d figures of Never", nevers)
	}
}

func TestP5_10BrokenPromises(t *testing.T) {
	r := rand.New(rand.NewSource(510))
	broken := 0
	for i := range 700 {
		h := randomHouse(r)
		if i%20 == 0 {
			h = largeHouse(r)
		}
		breaks, e := room.Breaks(h)
		if e != api.OK {
			t.Fatalf("%v: Breaks: %d", h, e)
		}
		broken += len(breaks)
		for set := range 1 << len(h.Bill) {
			without, rest := partOf(h.Bill, set)
			order := compareLists(without, breaks)
			if order > 0 {
				continue // whether it does or not
			}
			other := clone(h)
			other.Bill = rest
			if _, _, ok := best(t, other); ok != (order == 0) {
				t.Fatalf("%v: Breaks = %v, but without %v there is a plan: %t", h, breaks, without, ok)
			}
		}
	}
	if broken < 300 {
		t.Errorf("only %d promises were broken", broken)
	}
}

func TestP5_11ColderHotter(t *testing.T) {
	r := rand.New(rand.NewSource(511))
	margins := 0
	for range 1500 {
		h := randomHouse(r)
		p, worth, ok := best(t, h)
		first, degrees, e := room.Margin(h, p)
		if !ok || e == api.ErrNone {
			continue
		}
		if e != api.OK || p.At[first] == api.RoNone || degrees < 0 {
			t.Fatalf("%v: Margin of %v = %d, %d, %d", h, p, first, degrees, e)
		}
		worse := clone(h)
		worse.Weather = span(h.Weather.Lo-degrees, h.Weather.Hi+degrees)
		if got, e := room.Shows(worse, p); got != worth || e != api.OK {
			t.Fatalf("%v: Margin of %v = %d, but then Shows = %d, %d", h, p, degrees, got, e)
		}
		worse.Weather = span(h.Weather.Lo-degrees-1, h.Weather.Hi+degrees+1)
		if _, e := room.Shows(worse, p); e != api.ErrDown {
			t.Fatalf("%v: Margin of %v = %d, but with one degree more Shows: %d", h, p, degrees, e)
		}
		for figure, place := range p.At {
			if place == api.RoNone || figure > first {
				continue
			}
			if fate, _ := room.Fate(worse, figure, place, p.Lit); (fate == api.RoSafe) != (figure < first) {
				t.Fatalf("%v: Margin of %v = %d, %d, but the fate of %d is %d then", h, p, first, degrees, figure, fate)
			}
		}
		margins++
	}
	if margins < 200 {
		t.Errorf("only %d margins", margins)
	}
}

func TestP5_12Fates(t *testing.T) {
	r := rand.New(rand.NewSource(512))
	var met [3]int
	for range 200 {
		h := houseWithin(r, api.MaxRoStoves, 0, 3, 3)
		known := clone(h)
		known.Weather.Lo += r.Intn(h.Weather.Hi - h.Weather.Lo + 1)
		known.Weather.Hi -= r.Intn(known.Weather.Hi - known.Weather.Lo + 1)
		for place := range h.Places {
			for lit := range 1 << h.Stoves {
				warmth, _ := room.Warmth(h, place, lit)
				for stove := range h.Stoves {
					if more, _ := room.Warmth(h, place, lit|1<<stove); more.Lo < warmth.Lo || more.Hi < warmth.Hi {
						t.Fatalf("%v: with the stove %d the warmth of %d is %v, not %v", h, stove, place, more, warmth)
					}
				}
				for figure, f := range h.Figures {
					fate, _ := room.Fate(h, figure, place, lit)
					better, _ := room.Fate(known, figure, place, lit)
					if fate != api.RoMay && better != fate {
						t.Fatalf("%v: the fate of %d at %d is %d, but %d if the weather is %v", h, figure, place, fate, better, known.Weather)
					}
					some := false
					for d := warmth.Lo; d <= warmth.Hi; d++ {
						some = some || !harms(f, d)
					}
					if (fate == api.RoLost) == some {
						t.Fatalf("%v: the fate of %d at %d is %d, but some degrees do: %t", h, figure, place, fate, some)
					}
					met[fate]++
				}
			}
		}
	}
	if slices.Min(met[:]) < 200 {
		t.Errorf("too few of some fate: %v", met)
	}
}

// easier returns houses in which no less can be shown.
func easier(r *rand.Rand, h api.RoHouse) []api.RoHouse {
	var houses []api.RoHouse
	changed := func(change func(h *api.RoHouse)) {
		other := clone(h)
		change(&other)
		houses = append(houses, other)
	}
	for i := range h.Holds {
		changed(func(h *api.RoHouse) { h.Holds[i] += r.Intn(150) })
	}
	for i := range h.Figures {
		changed(func(h *api.RoHouse) { h.Figures[i].Cracks -= r.Intn(20) })
		changed(func(h *api.RoHouse) { h.Figures[i].Slumps += r.Intn(20) })
	}
	changed(func(h *api.RoHouse) { h.Weather.Lo += r.Intn(h.Weather.Hi - h.Weather.Lo + 1) })
	changed(func(h *api.RoHouse) { h.Weather.Hi -= r.Intn(h.Weather.Hi - h.Weather.Lo + 1) })
	for i := range h.Bill {
		changed(func(h *api.RoHouse) { h.Bill = slices.Delete(h.Bill, i, i+1) })
	}
	if len(h.Figures) < api.MaxRoFigures {
		changed(func(h *api.RoHouse) {
			h.Figures = slices.Insert(h.Figures, r.Intn(len(h.Figures)+1), randomFigure(r, "more"))
		})
	}
	return houses
}

func TestP5_13Easier(t *testing.T) {
	r := rand.New(rand.NewSource(513))
	more := 0
	for range 300 {
		h := randomHouse(r)
		_, worth, ok := best(t, h)
		for _, other := range easier(r, h) {
			_, n, possible := best(t, other)
			if ok && !possible || n < worth {
				t.Fatalf("%v: %d, %t, but of %v %d, %t", h, worth, ok, other, n, possible)
			}
			if n > worth || possible && !ok {
				more++
			}
		}
	}
	if more < 100 {
		t.Errorf("only %d times more", more)
	}
}

func TestP5_14AnotherOrder(t *testing.T) {
	r := rand.New(rand.NewSource(514))
	for i := range 300 {
		h := randomHouse(r)
		if i%10 == 0 {
			h = largeHouse(r)
		}
		other := clone(h)
		r.Shuffle(len(other.Figures), func(i, j int) {
			other.Figures[i], other.Figures[j] = other.Figures[j], other.Figures[i]
		})
		_, worth, e := room.Best(h)
		_, worthOther, eOther := room.Best(other)
		never, f := room.Never(h)
		neverOther, fOther := room.Never(other)
		if worth != worthOther || e != eOther || len(never) != len(neverOther) || f != fOther {
			t.Fatalf("%v: %d, %d, %v, %d; of %v %d, %d, %v, %d", h, worth, e, never, f, other, worthOther, eOther, neverOther, fOther)
		}
	}
}

func TestP5_15Needs(t *testing.T) {
	r := rand.New(rand.NewSource(515))
	needs, nowhere := 0, 0
	for range 400 {
		h := houseWithin(r, api.MaxRoStoves, r.Intn(3), r.Intn(3), 3)
		for figure := range h.Figures {
			got, e := room.Needs(h, figure)
			want := needsOf(h, figure)
			if e != api.OK && (e != api.ErrDown || want >= 0 || got != 0) || e == api.OK && got != want {
				t.Fatalf("%v: Needs of %d = %d, %d, not %d", h, figure, got, e, want)
			}
			for lit := range 1 << h.Stoves {
				isSafe := false
				for place := range h.Places {
					fate, _ := room.Fate(h, figure, place, lit)
					isSafe = isSafe || fate == api.RoSafe
				}
				order := cmp.Or(cmp.Compare(bits.OnesCount(uint(lit)), bits.OnesCount(uint(got))), cmp.Compare(lit, got))
				if isSafe && (e == api.ErrDown || order < 0) || !isSafe && e == api.OK && order == 0 {
					t.Fatalf("%v: Needs of %d = %d, %d, but with %d it is safe: %t", h, figure, got, e, lit, isSafe)
				}
			}
			if got > 0 {
				needs++
			}
			if e == api.ErrDown {
				nowhere++
			}
		}
	}
	if needs < 100 || nowhere < 100 {
		t.Errorf("only %d need stoves, and %d are safe nowhere", needs, nowhere)
	}
}

func TestP5_16Loads(t *testing.T) {
	r := rand.New(rand.NewSource(516))
	for range 500 {
		h := largeHouse(r)
		p := randomPlan(r, h)
		want := 0
		for figure, place := range p.At {
			if place != api.RoNone {
				want += h.Figures[figure].Weight * bits.OnesCount(uint(h.Places[place].Joists))
			}
		}
		loads, e := room.Loads(h, p)
		got := 0
		for _, pounds := range loads {
			got += pounds
		}
		if got != want || len(loads) != len(h.Holds) || e != api.OK {
			t.Fatalf("%v: Loads of %v = %v, %d, not %d together", h, p, loads, e, want)
		}
	}
}
