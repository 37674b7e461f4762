package dress_test

import (
	"cmp"
	"fmt"
	"math/rand"
	"slices"
	"testing"

	"ceroplast/api"
	"ceroplast/dress"
)

// The definitions, word by word.

// nobody is in place of a figure of a person who is left out.
const nobody = -1

// dressed is the figure of each person, or nobody, who is left out then, and what this costs and leaves.
type dressed struct {
	figures []int
	out     []int
	cost    int
	left    []int
}

// dressedAs makes all changes, one after the other.
func dressedAs(r api.DrRoom, figures []int) dressed {
	d := dressed{figures: slices.Clone(figures), left: slices.Clone(r.Ounces)}
	for person, figure := range figures {
		if figure == nobody {
			d.out = append(d.out, person)
			continue
		}
		f, p := r.Figures[figure], r.Persons[person]
		for kind, cost := range r.Costs {
			if p.Looks[kind] == whatever || p.Looks[kind] == f.Looks[kind] {
				continue
			}
			d.cost += cost
			if kind == 0 {
				d.left[f.Looks[0]] += f.Hair
				d.left[p.Looks[0]] -= p.Hair
			}
		}
	}
	return d
}

func (d dressed) isAllowed() bool { return slices.Min(d.left) >= 0 }

func (d dressed) ounces() []int {
	ounces := make([]int, len(d.left))
	for colour, n := range d.left {
		if n < 0 {
			ounces[colour] = -n
		}
	}
	return ounces
}

func sum(numbers []int) int {
	all := 0
	for _, n := range numbers {
		all += n
	}
	return all
}

// dressings returns all that there are, for all persons or for some, in order.
func dressings(r api.DrRoom) []dressed {
	var all []dressed
	figures := make([]int, len(r.Persons))
	var next func(person int)
	next = func(person int) {
		if person == len(figures) {
			all = append(all, dressedAs(r, figures))
			return
		}
		for figure := nobody; figure < len(r.Figures); figure++ {
			if figure == nobody || !slices.Contains(figures[:person], figure) {
				figures[person] = figure
				next(person + 1)
			}
		}
	}
	next(0)
	return all
}

// those returns the dressings that do.
func those(all []dressed, do func(d dressed) bool) []dressed {
	var some []dressed
	for _, d := range all {
		if do(d) {
			some = append(some, d)
		}
	}
	return some
}

// reference is what all dressings say of a room.
type reference struct {
	all     []dressed // that are allowed, for all persons or for some
	plans   []dressed // for all persons
	allowed []dressed // both
}

func referenceOf(r api.DrRoom) reference {
	all := dressings(r)
	plans := those(all, func(d dressed) bool { return len(d.out) == 0 })
	return reference{those(all, dressed.isAllowed), plans, those(plans, dressed.isAllowed)}
}

func byCost(a, b dressed) int {
	return cmp.Or(cmp.Compare(a.cost, b.cost), slices.Compare(a.figures, b.figures))
}

func byOunces(a, b dressed) int {
	return cmp.Or(cmp.Compare(sum(a.ounces()), sum(b.ounces())), byCost(a, b))
}

func byOut(a, b dressed) int {
	return cmp.Or(cmp.Compare(len(a.out), len(b.out)), slices.Compare(a.out, b.out))
}

// who returns the figures of a person in the plans that cost least.
func (k reference) who(person int) []int {
	least := slices.MinFunc(k.allowed, byCost).cost
	var who []int
	for _, d := range k.allowed {
		if d.cost == least {
			who = append(who, d.figures[person])
		}
	}
	slices.Sort(who)
	return slices.Compact(who)
}

// price returns how much more a person costs, and whether the others can be dressed without it.
func (k reference) price(person int) (int, bool) {
	others := those(k.all, func(d dressed) bool { return slices.Equal(d.out, []int{person}) })
	if len(others) == 0 {
		return 0, false
	}
	return slices.MinFunc(k.allowed, byCost).cost - slices.MinFunc(others, byCost).cost, true
}

// few is a number up to most, mostly a small one.
func few(r *rand.Rand, small, most int) int {
	if r.Intn(12) == 0 {
		return r.Intn(most + 1)
	}
	return r.Intn(small + 1)
}

// aLook is what somebody looks like, with so much hair, and with a chance of one in so many that a look is whatever there is.
func aLook(r *rand.Rand, hair, kinds, colours, chance int) api.DrLook {
	x := looks(hair)
	for kind := range kinds {
		n := few(r, 1, api.MaxDrLook)
		if kind == 0 {
			n = r.Intn(colours)
		}
		if chance > 0 && r.Intn(chance) == 0 {
			n = whatever
		}
		x.Looks = append(x.Looks, n)
	}
	return x
}

// sized is a room with so many figures and persons.
func sized(r *rand.Rand, figures, persons int) api.DrRoom {
	var costs, ounces []int
	for range 1 + r.Intn(api.MaxDrKinds) {
		costs = append(costs, few(r, 4, api.MaxDrCost))
	}
	for range 1 + r.Intn(api.MaxDrColours) {
		ounces = append(ounces, few(r, r.Intn(4), api.MaxDrOunces))
	}
	var have, want []api.DrLook
	for range figures {
		have = append(have, aLook(r, few(r, 3, api.MaxDrOunces), len(costs), len(ounces), 0))
	}
	for range persons {
		want = append(want, aLook(r, few(r, 5, api.MaxDrOunces), len(costs), len(ounces), 8))
	}
	return roomOf(costs, ounces, have, want)
}

// bald is a room with hardly any hair but that of figures, which is enough for two persons, for one or for none, so that it matters who gives it to whom.
func bald(r *rand.Rand, figures, persons int) api.DrRoom {
	costs := []int{r.Intn(3), 2 * r.Intn(3)}[:1+r.Intn(2)]
	ounces := make([]int, 2+r.Intn(2))
	ounces[0] = r.Intn(2)
	var have, want []api.DrLook
	for range figures {
		have = append(have, aLook(r, 3*r.Intn(3), len(costs), len(ounces), 0))
	}
	for range persons {
		want = append(want, aLook(r, 3-r.Intn(2)*r.Intn(3), len(costs), len(ounces), 12))
	}
	return roomOf(costs, ounces, have, want)
}

// aRoom is a room that is not large, mostly with figures enough.
func aRoom(r *rand.Rand) api.DrRoom {
	persons := r.Intn(3) + r.Intn(3)
	switch r.Intn(8) {
	case 0:
		return sized(r, r.Intn(5), persons)
	case 1, 2, 3:
		return sized(r, min(persons+r.Intn(3), 5), persons)
	}
	return bald(r, min(persons+r.Intn(2), 4), persons)
}

// checkPlans checks what Left and Pays say of all plans.
func checkPlans(t *testing.T, r api.DrRoom, k reference) {
	t.Helper()
	for _, d := range k.plans {
		left, e := dress.Left(r, d.figures)
		if !slices.Equal(left, d.left) || e != api.OK {
			t.Fatalf("%v: Left of %v = %v, %d, not %v", r, d.figures, left, e, d.left)
		}
		pence, e := dress.Pays(r, d.figures)
		if d.isAllowed() != (e == api.OK) || e == api.OK && pence != d.cost || e != api.OK && (e != api.ErrDown || pence != 0) {
			t.Fatalf("%v: Pays of %v = %d, %d, not %v", r, d.figures, pence, e, d)
		}
	}
}

// checkBest checks what Best, Who and Price say.
func checkBest(t *testing.T, r api.DrRoom, k reference) {
	t.Helper()
	plan, cost, e := dress.Best(r)
	if len(k.allowed) == 0 {
		if len(plan) > 0 || cost != 0 || e != api.ErrDown {
			t.Fatalf("%v: Best = %v, %d, %d", r, plan, cost, e)
		}
	} else if best := slices.MinFunc(k.allowed, byCost); !slices.Equal(plan, best.figures) || cost != best.cost || e != api.OK {
		t.Fatalf("%v: Best = %v, %d, %d, not %v", r, plan, cost, e, best)
	}
	for person := range r.Persons {
		who, e := dress.Who(r, person)
		price, f := dress.Price(r, person)
		if len(k.allowed) == 0 {
			if len(who) > 0 || e != api.ErrDown || price != 0 || f != api.ErrDown {
				t.Fatalf("%v: of %d Who = %v, %d, Price = %d, %d", r, person, who, e, price, f)
			}
			continue
		}
		if want := k.who(person); !slices.Equal(who, want) || e != api.OK {
			t.Fatalf("%v: Who of %d = %v, %d, not %v", r, person, who, e, want)
		}
		if want, can := k.price(person); price != want || can != (f == api.OK) || !can && f != api.ErrDown {
			t.Fatalf("%v: Price of %d = %d, %d, not %d", r, person, price, f, want)
		}
	}
}

// checkOutAndBuy checks what Out and Buy say.
func checkOutAndBuy(t *testing.T, r api.DrRoom, k reference) {
	t.Helper()
	if out, e := dress.Out(r); !slices.Equal(out, slices.MinFunc(k.all, byOut).out) || e != api.OK {
		t.Fatalf("%v: Out = %v, %d", r, out, e)
	}
	ounces, cost, e := dress.Buy(r)
	if len(r.Persons) > len(r.Figures) {
		if len(ounces) > 0 || cost != 0 || e != api.ErrDown {
			t.Fatalf("%v: Buy = %v, %d, %d", r, ounces, cost, e)
		}
	} else if d := slices.MinFunc(k.plans, byOunces); !slices.Equal(ounces, d.ounces()) || cost != d.cost || e != api.OK {
		t.Fatalf("%v: Buy = %v, %d, %d, not %v", r, ounces, cost, e, d)
	}
}

// met counts of how many rooms something interesting is so.
type met map[string]int

func (m met) add(what string, is bool) {
	if is {
		m[what]++
	}
}

// atLeast checks that nothing of these was met fewer times than that.
func (m met) atLeast(t *testing.T, least int, what ...string) {
	t.Helper()
	for _, w := range what {
		if m[w] < least {
			t.Errorf("%s only %d times: %v", w, m[w], m)
		}
	}
}

func (m met) addRoom(r api.DrRoom, k reference) {
	cheapest := func(all []dressed) dressed { return slices.MinFunc(all, byCost) }
	m.add("allowed", len(k.allowed) > 0)
	m.add("too few figures", len(k.plans) == 0)
	m.add("not allowed", len(k.plans) > 0 && len(k.allowed) == 0)
	if len(k.allowed) > 0 {
		least := cheapest(k.allowed)
		several := those(k.allowed, func(d dressed) bool { return d.cost == least.cost })
		m.add("several", len(several) > 1)
		m.add("dearer", cheapest(k.plans).cost < least.cost)
		m.add("later", cheapest(k.plans).cost == least.cost && !slices.Equal(cheapest(k.plans).figures, least.figures))
		for person := range r.Persons {
			price, can := k.price(person)
			m.add("priceless", !can)
			m.add("paid back", price < 0)
		}
	}
	out := slices.MinFunc(k.all, byOut).out
	m.add("one out", len(out) == 1)
	m.add("two out", len(out) == 2)
	m.add("three out", len(out) == 3)
	m.add("not the first out", len(out) > 0 && out[len(out)-1] != len(out)-1)
	if len(k.plans) > 0 && len(k.allowed) == 0 {
		first := slices.MinFunc(k.plans, byOunces)
		m.add("bought for more", first.cost > cheapest(k.plans).cost)
		m.add("of several colours", len(those(k.plans, func(d dressed) bool {
			return sum(d.ounces()) == sum(first.ounces()) && !slices.Equal(d.ounces(), first.ounces())
		})) > 0)
	}
}

func TestP9_2ToP9_7AgainstTheDefinition(t *testing.T) {
	r := rand.New(rand.NewSource(902))
	m := met{}
	for range 12000 {
		room := aRoom(r)
		k := referenceOf(room)
		checkPlans(t, room, k)
		checkBest(t, room, k)
		checkOutAndBuy(t, room, k)
		m.addRoom(room, k)
	}
	m.atLeast(t, 100, "allowed", "too few figures", "not allowed", "several", "dearer", "later", "one out", "two out", "not the first out", "bought for more")
	m.atLeast(t, 5, "priceless", "paid back", "three out", "of several colours")
}

// TestP9_2ToP9_7LargeRooms is of as many figures and persons as there can be.
func TestP9_2ToP9_7LargeRooms(t *testing.T) {
	r := rand.New(rand.NewSource(9021))
	m := met{}
	for i := range 60 {
		room := sized(r, api.MaxDrFigures, api.MaxDrPersons)
		if i%2 == 0 {
			room = bald(r, api.MaxDrFigures, api.MaxDrPersons)
		}
		k := referenceOf(room)
		checkBest(t, room, k)
		checkOutAndBuy(t, room, k)
		m.addRoom(room, k)
	}
	m.atLeast(t, 5, "allowed", "not allowed", "several", "dearer")
}

// TestP9_2EachChange is of each figure and person alone.
func TestP9_2EachChange(t *testing.T) {
	r := rand.New(rand.NewSource(9022))
	for range 500 {
		room := aRoom(r)
		for figure, f := range room.Figures {
			for person, p := range room.Persons {
				want, kinds := 0, []int(nil)
				for kind := range room.Costs {
					if p.Looks[kind] != whatever && p.Looks[kind] != f.Looks[kind] {
						want += room.Costs[kind]
						kinds = append(kinds, kind)
					}
				}
				if cost, changed, e := dress.Cost(room, figure, person); cost != want || !slices.Equal(changed, kinds) || e != api.OK {
					t.Fatalf("%v: Cost of %d, %d = %d, %v, %d, not %d, %v", room, figure, person, cost, changed, e, want, kinds)
				}
			}
		}
	}
}

// plansOf returns all plans of a room, in order.
func plansOf(r api.DrRoom) [][]int {
	var plans [][]int
	for _, d := range dressings(r) {
		if len(d.out) == 0 {
			plans = append(plans, d.figures)
		}
	}
	return plans
}

func TestP9_8NoCheaper(t *testing.T) {
	r := rand.New(rand.NewSource(908))
	m := met{}
	for range 800 {
		room := aRoom(r)
		best, cost, e := dress.Best(room)
		if e == api.OK {
			if pence, e := dress.Pays(room, best); pence != cost || e != api.OK {
				t.Fatalf("%v: Best = %v, %d, but Pays = %d, %d", room, best, cost, pence, e)
			}
		}
		for _, plan := range plansOf(room) {
			pence, f := dress.Pays(room, plan)
			if f != api.OK {
				continue
			}
			if e != api.OK || pence < cost || pence == cost && slices.Compare(plan, best) < 0 {
				t.Fatalf("%v: Best = %v, %d, %d, but Pays of %v = %d", room, best, cost, e, plan, pence)
			}
			m.add("as much", pence == cost && !slices.Equal(plan, best))
			m.add("more", pence > cost)
		}
	}
	m.atLeast(t, 500, "as much", "more")
}

func TestP9_9Who(t *testing.T) {
	r := rand.New(rand.NewSource(909))
	m := met{}
	for range 2000 {
		room := aRoom(r)
		best, cost, e := dress.Best(room)
		if e != api.OK {
			continue
		}
		for person := range room.Persons {
			who, e := dress.Who(room, person)
			if !slices.Contains(who, best[person]) || !slices.IsSorted(who) || e != api.OK {
				t.Fatalf("%v: Best = %v, but Who of %d = %v, %d", room, best, person, who, e)
			}
			var some []int
			for _, plan := range plansOf(room) {
				if pence, e := dress.Pays(room, plan); e == api.OK && pence == cost {
					some = append(some, plan[person])
				}
			}
			slices.Sort(some)
			if !slices.Equal(slices.Compact(some), who) {
				t.Fatalf("%v: Who of %d = %v, but they are %v", room, person, who, some)
			}
			m.add("one", len(who) == 1)
			m.add("some", len(who) > 1 && len(who) < len(room.Figures))
		}
	}
	m.atLeast(t, 300, "one", "some")
}

// without is a room without some persons.
func without(r api.DrRoom, out []int) api.DrRoom {
	r.Persons = slices.Clone(r.Persons)
	for i := len(out) - 1; i >= 0; i-- {
		r.Persons = slices.Delete(r.Persons, out[i], out[i]+1)
	}
	return r
}

// listsOf returns all lists of some of the numbers below many, ascending.
func listsOf(many int) [][]int {
	lists := [][]int{nil}
	for n := range many {
		for _, list := range slices.Clone(lists) {
			lists = append(lists, append(slices.Clone(list), n))
		}
	}
	return lists
}

func TestP9_10LeftOut(t *testing.T) {
	r := rand.New(rand.NewSource(910))
	m := met{}
	for i := range 600 {
		room := aRoom(r)
		if i%10 == 0 {
			room = sized(r, r.Intn(api.MaxDrFigures+1), api.MaxDrPersons)
		}
		out, e := dress.Out(room)
		if e != api.OK {
			t.Fatalf("%v: Out = %v, %d", room, out, e)
		}
		if _, _, e := dress.Best(without(room, out)); e != api.OK {
			t.Fatalf("%v: Out = %v, but without them Best: %d", room, out, e)
		}
		for _, list := range listsOf(len(room.Persons)) {
			comes := cmp.Or(cmp.Compare(len(list), len(out)), slices.Compare(list, out))
			if _, _, e := dress.Best(without(room, list)); comes < 0 && e != api.ErrDown {
				t.Fatalf("%v: Out = %v, but without %v Best: %d", room, out, list, e)
			}
		}
		_, _, f := dress.Best(room)
		if (f == api.OK) != (len(out) == 0) {
			t.Fatalf("%v: Out = %v, but Best: %d", room, out, f)
		}
		m.add("none", len(out) == 0)
		m.add("some", len(out) > 0)
	}
	m.atLeast(t, 100, "none", "some")
}

// more is a room with more ounces, and whether it can be there.
func more(r api.DrRoom, ounces []int) (api.DrRoom, bool) {
	r.Ounces = slices.Clone(r.Ounces)
	for colour, n := range ounces {
		r.Ounces[colour] += n
	}
	return r, slices.Max(r.Ounces) <= api.MaxDrOunces
}

// parted returns all lists of so many numbers that are so much together.
func parted(many, all int) [][]int {
	if many == 1 {
		return [][]int{{all}}
	}
	var lists [][]int
	for first := range all + 1 {
		for _, rest := range parted(many-1, all-first) {
			lists = append(lists, append([]int{first}, rest...))
		}
	}
	return lists
}

func TestP9_11Bought(t *testing.T) {
	r := rand.New(rand.NewSource(911))
	m := met{}
	for range 1000 {
		room := aRoom(r)
		ounces, cost, e := dress.Buy(room)
		if e != api.OK {
			continue
		}
		best, least, e := dress.Best(room)
		if e == api.OK && (sum(ounces) > 0 || cost != least) || e != api.OK && sum(ounces) == 0 {
			t.Fatalf("%v: Buy = %v, %d, but Best = %v, %d, %d", room, ounces, cost, best, least, e)
		}
		rich, can := more(room, ounces)
		if !can || sum(ounces) > 20 {
			continue
		}
		if _, pence, e := dress.Best(rich); pence != cost || e != api.OK {
			t.Fatalf("%v: Buy = %v, %d, but with it Best costs %d, %d", room, ounces, cost, pence, e)
		}
		m.add("bought", sum(ounces) > 1)
		for fewer := range sum(ounces) {
			for _, other := range parted(len(ounces), fewer) {
				poor, can := more(room, other)
				if _, _, e := dress.Best(poor); can && e != api.ErrDown {
					t.Fatalf("%v: Buy = %v, but with %v Best: %d", room, ounces, other, e)
				}
			}
		}
	}
	m.atLeast(t, 50, "bought")
}

func TestP9_12Hair(t *testing.T) {
	r := rand.New(rand.NewSource(912))
	m := met{}
	for range 800 {
		room := aRoom(r)
		for _, plan := range plansOf(room) {
			all := sum(room.Ounces)
			for person, figure := range plan {
				if _, kinds, _ := dress.Cost(room, figure, person); slices.Contains(kinds, 0) {
					all += room.Figures[figure].Hair - room.Persons[person].Hair
					m["changed"]++
				} else {
					m["as it is"]++
				}
			}
			if left, e := dress.Left(room, plan); sum(left) != all || e != api.OK {
				t.Fatalf("%v: Left of %v = %v, %d, together not %d", room, plan, left, e, all)
			}
		}
	}
	m.atLeast(t, 500, "changed", "as it is")
}

// better is a room with more ounces, one more figure, or a person who can have any look of a kind, and how it came about.
func better(r *rand.Rand, room api.DrRoom) (api.DrRoom, string) {
	room = clone(room)
	way := r.Intn(3)
	switch {
	case way == 0 && len(room.Figures) < api.MaxDrFigures:
		f := aLook(r, r.Intn(8), len(room.Costs), len(room.Ounces), 0)
		room.Figures = slices.Insert(room.Figures, r.Intn(len(room.Figures)+1), named("z", f.Hair, f.Looks...))
		return room, "one more figure"
	case way == 1 && len(room.Persons) > 0 && len(room.Costs) > 1:
		room.Persons[r.Intn(len(room.Persons))].Looks[1+r.Intn(len(room.Costs)-1)] = whatever
		return room, "any look"
	}
	colour := r.Intn(len(room.Ounces))
	room.Ounces[colour] = min(room.Ounces[colour]+1+r.Intn(3), api.MaxDrOunces)
	return room, "more ounces"
}

func TestP9_13More(t *testing.T) {
	r := rand.New(rand.NewSource(913))
	m := met{}
	for range 3000 {
		room := aRoom(r)
		other, way := better(r, room)
		_, cost, e := dress.Best(room)
		_, then, f := dress.Best(other)
		out, _ := dress.Out(room)
		thenOut, _ := dress.Out(other)
		if e == api.OK && (f != api.OK || then > cost) || len(thenOut) > len(out) {
			t.Fatalf("%v: %d, %d, %v, but %v: %d, %d, %v", room, cost, e, out, other, then, f, thenOut)
		}
		m.add(way+": less", e == api.OK && then < cost)
		m.add(way+": fewer", len(thenOut) < len(out))
	}
	m.atLeast(t, 10, "one more figure: less", "any look: less", "more ounces: less", "one more figure: fewer", "more ounces: fewer")
}

// asTheyAre is a room whose persons are some of its figures, and have some of their looks, or all.
func asTheyAre(r *rand.Rand) api.DrRoom {
	room := sized(r, r.Intn(api.MaxDrFigures+1), 0)
	order := r.Perm(len(room.Figures))
	var persons []api.DrLook
	for _, figure := range order[:min(r.Intn(len(order)+1), api.MaxDrPersons)] {
		p := looks(r.Intn(api.MaxDrOunces+1), slices.Clone(room.Figures[figure].Looks)...)
		if r.Intn(3) == 0 {
			p.Looks[r.Intn(len(p.Looks))] = whatever
		}
		persons = append(persons, p)
	}
	return roomOf(room.Costs, room.Ounces, room.Figures, persons)
}

func TestP9_14AsItIs(t *testing.T) {
	r := rand.New(rand.NewSource(914))
	for range 500 {
		room := asTheyAre(r)
		if _, cost, e := dress.Best(room); cost != 0 || e != api.OK {
			t.Fatalf("%v: Best costs %d, %d", room, cost, e)
		}
		if out, e := dress.Out(room); len(out) > 0 || e != api.OK {
			t.Fatalf("%v: Out = %v, %d", room, out, e)
		}
		for figure, f := range room.Figures {
			for person, p := range room.Persons {
				cost, kinds, e := dress.Cost(room, figure, person)
				if slices.Equal(f.Looks, p.Looks) && (cost != 0 || len(kinds) > 0 || e != api.OK) {
					t.Fatalf("%v: Cost of %d, %d = %d, %v, %d", room, figure, person, cost, kinds, e)
				}
			}
		}
	}
}

func TestP9_15AnotherOrder(t *testing.T) {
	r := rand.New(rand.NewSource(915))
	m := met{}
	for range 800 {
		room := aRoom(r)
		other := clone(room)
		for at, figure := range r.Perm(len(room.Figures)) {
			other.Figures[at] = room.Figures[figure]
		}
		_, cost, e := dress.Best(room)
		_, then, f := dress.Best(other)
		ounces, pence, g := dress.Buy(room)
		thenOunces, thenPence, h := dress.Buy(other)
		if cost != then || e != f || sum(ounces) != sum(thenOunces) || pence != thenPence || g != h {
			t.Fatalf("%v: %d, %d, %v, %d, %d, but %v: %d, %d, %v, %d, %d", room, cost, e, ounces, pence, g, other, then, f, thenOunces, thenPence, h)
		}
		out, _ := dress.Out(room)
		if thenOut, e := dress.Out(other); !slices.Equal(out, thenOut) || e != api.OK {
			t.Fatalf("%v: Out = %v, but %v: %v, %d", room, out, other, thenOut, e)
		}
		m.add("costs", cost > 0)
		m.add("bought", sum(ounces) > 0)
	}
	m.atLeast(t, 100, "costs", "bought")
}

func TestP9_15TwiceTheCosts(t *testing.T) {
	r := rand.New(rand.NewSource(9151))
	m := met{}
	for range 800 {
		room := aRoom(r)
		twice := clone(room)
		for kind := range room.Costs {
			room.Costs[kind] = min(room.Costs[kind], api.MaxDrCost/2)
			twice.Costs[kind] = 2 * room.Costs[kind]
		}
		plan, cost, e := dress.Best(room)
		then, pence, f := dress.Best(twice)
		if !slices.Equal(plan, then) || pence != 2*cost || e != f {
			t.Fatalf("%v: Best = %v, %d, %d, but for twice as much %v, %d, %d", room, plan, cost, e, then, pence, f)
		}
		ounces, cost, e := dress.Buy(room)
		thenOunces, pence, f := dress.Buy(twice)
		if !slices.Equal(ounces, thenOunces) || pence != 2*cost || e != f {
			t.Fatalf("%v: Buy = %v, %d, %d, but for twice as much %v, %d, %d", room, ounces, cost, e, thenOunces, pence, f)
		}
		m.add("costs", cost > 0)
	}
	m.atLeast(t, 100, "costs")
}

func TestP9_16NotModified(t *testing.T) {
	r := rand.New(rand.NewSource(916))
	for range 200 {
		room := aRoom(r)
		plan := r.Perm(len(room.Figures))
		plan = plan[:min(len(plan), len(room.Persons))]
		before := fmt.Sprint(room, plan)
		first, _ := callAll(room, 0, 0, plan)
		if again, _ := callAll(room, 0, 0, plan); again != first {
			t.Fatalf("%v: %s, and then %s", room, first, again)
		}
		if fmt.Sprint(room, plan) != before {
			t.Fatalf("%s was modified: %v, %v", before, room, plan)
		}
	}
}

// costly is a room as large as there can be, in which no two persons can be dressed together.
func costly() api.DrRoom {
	person := looks(50, 1, 1, 1, 1)
	return roomOf([]int{1, 2, 3, 4}, []int{0, 50, 0, 0}, slices.Repeat(list(looks(0, 0, 0, 0, 0)), api.MaxDrFigures), slices.Repeat(list(person), api.MaxDrPersons))
}

func BenchmarkBuy(b *testing.B) {
	for room := costly(); b.Loop(); {
		dress.Buy(room)
	}
}

func BenchmarkOut(b *testing.B) {
	for room := costly(); b.Loop(); {
		dress.Out(room)
	}
}
