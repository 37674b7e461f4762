package mend_test

import (
	"cmp"
	"fmt"
	"math/rand"
	"slices"
	"testing"

	"ceroplast/api"
	"ceroplast/mend"
)

// The definitions, word by word.

func isRight(f api.MeFigure) bool {
	return f.Wants == whatever || f.Has == f.Wants && !f.Broken
}

func wrongOf(r api.MeRow) []int {
	var wrong []int
	for i, f := range r.Figures {
		if !isRight(f) {
			wrong = append(wrong, i)
		}
	}
	return wrong
}

// look is what two rows that look alike have in common.
func look(r api.MeRow) string {
	var text []byte
	for _, f := range r.Figures {
		mark := byte('+')
		if f.Broken {
			mark = '-'
		}
		text = append(text, byte('0'+f.Has), mark)
	}
	return string(text)
}

// stepped is a row once a step is done, and the error if it cannot be.
func stepped(r api.MeRow, s api.MeStep) (api.MeRow, api.Errno) {
	isBench := r.Bench != api.MeNone && s.A == r.Bench && s.B == r.Bench
	switch {
	case slices.Contains(r.Beside, s):
		return changed(r, func(r *api.MeRow) {
			a, b := &r.Figures[s.A], &r.Figures[s.B]
			a.Has, b.Has = b.Has, a.Has
			a.Broken, b.Broken = b.Broken, a.Broken
		}), api.OK
	case isBench && r.Figures[s.A].Broken:
		return changed(r, func(r *api.MeRow) { r.Figures[s.A].Broken = false }), api.OK
	case isBench:
		return api.MeRow{}, api.ErrZero
	}
	return api.MeRow{}, api.ErrNone
}

func compareSteps(a, b api.MeStep) int { return cmp.Or(cmp.Compare(a.A, b.A), cmp.Compare(a.B, b.B)) }

func compareLists(a, b []api.MeStep) int { return slices.CompareFunc(a, b, compareSteps) }

// allSteps are the steps of a row, in order, whether they can be done or not.
func allSteps(r api.MeRow) []api.MeStep {
	all := slices.Clone(r.Beside)
	if r.Bench != api.MeNone {
		all = append(all, api.MeStep{A: r.Bench, B: r.Bench})
	}
	slices.SortFunc(all, compareSteps)
	return all
}

// after returns the rows to which one step leads.
func after(r api.MeRow) []api.MeRow {
	var rows []api.MeRow
	for _, s := range allSteps(r) {
		if next, e := stepped(r, s); e == api.OK {
			rows = append(rows, next)
		}
	}
	return rows
}

// never is more steps than there ever are.
const never = 1 << 20

// reference is what can become of a row: all rows that are reached, by at least how many steps, and how far they are from all being right.
type reference struct {
	r     api.MeRow
	rows  map[string]api.MeRow
	by    map[string]int
	right map[string]int
}

// referenceOf takes all rows that are reached by as many steps, and then all to which these lead, until nothing more comes. How far rows are is lowered until nothing changes.
func referenceOf(r api.MeRow) reference {
	k := reference{r, map[string]api.MeRow{look(r): r}, map[string]int{look(r): 0}, map[string]int{}}
	for n := 1; ; n++ {
		var more []api.MeRow
		for text, row := range k.rows {
			if k.by[text] == n-1 {
				more = append(more, after(row)...)
			}
		}
		before := len(k.rows)
		for _, row := range more {
			text := look(row)
			if _, found := k.rows[text]; !found {
				k.rows[text], k.by[text] = row, n
			}
		}
		if len(k.rows) == before {
			break
		}
	}
	for text, row := range k.rows {
		k.right[text] = never
		if len(wrongOf(row)) == 0 {
			k.right[text] = 0
		}
	}
	for again := true; again; {
		again = false
		for text, row := range k.rows {
			for _, next := range after(row) {
				if n := k.right[look(next)] + 1; n < k.right[text] {
					k.right[text], again = n, true
				}
			}
		}
	}
	return k
}

// fewest returns the first of the fewest steps that set all right, and whether any do.
func (k reference) fewest() ([]api.MeStep, bool) {
	var list []api.MeStep
	row := k.r
	if k.right[look(row)] == never {
		return nil, false
	}
	for k.right[look(row)] > 0 {
		for _, s := range allSteps(row) {
			next, e := stepped(row, s)
			if e == api.OK && k.right[look(next)] == k.right[look(row)]-1 {
				list, row = append(list, s), next
				break
			}
		}
	}
	return list, true
}

// most returns how few figures can be wrong, and by how few steps.
func (k reference) most() (wrong, many int) {
	wrong, many = never, never
	for text, row := range k.rows {
		n := len(wrongOf(row))
		if n < wrong || n == wrong && k.by[text] < many {
			wrong, many = n, k.by[text]
		}
	}
	return wrong, many
}

// reach returns how many rows are reached by so many steps.
func (k reference) reach(many int) int {
	reached := 0
	for _, n := range k.by {
		if n <= many {
			reached++
		}
	}
	return reached
}

// met counts of how many rows something interesting is so.
type met map[string]int

func (m met) add(what string, is bool) {
	if is {
		m[what]++
	}
}

// atLeast checks that nothing of these was met fewer times than that.
func (m met) atLeast(t *testing.T, least int, what ...string) {
	t.Helper()
	for _, w := range what {
		if m[w] < least {
			t.Errorf("%s only %d times: %v", w, m[w], m)
		}
	}
}

// someBeside are pairs of so many figures, in any order.
func someBeside(r *rand.Rand, figures int) []api.MeStep {
	var beside []api.MeStep
	switch r.Intn(4) {
	case 0:
		beside = inLine(figures)
	case 1:
		for b := 1; b < figures; b++ {
			beside = append(beside, api.MeStep{A: r.Intn(b), B: b})
		}
	default:
		few := 1 + r.Intn(4)
		for _, s := range allBeside(figures) {
			if r.Intn(4) < few {
				beside = append(beside, s)
			}
		}
	}
	r.Shuffle(len(beside), func(i, j int) { beside[i], beside[j] = beside[j], beside[i] })
	return beside
}

// mixed is a row of so many figures, most of which want parts that are there.
func mixed(r *rand.Rand, figures int) api.MeRow {
	has := r.Perm(api.MaxMeKind + 1)[:figures]
	if r.Intn(3) > 0 {
		some := 1 + r.Intn(3)
		for i := range has {
			has[i] = r.Intn(some)
		}
	}
	wants := slices.Clone(has)
	r.Shuffle(figures, func(i, j int) { wants[i], wants[j] = wants[j], wants[i] })
	for i := range wants {
		switch r.Intn(12) {
		case 0, 1:
			wants[i] = whatever
		case 2:
			wants[i] = r.Intn(api.MaxMeKind + 1)
		}
	}
	row := rowOf(has, wants)
	row.Beside = someBeside(r, figures)
	if figures > 0 && r.Intn(4) > 0 {
		row.Bench = r.Intn(figures)
	}
	for i := range row.Figures {
		row.Figures[i].Broken = r.Intn(4) == 0
	}
	return row
}

// aRow is a row that is not large.
func aRow(r *rand.Rand) api.MeRow { return mixed(r, r.Intn(5)) }

// looped is a row of so many figures that has loops.
func looped(r *rand.Rand, figures int) api.MeRow {
	has := r.Perm(api.MaxMeKind + 1)[:figures]
	wants := slices.Clone(has)
	r.Shuffle(figures, func(i, j int) { wants[i], wants[j] = wants[j], wants[i] })
	row := rowOf(has, wants)
	row.Beside = someBeside(r, figures)
	return row
}

// someSteps are so many steps of a row that can be done one after the other, or fewer if none can.
func someSteps(r *rand.Rand, row api.MeRow, many int) []api.MeStep {
	var list []api.MeStep
	for range many {
		var can []api.MeStep
		for _, s := range allSteps(row) {
			if _, e := stepped(row, s); e == api.OK {
				can = append(can, s)
			}
		}
		if len(can) == 0 {
			break
		}
		s := can[r.Intn(len(can))]
		list = append(list, s)
		row, _ = stepped(row, s)
	}
	return list
}

// done returns a row once steps are done, however many there are.
func done(t *testing.T, r api.MeRow, list []api.MeStep) api.MeRow {
	t.Helper()
	for some := range slices.Chunk(list, api.MaxMeSteps) {
		next, e := mend.Done(r, some)
		if e != api.OK {
			t.Fatalf("%v: Done of %v: %d", r, some, e)
		}
		r = next
	}
	return r
}

// checkRow checks what all functions but Loops and Gain say of a row.
func checkRow(t *testing.T, k reference, m met) {
	t.Helper()
	if wrong, e := mend.Wrong(k.r); !slices.Equal(wrong, wrongOf(k.r)) || e != api.OK {
		t.Fatalf("%v: Wrong = %v, %d", k.r, wrong, e)
	}
	want, can := k.fewest()
	fewest, e := mend.Fewest(k.r)
	if !slices.Equal(fewest, want) || can != (e == api.OK) || !can && e != api.ErrDown {
		t.Fatalf("%v: Fewest = %v, %d, not %v, %t", k.r, fewest, e, want, can)
	}
	wrong, many := k.most()
	if n, by, e := mend.Most(k.r); n != wrong || by != many || e != api.OK {
		t.Fatalf("%v: Most = %d, %d, %d, not %d, %d", k.r, n, by, e, wrong, many)
	}
	for n := range api.MaxMeSteps + 1 {
		if got, e := mend.Reach(k.r, n); got != k.reach(n) || e != api.OK {
			t.Fatalf("%v: Reach by %d = %d, %d, not %d", k.r, n, got, e, k.reach(n))
		}
	}
	m.add(fmt.Sprint("right by ", len(want)), can)
	m.add("not right", !can)
	m.add("wrong, but fewer", !can && many > 0)
	m.add("mended", slices.ContainsFunc(want, func(s api.MeStep) bool { return s.A == s.B }))
	m.add("many rows", len(k.rows) > 100)
	m.add("far rows", k.reach(api.MaxMeSteps) < len(k.rows))
}

// checkGain checks what Gain says of all pairs.
func checkGain(t *testing.T, k reference, m met) {
	t.Helper()
	now, can := k.fewest()
	for _, s := range allBeside(len(k.r.Figures)) {
		got, e := mend.Gain(k.r, s.A, s.B)
		if !can {
			if got != 0 || e != api.ErrDown {
				t.Fatalf("%v: Gain of %v = %d, %d", k.r, s, got, e)
			}
			continue
		}
		closer := changed(k.r, func(r *api.MeRow) { r.Beside = append(r.Beside, s) })
		then, _ := referenceOf(closer).fewest()
		if got != len(now)-len(then) || e != api.OK {
			t.Fatalf("%v: Gain of %v = %d, %d, not %d", k.r, s, got, e, len(now)-len(then))
		}
		m.add(fmt.Sprint("gain of ", got), true)
	}
}

func TestP11_2ToP11_6AgainstTheDefinition(t *testing.T) {
	r := rand.New(rand.NewSource(1102))
	m := met{}
	for i := range 1500 {
		k := referenceOf(aRow(r))
		checkRow(t, k, m)
		if i%3 == 0 {
			checkGain(t, k, m)
		}
	}
	m.atLeast(t, 50, "right by 0", "right by 1", "right by 2", "right by 3", "not right", "wrong, but fewer", "mended", "gain of 0")
	m.atLeast(t, 10, "right by 4", "right by 5", "right by 6", "gain of 1", "gain of 2")
}

// TestP11_2ToP11_6LargeRows is of as many figures as there can be.
func TestP11_2ToP11_6LargeRows(t *testing.T) {
	r := rand.New(rand.NewSource(11021))
	m := met{}
	for range 25 {
		checkRow(t, referenceOf(mixed(r, api.MaxMeFigures)), m)
	}
	line := large()
	line.Beside = inLine(api.MaxMeFigures)
	checkRow(t, referenceOf(line), m)
	m.atLeast(t, 3, "mended", "many rows", "not right")
	m.atLeast(t, 1, "far rows", "wrong, but fewer")
}

// lists calls visit for each list of at most so many steps that can be done, and with the row to which it leads.
func lists(r api.MeRow, most int, visit func(list []api.MeStep, r api.MeRow)) {
	var extend func(list []api.MeStep, r api.MeRow)
	extend = func(list []api.MeStep, r api.MeRow) {
		visit(list, r)
		if len(list) == most {
			return
		}
		for _, s := range allSteps(r) {
			if next, e := stepped(r, s); e == api.OK {
				extend(append(slices.Clone(list), s), next)
			}
		}
	}
	extend(nil, r)
}

// byList compares lists by how many steps there are, and then step by step.
func byList(a, b []api.MeStep) int {
	return cmp.Or(cmp.Compare(len(a), len(b)), compareLists(a, b))
}

// TestP11_7SetRight goes through all lists of steps, which takes too long if there are many.
func TestP11_7SetRight(t *testing.T) {
	r := rand.New(rand.NewSource(1107))
	m := met{}
	for range 2000 {
		row := aRow(r)
		fewest, e := mend.Fewest(row)
		if e == api.OK {
			if wrong, e := mend.Wrong(done(t, row, fewest)); len(wrong) > 0 || e != api.OK {
				t.Fatalf("%v: Fewest = %v, but then %v are wrong, %d", row, fewest, wrong, e)
			}
		}
		several := 0
		lists(row, 4, func(list []api.MeStep, then api.MeRow) {
			if len(wrongOf(then)) > 0 {
				return
			}
			if e != api.OK || byList(list, fewest) < 0 {
				t.Fatalf("%v: Fewest = %v, %d, but %v sets all right", row, fewest, e, list)
			}
			if len(list) == len(fewest) {
				several++
			}
		})
		if e == api.OK && len(fewest) <= 4 && several == 0 {
			t.Fatalf("%v: Fewest = %v", row, fewest)
		}
		m.add("several", several > 1)
		m.add("one", several == 1 && len(fewest) > 1)
	}
	m.atLeast(t, 50, "several", "one")
}

func TestP11_7LargeRows(t *testing.T) {
	r := rand.New(rand.NewSource(11071))
	longest := 0
	for range 150 {
		row := mixed(r, api.MaxMeFigures)
		if r.Intn(3) == 0 {
			row = broken(looped(r, api.MaxMeFigures), r.Intn(3), 3+r.Intn(2))
			row.Beside = inLine(api.MaxMeFigures)
			row.Bench = r.Intn(api.MaxMeFigures)
		}
		fewest, e := mend.Fewest(row)
		if e != api.OK {
			continue
		}
		longest = max(longest, len(fewest))
		if wrong, e := mend.Wrong(done(t, row, fewest)); len(wrong) > 0 || e != api.OK {
			t.Fatalf("%v: Fewest = %v, but then %v are wrong, %d", row, fewest, wrong, e)
		}
		for range 200 {
			list := someSteps(r, row, len(fewest))
			for many := range len(list) + 1 {
				wrong, e := mend.Wrong(done(t, row, list[:many]))
				if len(wrong) == 0 && byList(list[:many], fewest) < 0 || e != api.OK {
					t.Fatalf("%v: Fewest = %v, but %v: %v, %d", row, fewest, list[:many], wrong, e)
				}
			}
		}
	}
	if longest < 10 {
		t.Errorf("at most %d steps", longest)
	}
}

// TestP11_7ManySteps is of more steps than Done does at once.
func TestP11_7ManySteps(t *testing.T) {
	for i, c := range []struct {
		wants       []int
		bench, many int
	}{
		{kinds(0, 1, 2, 3, 4), 0, 25},
		{kinds(0, 1, 2, 3, 4), 4, 25},
		{kinds(0, 2, 1, 3, 4), 0, 24},
		{kinds(2, 1, 0, 4, 3), 0, 21},
	} {
		row := benched(broken(rowOf(kinds(0, 1, 2, 3, 4), c.wants), 0, 1, 2, 3, 4), c.bench)
		fewest, e := mend.Fewest(row)
		if want, _ := referenceOf(row).fewest(); !slices.Equal(fewest, want) || e != api.OK {
			t.Errorf("%d: Fewest = %v, %d, not %v", i, fewest, e, want)
		}
		if wrong, e := mend.Wrong(done(t, row, fewest)); len(wrong) > 0 || e != api.OK {
			t.Errorf("%d: Fewest = %v, but then %v are wrong, %d", i, fewest, wrong, e)
		}
		if wrong, many, e := mend.Most(row); wrong != 0 || many != c.many || e != api.OK {
			t.Errorf("%d: Most = %d, %d, %d", i, wrong, many, e)
		}
		if _, e := mend.Done(row, fewest); len(fewest) != c.many || e != api.ErrLong {
			t.Errorf("%d: Fewest = %v, of which Done: %d", i, fewest, e)
		}
	}
}

// checkLoops checks that these are the loops of a row.
func checkLoops(t *testing.T, row api.MeRow, loops [][]int) {
	t.Helper()
	var all []int
	for i, loop := range loops {
		if len(loop) < 2 || slices.Min(loop) != loop[0] || i > 0 && loops[i-1][0] >= loop[0] {
			t.Fatalf("%v: Loops = %v", row, loops)
		}
		for at, figure := range loop {
			next := loop[(at+1)%len(loop)]
			if row.Figures[figure].Wants != row.Figures[next].Has {
				t.Fatalf("%v: Loops = %v, but %d does not want what %d has", row, loops, figure, next)
			}
		}
		all = append(all, loop...)
	}
	slices.Sort(all)
	if !slices.Equal(all, wrongOf(row)) {
		t.Fatalf("%v: Loops = %v, but %v are wrong", row, loops, wrongOf(row))
	}
}

func TestP11_8Loops(t *testing.T) {
	r := rand.New(rand.NewSource(1108))
	m := met{}
	for range 600 {
		row := looped(r, r.Intn(api.MaxMeFigures+1))
		if len(row.Figures) > 0 && r.Intn(2) == 0 {
			row.Bench = r.Intn(len(row.Figures))
		}
		loops, e := mend.Loops(row)
		if e != api.OK {
			t.Fatalf("%v: Loops = %v, %d", row, loops, e)
		}
		checkLoops(t, row, loops)
		least := len(wrongOf(row)) - len(loops)
		if fewest, e := mend.Fewest(row); e == api.OK && len(fewest) < least {
			t.Fatalf("%v: Loops = %v, but Fewest = %v", row, loops, fewest)
		} else {
			m.add("more", e == api.OK && len(fewest) > least)
		}
		row.Beside = allBeside(len(row.Figures))
		if fewest, e := mend.Fewest(row); len(fewest) != least || e != api.OK {
			t.Fatalf("%v: Loops = %v, but Fewest = %v, %d", row, loops, fewest, e)
		}
		m.add(fmt.Sprint(len(loops), " loops"), true)
	}
	m.atLeast(t, 20, "more", "0 loops", "1 loops", "2 loops")
}

// hasLoops is the definition.
func hasLoops(r api.MeRow) api.Errno {
	has, wants := map[int]int{}, map[int]int{}
	for _, f := range r.Figures {
		if f.Broken || f.Wants == whatever {
			return api.ErrZero
		}
		has[f.Has]++
		wants[f.Wants]++
	}
	for _, n := range has {
		if n > 1 {
			return api.ErrTwice
		}
	}
	for kind, n := range wants {
		if has[kind] == 0 || n > 1 {
			return api.ErrDown
		}
	}
	return api.OK
}

func TestP11_5LoopsOfAnyRow(t *testing.T) {
	r := rand.New(rand.NewSource(1105))
	m := met{}
	for range 5000 {
		row := looped(r, r.Intn(api.MaxMeFigures+1))
		for i := range row.Figures {
			f := &row.Figures[i]
			switch r.Intn(30) {
			case 0:
				f.Broken = true
			case 1:
				f.Wants = whatever
			case 2, 3, 4:
				f.Wants = r.Intn(api.MaxMeKind + 1)
			case 5, 6, 7:
				f.Has = r.Intn(api.MaxMeKind + 1)
			}
		}
		want := hasLoops(row)
		loops, e := mend.Loops(row)
		if e != want || e != api.OK && len(loops) > 0 {
			t.Fatalf("%v: Loops = %v, %d, not %d", row, loops, e, want)
		}
		if e == api.OK {
			checkLoops(t, row, loops)
		}
		m.add(fmt.Sprint(e), true)
	}
	m.atLeast(t, 300, fmt.Sprint(api.OK), fmt.Sprint(api.ErrZero), fmt.Sprint(api.ErrTwice), fmt.Sprint(api.ErrDown))
}

func TestP11_9Most(t *testing.T) {
	r := rand.New(rand.NewSource(1109))
	m := met{}
	for range 1200 {
		row := mixed(r, r.Intn(api.MaxMeFigures+1))
		wrong, many, e := mend.Most(row)
		if e != api.OK {
			t.Fatalf("%v: Most = %d, %d, %d", row, wrong, many, e)
		}
		for range 30 {
			list := someSteps(r, row, r.Intn(12))
			n := len(wrongOf(done(t, row, list)))
			if n < wrong || n == wrong && len(list) < many {
				t.Fatalf("%v: Most = %d, %d, but %v: %d", row, wrong, many, list, n)
			}
			m.add("as few", n == wrong && n > 0)
			m.add("more", n > wrong)
		}
		fewest, e := mend.Fewest(row)
		if (e == api.OK) != (wrong == 0) || e == api.OK && many != len(fewest) {
			t.Fatalf("%v: Most = %d, %d, but Fewest = %v, %d", row, wrong, many, fewest, e)
		}
		m.add("all right", wrong == 0 && many > 0)
		m.add("not all right", wrong > 0 && many > 0)
	}
	m.atLeast(t, 50, "as few", "more", "all right", "not all right")
}

// partsOf are how many parts of each kind there are, and how many of these are broken.
func partsOf(r api.MeRow) (all, broken [api.MaxMeKind + 1]int) {
	for _, f := range r.Figures {
		all[f.Has]++
		if f.Broken {
			broken[f.Has]++
		}
	}
	return all, broken
}

func TestP11_10PartsStay(t *testing.T) {
	r := rand.New(rand.NewSource(1110))
	m := met{}
	for range 2000 {
		row := mixed(r, r.Intn(api.MaxMeFigures+1))
		list := someSteps(r, row, r.Intn(api.MaxMeSteps+1))
		all, e := mend.Done(row, list)
		if e != api.OK {
			t.Fatalf("%v: Done of %v: %d", row, list, e)
		}
		now, want := row, row
		for _, s := range list {
			before, e := now, api.OK
			if now, e = mend.Done(now, []api.MeStep{s}); e != api.OK {
				t.Fatalf("%v: Done of %v: %d", before, s, e)
			}
			want, _ = stepped(want, s)
			had, hadBroken := partsOf(before)
			has, hasBroken := partsOf(now)
			mended := 0
			for kind, n := range hadBroken {
				mended += n - hasBroken[kind]
			}
			if s.A == s.B && mended != 1 || s.A != s.B && hadBroken != hasBroken || had != has {
				t.Fatalf("%v: Done of %v = %v", before, s, now)
			}
			if twice, e := mend.Done(before, []api.MeStep{s, s}); s.A != s.B && (fmt.Sprint(twice) != fmt.Sprint(before) || e != api.OK) {
				t.Fatalf("%v: Done of %v twice = %v, %d", before, s, twice, e)
			}
			m.add("mended", s.A == s.B)
		}
		if fmt.Sprint(all) != fmt.Sprint(now) || fmt.Sprint(all) != fmt.Sprint(want) {
			t.Fatalf("%v: Done of %v = %v, but one after the other %v", row, list, all, now)
		}
	}
	m.atLeast(t, 100, "mended")
}

// TestP11_2ErrorsOfAnySteps is of steps one of which perhaps cannot be done.
func TestP11_2ErrorsOfAnySteps(t *testing.T) {
	r := rand.New(rand.NewSource(11022))
	m := met{}
	for range 3000 {
		row := mixed(r, 1+r.Intn(api.MaxMeFigures))
		list := someSteps(r, row, r.Intn(5))
		for range r.Intn(3) {
			s := api.MeStep{A: r.Intn(len(row.Figures)), B: r.Intn(len(row.Figures))}
			if r.Intn(2) == 0 {
				s = api.MeStep{A: row.Bench, B: row.Bench}
			}
			list = slices.Insert(list, r.Intn(len(list)+1), s)
		}
		want, e := row, api.OK
		for _, s := range list {
			if want, e = stepped(want, s); e != api.OK {
				break
			}
		}
		if got, f := mend.Done(row, list); fmt.Sprint(got) != fmt.Sprint(want) || f != e {
			t.Fatalf("%v: Done of %v = %v, %d, not %v, %d", row, list, got, f, want, e)
		}
		m.add(fmt.Sprint(e), true)
	}
	m.atLeast(t, 200, fmt.Sprint(api.OK), fmt.Sprint(api.ErrNone), fmt.Sprint(api.ErrZero))
}

func TestP11_11Reached(t *testing.T) {
	r := rand.New(rand.NewSource(1111))
	for range 150 {
		row := aRow(r)
		const most = 4
		var rows [most + 1]map[string]bool
		for n := range rows {
			rows[n] = map[string]bool{}
		}
		lists(row, most, func(list []api.MeStep, then api.MeRow) {
			for n := len(list); n <= most; n++ {
				rows[n][look(then)] = true
			}
		})
		before := 0
		for n := range api.MaxMeSteps + 1 {
			many, e := mend.Reach(row, n)
			if e != api.OK || n == 0 && many != 1 || many < before || n > 0 && many > 1+before*len(allSteps(row)) {
				t.Fatalf("%v: Reach by %d = %d, %d, but by one step less %d", row, n, many, e, before)
			}
			if n <= most && many != len(rows[n]) {
				t.Fatalf("%v: Reach by %d = %d, not %d", row, n, many, len(rows[n]))
			}
			before = many
		}
	}
}

func TestP11_12Saved(t *testing.T) {
	r := rand.New(rand.NewSource(1112))
	m := met{}
	for range 400 {
		row := mixed(r, r.Intn(api.MaxMeFigures+1))
		now, e := mend.Fewest(row)
		for _, s := range allBeside(len(row.Figures)) {
			gain, f := mend.Gain(row, s.A, s.B)
			if f != e {
				t.Fatalf("%v: Gain of %v = %d, %d, but Fewest = %v, %d", row, s, gain, f, now, e)
			}
			if e != api.OK {
				continue
			}
			isBeside := slices.Contains(row.Beside, s)
			if gain < 0 || isBeside && gain != 0 {
				t.Fatalf("%v: Gain of %v = %d", row, s, gain)
			}
			m.add("beside", isBeside)
			m.add("saved", gain > 0)
			if isBeside {
				continue
			}
			closer := changed(row, func(row *api.MeRow) { row.Beside = append(row.Beside, s) })
			if then, e := mend.Fewest(closer); len(then)+gain != len(now) || e != api.OK {
				t.Fatalf("%v: Gain of %v = %d, but Fewest = %v, %d, not %v", row, s, gain, then, e, now)
			}
			wrong, by, _ := mend.Most(row)
			if fewer, then, e := mend.Most(closer); fewer > wrong || fewer == wrong && then > by || e != api.OK {
				t.Fatalf("%v: Most = %d, %d, but with %v %d, %d, %d", row, wrong, by, s, fewer, then, e)
			}
		}
	}
	m.atLeast(t, 50, "beside", "saved")
}

// opposite is a row whose figures are told in the opposite order.
func opposite(r api.MeRow) api.MeRow {
	last := len(r.Figures) - 1
	return changed(r, func(r *api.MeRow) {
		slices.Reverse(r.Figures)
		for i, s := range r.Beside {
			r.Beside[i] = api.MeStep{A: last - s.B, B: last - s.A}
		}
		if r.Bench != api.MeNone {
			r.Bench = last - r.Bench
		}
	})
}

func TestP11_13Renamed(t *testing.T) {
	r := rand.New(rand.NewSource(1113))
	m := met{}
	for range 500 {
		row := mixed(r, r.Intn(api.MaxMeFigures+1))
		other := opposite(row)
		fewest, e := mend.Fewest(row)
		then, f := mend.Fewest(other)
		if len(fewest) != len(then) || e != f {
			t.Fatalf("%v: Fewest = %v, %d, but %v: %v, %d", row, fewest, e, other, then, f)
		}
		wrong, many, _ := mend.Most(row)
		if n, by, e := mend.Most(other); n != wrong || by != many || e != api.OK {
			t.Fatalf("%v: Most = %d, %d, but %v: %d, %d, %d", row, wrong, many, other, n, by, e)
		}
		for _, n := range []int{0, 1, 2, 3, 5, 8, 20} {
			reached, _ := mend.Reach(row, n)
			if then, e := mend.Reach(other, n); then != reached || e != api.OK {
				t.Fatalf("%v: Reach by %d = %d, but %v: %d, %d", row, n, reached, other, then, e)
			}
		}
		m.add("steps", len(fewest) > 1)
		m.add("wrong", wrong > 0 && many > 1)
	}
	m.atLeast(t, 50, "steps")
	m.atLeast(t, 20, "wrong")
}

func TestP11_14DoneAlready(t *testing.T) {
	r := rand.New(rand.NewSource(1114))
	m := met{}
	for range 1500 {
		row := mixed(r, r.Intn(api.MaxMeFigures+1))
		if r.Intn(2) == 0 {
			for i := range row.Figures {
				f := &row.Figures[i]
				if f.Wants != whatever {
					f.Has, f.Broken = f.Wants, false
				}
			}
		}
		wrong, _ := mend.Wrong(row)
		fewest, e := mend.Fewest(row)
		if (len(wrong) == 0) != (e == api.OK && len(fewest) == 0) {
			t.Fatalf("%v: Wrong = %v, but Fewest = %v, %d", row, wrong, fewest, e)
		}
		m.add("none wrong", len(wrong) == 0)
		m.add("some wrong", len(wrong) > 0)
		if len(wrong) > 0 || len(row.Beside) == 0 {
			continue
		}
		s := row.Beside[r.Intn(len(row.Beside))]
		a, b := row.Figures[s.A], row.Figures[s.B]
		if a.Wants == whatever || b.Wants == whatever || a.Wants == b.Wants {
			continue
		}
		row, _ = stepped(row, s)
		if fewest, e := mend.Fewest(row); !slices.Equal(fewest, []api.MeStep{s}) || e != api.OK {
			t.Fatalf("%v: Fewest = %v, %d, not %v", row, fewest, e, s)
		}
		m.add("one step", true)
	}
	m.atLeast(t, 100, "none wrong", "some wrong", "one step")
}

func TestP11_15NotModified(t *testing.T) {
	r := rand.New(rand.NewSource(1115))
	for range 300 {
		row := mixed(r, r.Intn(api.MaxMeFigures+1))
		list := someSteps(r, row, r.Intn(api.MaxMeSteps+1))
		before := fmt.Sprint(row, list)
		first := callAll(row, list, 4, 0, 1)
		if again := callAll(row, list, 4, 0, 1); again != first {
			t.Fatalf("%v: %s, and then %s", row, first, again)
		}
		if fmt.Sprint(row, list) != before {
			t.Fatalf("%s was modified: %v, %v", before, row, list)
		}
	}
}

func BenchmarkFewest(b *testing.B) {
	for r := large(); b.Loop(); {
		mend.Fewest(r)
	}
}

func BenchmarkMost(b *testing.B) {
	for r := large(); b.Loop(); {
		mend.Most(r)
	}
}

func BenchmarkGain(b *testing.B) {
	r := large()
	r.Beside = inLine(api.MaxMeFigures)
	for b.Loop() {
		mend.Gain(r, 0, 4)
	}
}
