package bill_test

import (
	"cmp"
	"fmt"
	"iter"
	"math/rand"
	"slices"
	"strings"
	"testing"

	"ceroplast/api"
	"ceroplast/bill"
)

// The definitions, word by word.

func arrivesIn(truth, figure int) bool { return truth/(1<<figure)%2 == 1 }

// inHowMany returns in how many truths at least one of these figures arrives.
func inHowMany(s api.BiShow, figures ...int) int {
	many := 0
	for _, truth := range s.Truths {
		if slices.ContainsFunc(figures, func(figure int) bool { return arrivesIn(truth, figure) }) {
			many++
		}
	}
	return many
}

func surelyArrives(s api.BiShow, figure int) bool { return inHowMany(s, figure) == len(s.Truths) }

func mayArrive(s api.BiShow, figure int) bool {
	return inHowMany(s, figure) > 0 && !surelyArrives(s, figure)
}

func standForEachOther(s api.BiShow, a, b int) bool {
	return s.Figures[a].Room == s.Figures[b].Room && !surelyArrives(s, a) && !surelyArrives(s, b) && inHowMany(s, a, b) == len(s.Truths)
}

func isIndexOf(s api.BiShow, n int) bool { return n >= 0 && n < len(s.Figures) }

func isTrueEntry(s api.BiShow, e api.BiEntry) bool {
	if !isIndexOf(s, e.A) || !isIndexOf(s, e.B) || e.Says != api.BiEither && e.B != 0 {
		return false
	}
	switch e.Says {
	case api.BiIs:
		return surelyArrives(s, e.A)
	case api.BiEither:
		return e.A < e.B && standForEachOther(s, e.A, e.B)
	case api.BiMay:
		return mayArrive(s, e.A)
	}
	return false
}

// named returns the figures that entries name, each one as often as they do.
func named(c ...api.BiEntry) []int {
	var list []int
	for _, e := range c {
		list = append(list, e.A)
		if e.Says == api.BiEither {
			list = append(list, e.B)
		}
	}
	return list
}

func isTrueOf(s api.BiShow, c []api.BiEntry) bool {
	for i, e := range c {
		if !isTrueEntry(s, e) || i > 0 && c[i-1].A >= e.A {
			return false
		}
	}
	list := named(c...)
	for i, figure := range list {
		if slices.Contains(list[:i], figure) {
			return false
		}
	}
	for figure := range s.Figures {
		if (surelyArrives(s, figure) || mayArrive(s, figure)) && !slices.Contains(list, figure) {
			return false
		}
	}
	return true
}

// listsOf yields all lists of entries, true or not, whose As ascend; each time in the same memory.
func listsOf(s api.BiShow) iter.Seq[[]api.BiEntry] {
	return func(yield func([]api.BiEntry) bool) {
		var from func(figure int, c []api.BiEntry) bool
		from = func(figure int, c []api.BiEntry) bool {
			if figure == len(s.Figures) {
				return yield(c)
			}
			if !from(figure+1, c) {
				return false
			}
			choices := entries(is(figure), may(figure))
			for b := range s.Figures {
				choices = append(choices, either(figure, b))
			}
			for _, e := range choices {
				if !from(figure+1, append(c, e)) {
					return false
				}
			}
			return true
		}
		from(0, nil)
	}
}

func compareCatalogues(c, d []api.BiEntry) int {
	return slices.CompareFunc(c, d, func(e, f api.BiEntry) int {
		return cmp.Or(cmp.Compare(e.A, f.A), cmp.Compare(e.Says, f.Says), cmp.Compare(e.B, f.B))
	})
}

func maysOf(c []api.BiEntry) int {
	many := 0
	for _, e := range c {
		if e.Says == api.BiMay {
			many++
		}
	}
	return many
}

// truesOf returns all catalogues of a show that are true, the best one first.
func truesOf(s api.BiShow) [][]api.BiEntry {
	var trues [][]api.BiEntry
	for c := range listsOf(s) {
		if isTrueOf(s, c) {
			trues = append(trues, slices.Clone(c))
		}
	}
	slices.SortFunc(trues, func(c, d []api.BiEntry) int {
		return cmp.Or(cmp.Compare(maysOf(c), maysOf(d)), compareCatalogues(c, d))
	})
	return trues
}

// headingOf returns how many lines the heading before an entry has.
func headingOf(s api.BiShow, c []api.BiEntry, pages []int, entry int) int {
	isSame := func(e api.BiEntry) bool { return s.Figures[e.A].Room == s.Figures[c[entry].A].Room }
	switch {
	case slices.IndexFunc(c, isSame) == entry:
		return 2
	case slices.Contains(pages, entry):
		return 1
	}
	return 0
}

// linesOf returns how many lines each page has.
func linesOf(s api.BiShow, c []api.BiEntry, pages []int) []int {
	var lines []int
	for i, e := range c {
		if slices.Contains(pages, i) {
			lines = append(lines, 0)
		}
		for _, figure := range named(e) {
			lines[len(lines)-1] += s.Figures[figure].Height
		}
		lines[len(lines)-1] += headingOf(s, c, pages, i)
	}
	return lines
}

func fitsOf(s api.BiShow, c []api.BiEntry, pages []int) bool {
	return !slices.ContainsFunc(linesOf(s, c, pages), func(lines int) bool { return lines > s.Lines })
}

func whiteOf(s api.BiShow, c []api.BiEntry, pages []int) int {
	white := 0
	for i, lines := range linesOf(s, c, pages) {
		if i+1 < len(pages) {
			white += (s.Lines - lines) * (s.Lines - lines)
		}
	}
	return white
}

// pagesOf returns all pages of a catalogue, whether they fit or not.
func pagesOf(c []api.BiEntry) [][]int {
	if len(c) == 0 {
		return [][]int{nil}
	}
	list := [][]int{{0}}
	for entry := 1; entry < len(c); entry++ {
		for _, pages := range slices.Clone(list) {
			list = append(list, append(slices.Clone(pages), entry))
		}
	}
	return list
}

// fittingOf returns the pages of a catalogue that fit, the best ones first.
func fittingOf(s api.BiShow, c []api.BiEntry) [][]int {
	list := slices.DeleteFunc(pagesOf(c), func(pages []int) bool { return !fitsOf(s, c, pages) })
	slices.SortFunc(list, func(p, q []int) int {
		return cmp.Or(cmp.Compare(whiteOf(s, c, p), whiteOf(s, c, q)), cmp.Compare(len(p), len(q)), slices.Compare(p, q))
	})
	return list
}

func textOf(s api.BiShow, c []api.BiEntry) string {
	text, page := "", 0
	pages := fittingOf(s, c)[0]
	as := func(figure int) string { return s.Figures[figure].Name + " as " + s.Figures[figure].As }
	for i, e := range c {
		if slices.Contains(pages, i) {
			page++
			text += fmt.Sprintf("page %d\n", page)
		}
		switch headingOf(s, c, pages, i) {
		case 2:
			text += fmt.Sprintf("room %d\n", s.Figures[e.A].Room)
		case 1:
			text += fmt.Sprintf("room %d continued\n", s.Figures[e.A].Room)
		}
		switch e.Says {
		case api.BiIs:
			text += fmt.Sprintf("%d is %s\n", i+1, as(e.A))
		case api.BiEither:
			text += fmt.Sprintf("%d is %s or %s\n", i+1, as(e.A), as(e.B))
		case api.BiMay:
			text += fmt.Sprintf("%d may be %s\n", i+1, as(e.A))
		}
	}
	return text
}

// leaving returns the show if these of its truths alone are left.
func leaving(s api.BiShow, left int) api.BiShow {
	rest := clone(s)
	rest.Truths = nil
	for i, truth := range s.Truths {
		if arrivesIn(left, i) {
			rest.Truths = append(rest.Truths, truth)
		}
	}
	return rest
}

func slipOf(s api.BiShow, c []api.BiEntry, left int) (strike, surely []int) {
	rest := leaving(s, left)
	for i, e := range c {
		if e.Says == api.BiMay && inHowMany(rest, e.A) == 0 {
			strike = append(strike, i)
		}
	}
	for figure := range s.Figures {
		if surelyArrives(rest, figure) && !slices.Contains(c, is(figure)) {
			surely = append(surely, figure)
		}
	}
	return strike, surely
}

// mixedTruths are truths; often they have all figures but one or two, so that figures stand for each other.
func mixedTruths(r *rand.Rand, figures int) []int {
	var truths []int
	likely := 4 + r.Intn(6)
	few := figures > 0 && r.Intn(2) == 0
	for range 1 + r.Intn(api.MaxBiTruths) {
		truth := 0
		for figure := range figures {
			if few || r.Intn(10) < likely {
				truth += 1 << figure
			}
		}
		if few {
			truth &^= 1<<r.Intn(figures) | 1<<r.Intn(figures)
		}
		if !slices.Contains(truths, truth) {
			truths = append(truths, truth)
		}
	}
	return truths
}

// showOf is a show of so many figures, in one room or several ones.
func showOf(r *rand.Rand, figures int) api.BiShow {
	s := api.BiShow{Lines: api.MinBiLines + r.Intn(api.MaxBiLines-api.MinBiLines+1)}
	if r.Intn(2) == 0 {
		s.Lines = api.MinBiLines + r.Intn(3)
	}
	names, persons := []string{"a", "is", "or", "as", "page", "room", "may", "be", "continued", "b.9"}, []string{"x", "as", "or", "is"}
	change, room := 1+r.Intn(9), r.Intn(4)
	for i, at := range r.Perm(len(names))[:figures] {
		if i > 0 && r.Intn(change) == 0 {
			room++
		}
		s.Figures = append(s.Figures, aFigure(names[at], persons[r.Intn(len(persons))], room, 1+r.Intn(api.MaxBiHeight)))
	}
	s.Truths = mixedTruths(r, figures)
	return s
}

func randomShow(r *rand.Rand) api.BiShow { return showOf(r, r.Intn(5)) }

// largeShow is a show of as many figures as there can be.
func largeShow(r *rand.Rand) api.BiShow { return showOf(r, api.MaxBiFigures) }

// mixedShow is one of these shows.
func mixedShow(r *rand.Rand) api.BiShow { return showOf(r, r.Intn(api.MaxBiFigures+1)) }

// oddEntry is an entry of any numbers, most of them close to those of the show.
func oddEntry(r *rand.Rand, s api.BiShow) api.BiEntry {
	return api.BiEntry{Says: r.Intn(4), A: r.Intn(len(s.Figures)+2) - 1, B: r.Intn(len(s.Figures)+2) - 1}
}

// altered is a catalogue of which something is other than it was.
func altered(r *rand.Rand, s api.BiShow, c []api.BiEntry) []api.BiEntry {
	c = slices.Clone(c)
	at := r.Intn(len(c) + 1)
	if at == len(c) || r.Intn(3) == 0 {
		return slices.Insert(c, at, oddEntry(r, s))
	}
	switch r.Intn(4) {
	case 0:
		c[at] = oddEntry(r, s)
	case 1:
		c[at].Says = r.Intn(4)
	case 2:
		c[at].B = r.Intn(len(s.Figures)+2) - 1
	default:
		return slices.Delete(c, at, at+1)
	}
	return c
}

func TestP7_2AgainstTheDefinition(t *testing.T) {
	r := rand.New(rand.NewSource(702))
	sures, trues, wrongs := 0, 0, 0
	for range 300 {
		s := mixedShow(r)
		for set := range 1 << len(s.Figures) {
			var figures []int
			for figure := range s.Figures {
				if arrivesIn(set, figure) {
					figures = append(figures, figure)
				}
			}
			want := inHowMany(s, figures...) == len(s.Truths)
			if sure, e := bill.Surely(s, set); sure != want || e != api.OK {
				t.Fatalf("%v: Surely of %v = %t, %d", s, figures, sure, e)
			}
			if want {
				sures++
			}
		}
	}
	for range 600 {
		s := randomShow(r)
		for c := range listsOf(s) {
			for _, d := range [][]api.BiEntry{c, altered(r, s, c)} {
				want := isTrueOf(s, d)
				if got, e := bill.True(s, d); got != want || e != api.OK {
					t.Fatalf("%v: True of %v = %t, %d", s, d, got, e)
				}
				if want {
					trues++
				} else {
					wrongs++
				}
			}
		}
	}
	if sures < 1000 || trues < 300 || wrongs < 10000 {
		t.Errorf("only %d surely arrive, %d are true, %d are not", sures, trues, wrongs)
	}
}

func TestP7_3AgainstTheDefinition(t *testing.T) {
	r := rand.New(rand.NewSource(703))
	met, eithers := map[int]int{}, 0
	for i := range 400 {
		s := randomShow(r)
		if i%100 == 0 {
			s = largeShow(r)
		}
		trues := truesOf(s)
		want := trues[0]
		best, many, e := bill.Best(s)
		if !slices.Equal(best, want) || many != maysOf(want) || e != api.OK {
			t.Fatalf("%v: Best = %v, %d, %d, not %v", s, best, many, e, want)
		}
		met[min(many, 3)]++
		if len(trues) > 1 {
			eithers++
		}
	}
	if met[0] < 50 || met[1] < 50 || met[2] < 50 || met[3] < 20 || eithers < 50 {
		t.Errorf("too few: %v, and %d could be said otherwise", met, eithers)
	}
}

// anyCatalogue is some catalogue of a show that is true: a figure is with a later one that can stand for it, or, sometimes, by itself.
func anyCatalogue(r *rand.Rand, s api.BiShow) []api.BiEntry {
	var c []api.BiEntry
	for figure := range s.Figures {
		switch {
		case slices.Contains(named(c...), figure):
			continue
		case surelyArrives(s, figure):
			c = append(c, is(figure))
			continue
		case !mayArrive(s, figure):
			continue
		}
		e := may(figure)
		for b := figure + 1; b < len(s.Figures); b++ {
			if standForEachOther(s, figure, b) && !slices.Contains(named(c...), b) && r.Intn(3) > 0 {
				e = either(figure, b)
				break
			}
		}
		c = append(c, e)
	}
	return c
}

// fullShow is a show of which all figures arrive in some truth, most of them surely.
func fullShow(r *rand.Rand) api.BiShow {
	s := showOf(r, 3+r.Intn(4))
	if r.Intn(2) == 0 {
		s.Lines = api.MinBiLines
	}
	all := 1<<len(s.Figures) - 1
	s.Truths = []int{all}
	if r.Intn(2) == 0 {
		s.Truths = append(s.Truths, all-1<<r.Intn(len(s.Figures)))
	}
	if r.Intn(4) == 0 {
		s.Truths = nil
		for figure := range s.Figures {
			s.Truths = append(s.Truths, all-1<<figure)
		}
	}
	return s
}

func TestP7_4AgainstTheDefinition(t *testing.T) {
	r := rand.New(rand.NewSource(704))
	met, ties := map[int]int{}, 0
	for range 3000 {
		s := fullShow(r)
		c := anyCatalogue(r, s)
		for _, pages := range pagesOf(c) {
			want, e := whiteOf(s, c, pages), api.OK
			if !fitsOf(s, c, pages) {
				want, e = 0, api.ErrRange
			}
			if white, f := bill.Fits(s, c, pages); white != want || f != e {
				t.Fatalf("%v: Fits of %v, %v = %d, %d, not %d, %d", s, c, pages, white, f, want, e)
			}
		}
		fitting := fittingOf(s, c)
		best := fitting[0]
		if pages, white, e := bill.Set(s, c); !slices.Equal(pages, best) || white != whiteOf(s, c, best) || e != api.OK {
			t.Fatalf("%v: Set of %v = %v, %d, %d, not %v", s, c, pages, white, e, best)
		}
		least := slices.MinFunc(fitting, func(p, q []int) int { return cmp.Compare(len(p), len(q)) })
		if fewest, e := bill.Fewest(s, c); fewest != len(least) || e != api.OK {
			t.Fatalf("%v: Fewest of %v = %d, %d, not %d", s, c, fewest, e, len(least))
		}
		met[len(least)]++
		if len(fitting) > 1 && whiteOf(s, c, fitting[1]) == whiteOf(s, c, best) {
			ties++
		}
	}
	if met[1] < 300 || met[2] < 300 || met[3] < 300 || ties < 10 {
		t.Errorf("too few: %v, and %d ties", met, ties)
	}
}

func TestP7_4NoPages(t *testing.T) {
	r := rand.New(rand.NewSource(7041))
	for range 2000 {
		s := mixedShow(r)
		c := anyCatalogue(r, s)
		var pages []int
		for range r.Intn(4) {
			pages = append(pages, r.Intn(len(c)+3)-1)
		}
		isSame := func(other []int) bool { return slices.Equal(other, pages) }
		if _, e := bill.Fits(s, c, pages); (e == api.ErrArg) == slices.ContainsFunc(pagesOf(c), isSame) {
			t.Fatalf("%v: Fits of %v, %v: %d", s, c, pages, e)
		}
	}
}

func TestP7_5WriteAgainstTheDefinition(t *testing.T) {
	r := rand.New(rand.NewSource(705))
	for range 2000 {
		s := mixedShow(r)
		c := anyCatalogue(r, s)
		if text, e := bill.Write(s, c); text != textOf(s, c) || e != api.OK {
			t.Fatalf("%v: Write of %v = %q, %d, not %q", s, c, text, e, textOf(s, c))
		}
	}
}

// spoilt is a text of which a byte, a word or a line is other than it was, or gone, or there twice.
func spoilt(r *rand.Rand, text string) string {
	separator := []string{"", " ", "\n"}[r.Intn(3)]
	parts := strings.Split(text, separator)
	if len(parts) == 0 {
		return text
	}
	at, other := r.Intn(len(parts)), r.Intn(len(parts))
	switch r.Intn(4) {
	case 0:
		parts = slices.Delete(parts, at, at+1)
	case 1:
		parts = slices.Insert(parts, at, parts[other])
	case 2:
		parts[at], parts[other] = parts[other], parts[at]
	default:
		parts[at] = []string{"or", "is", "may", "1", "2", "0", "page", "room", "continued", "as", "a", "x", "", "\n"}[r.Intn(14)]
	}
	return strings.Join(parts, separator)
}

func TestP7_5ReadAgainstTheDefinition(t *testing.T) {
	r := rand.New(rand.NewSource(7051))
	read, forms := 0, 0
	for range 200 {
		s := randomShow(r)
		meant := map[string][]api.BiEntry{}
		for _, c := range truesOf(s) {
			meant[textOf(s, c)] = c
		}
		for range 200 {
			text := textOf(s, anyCatalogue(r, s))
			for range r.Intn(3) {
				text = spoilt(r, text)
			}
			want, isText := meant[text]
			c, e := bill.Read(s, text)
			if !slices.Equal(c, want) || (e == api.OK) != isText || !isText && e != api.ErrForm {
				t.Fatalf("%v: Read(%q) = %v, %d", s, text, c, e)
			}
			if isText {
				read++
			} else {
				forms++
			}
		}
	}
	if read < 5000 || forms < 10000 {
		t.Errorf("only %d were read, and %d not", read, forms)
	}
}

func TestP7_6AgainstTheDefinition(t *testing.T) {
	r := rand.New(rand.NewSource(706))
	struck, sures := 0, 0
	for range 1000 {
		s := mixedShow(r)
		c := anyCatalogue(r, s)
		for left := 1; left < 1<<len(s.Truths); left++ {
			strike, surely := slipOf(s, c, left)
			gotStrike, gotSurely, e := bill.Slip(s, c, left)
			if !slices.Equal(gotStrike, strike) || !slices.Equal(gotSurely, surely) || e != api.OK {
				t.Fatalf("%v: Slip of %v, %d = %v, %v, %d, not %v, %v", s, c, left, gotStrike, gotSurely, e, strike, surely)
			}
			struck += len(strike)
			sures += len(surely)
		}
	}
	if struck < 1000 || sures < 1000 {
		t.Errorf("only %d are struck out, and %d surely arrive", struck, sures)
	}
}

func TestP7_7True(t *testing.T) {
	r := rand.New(rand.NewSource(707))
	var met [3]int
	for range 2000 {
		s := mixedShow(r)
		c, _, e := bill.Best(s)
		if isTrue, _ := bill.True(s, c); !isTrue || e != api.OK {
			t.Fatalf("%v: Best = %v, %d, which is not true", s, c, e)
		}
		for _, entry := range c {
			met[entry.Says]++
		}
		for _, truth := range s.Truths {
			for _, entry := range c {
				arrives := slices.ContainsFunc(named(entry), func(figure int) bool { return arrivesIn(truth, figure) })
				if entry.Says != api.BiMay && !arrives {
					t.Fatalf("%v: Best = %v, but in %d nobody of %v arrives", s, c, truth, entry)
				}
			}
			for figure := range s.Figures {
				if arrivesIn(truth, figure) && !slices.Contains(named(c...), figure) {
					t.Fatalf("%v: Best = %v, but in %d %d arrives", s, c, truth, figure)
				}
				if !arrivesIn(truth, figure) && slices.Contains(c, is(figure)) {
					t.Fatalf("%v: Best = %v, but in %d %d does not arrive", s, c, truth, figure)
				}
			}
		}
	}
	if slices.Min(met[:]) < 300 {
		t.Errorf("too few of some entries: %v", met)
	}
}

// TestP7_8TheFewest asks True of all lists of entries.
func TestP7_8TheFewest(t *testing.T) {
	r := rand.New(rand.NewSource(708))
	others := 0
	for range 1000 {
		s := randomShow(r)
		best, mays, e := bill.Best(s)
		if e != api.OK || mays != maysOf(best) {
			t.Fatalf("%v: Best = %v, %d, %d", s, best, mays, e)
		}
		for c := range listsOf(s) {
			order := cmp.Or(cmp.Compare(maysOf(c), mays), compareCatalogues(c, best))
			isTrue, _ := bill.True(s, c)
			if isTrue && order < 0 || !isTrue && order == 0 {
				t.Fatalf("%v: Best = %v, %d, but True of %v = %t", s, best, mays, c, isTrue)
			}
			if isTrue && order > 0 {
				others++
			}
		}
	}
	if others < 100 {
		t.Errorf("only %d other catalogues are true", others)
	}
}

// TestP7_9Pages asks Fits of all pages.
func TestP7_9Pages(t *testing.T) {
	r := rand.New(rand.NewSource(709))
	fewer := 0
	for range 1500 {
		s := fullShow(r)
		c := anyCatalogue(r, s)
		set, least, e := bill.Set(s, c)
		white, f := bill.Fits(s, c, set)
		if e != api.OK || f != api.OK || white != least || len(set) > len(c) || set[0] != 0 {
			t.Fatalf("%v: Set of %v = %v, %d, %d, but Fits = %d, %d", s, c, set, least, e, white, f)
		}
		for _, pages := range pagesOf(c) {
			white, e := bill.Fits(s, c, pages)
			if e == api.OK && cmp.Or(cmp.Compare(white, least), cmp.Compare(len(pages), len(set)), slices.Compare(pages, set)) < 0 {
				t.Fatalf("%v: Set of %v = %v, %d, but Fits of %v = %d", s, c, set, least, pages, white)
			}
		}
		if s.Lines == api.MaxBiLines {
			continue
		}
		fewest, _ := bill.Fewest(s, c)
		then, e := bill.Fewest(lined(s, s.Lines+1), c)
		if e != api.OK || then > fewest || then < 1 {
			t.Fatalf("%v: %d pages at least, but with a line more %d, %d", s, fewest, then, e)
		}
		if then < fewest {
			fewer++
		}
	}
	if fewer < 50 {
		t.Errorf("only %d need fewer pages with a line more", fewer)
	}
}

func TestP7_10ReadBack(t *testing.T) {
	r := rand.New(rand.NewSource(710))
	longest := 0
	for range 1000 {
		s := mixedShow(r)
		c := anyCatalogue(r, s)
		text, e := bill.Write(s, c)
		if e != api.OK {
			t.Fatalf("%v: Write of %v: %d", s, c, e)
		}
		if read, e := bill.Read(s, text); !slices.Equal(read, c) || e != api.OK {
			t.Fatalf("%v: Read(%q) = %v, %d, not %v", s, text, read, e, c)
		}
		for range 20 {
			checkReadIsWritten(t, s, spoilt(r, text))
		}
		longest = max(longest, len(text))
	}
	if longest < 150 {
		t.Errorf("the longest text has %d bytes", longest)
	}
}

func checkReadIsWritten(t *testing.T, s api.BiShow, text string) {
	t.Helper()
	c, e := bill.Read(s, text)
	if e != api.OK {
		if e != api.ErrForm || len(c) > 0 {
			t.Fatalf("%v: Read(%q) = %v, %d", s, text, c, e)
		}
		return
	}
	if again, e := bill.Write(s, c); again != text || e != api.OK {
		t.Fatalf("%v: Read(%q) is written %q, %d", s, text, again, e)
	}
}

func FuzzRead(f *testing.F) {
	f.Add(exampleText)
	f.Add("page 1\nroom 0\n1 is ada as queen\n")
	f.Fuzz(func(t *testing.T, text string) {
		if len(text) <= api.MaxBiText {
			checkReadIsWritten(t, exampleS(), text)
		}
	})
}

func TestP7_11Slips(t *testing.T) {
	r := rand.New(rand.NewSource(711))
	kept, fewer := 0, 0
	for range 1000 {
		s := mixedShow(r)
		c := anyCatalogue(r, s)
		all := 1<<len(s.Truths) - 1
		if strike, surely, e := bill.Slip(s, c, all); len(strike)+len(surely) > 0 || e != api.OK {
			t.Fatalf("%v: Slip of %v, all = %v, %v, %d", s, c, strike, surely, e)
		}
		for left := 1; left < all; left++ {
			strike, surely, e := bill.Slip(s, c, left)
			if e != api.OK || !slices.IsSorted(strike) || !slices.IsSorted(surely) {
				t.Fatalf("%v: Slip of %v, %d = %v, %v, %d", s, c, left, strike, surely, e)
			}
			for i, entry := range c {
				set := 0
				for _, figure := range named(entry) {
					set += 1 << figure
				}
				if entry.Says == api.BiMay {
					continue
				}
				if sure, _ := bill.Surely(leaving(s, left), set); !sure || slices.Contains(strike, i) {
					t.Fatalf("%v: Slip of %v, %d = %v, but %d is %t", s, c, left, strike, i, sure)
				}
				kept++
			}
			fewer++
		}
	}
	if kept < 5000 || fewer < 2000 {
		t.Errorf("only %d entries stay true, with %d other sets of truths", kept, fewer)
	}
}

func TestP7_12Surely(t *testing.T) {
	r := rand.New(rand.NewSource(712))
	sures := 0
	for range 500 {
		s := mixedShow(r)
		for set := range 1 << len(s.Figures) {
			sure, e := bill.Surely(s, set)
			if e != api.OK {
				t.Fatalf("%v: Surely of %d: %d", s, set, e)
			}
			if !sure {
				continue
			}
			sures++
			for figure := range s.Figures {
				if more, _ := bill.Surely(s, set|1<<figure); !more {
					t.Fatalf("%v: Surely of %d, but not with %d", s, set, figure)
				}
			}
			for i := range s.Truths {
				if left := leaving(s, 1<<len(s.Truths)-1-1<<i); len(left.Truths) > 0 {
					if less, _ := bill.Surely(left, set); !less {
						t.Fatalf("%v: Surely of %d, but not without the truth %d", s, set, i)
					}
				}
			}
		}
		for figure := range s.Figures {
			inAll := !slices.ContainsFunc(s.Truths, func(truth int) bool { return !arrivesIn(truth, figure) })
			if sure, _ := bill.Surely(s, 1<<figure); sure != inAll {
				t.Fatalf("%v: Surely of %d alone = %t", s, figure, sure)
			}
		}
	}
	if sures < 2000 {
		t.Errorf("only %d surely arrive", sures)
	}
}

func TestP7_13AnotherOrder(t *testing.T) {
	r := rand.New(rand.NewSource(713))
	for range 500 {
		s := mixedShow(r)
		c := anyCatalogue(r, s)
		pages, _, _ := bill.Set(s, c)
		left := 1 + r.Intn(1<<len(s.Truths)-1)
		other, otherLeft := clone(s), 0
		for i, at := range r.Perm(len(s.Truths)) {
			other.Truths[at] = s.Truths[i]
			if arrivesIn(left, i) {
				otherLeft += 1 << at
			}
		}
		text := textOf(s, c)
		for set := range 1 << len(s.Figures) {
			a, b := callAll(s, c, pages, set, left, text), callAll(other, c, pages, set, otherLeft, text)
			if a != b {
				t.Fatalf("%v, %d: %s, and in the order %v, %d: %s", s, left, a, other.Truths, otherLeft, b)
			}
		}
	}
}

func TestP7_13OnePage(t *testing.T) {
	r := rand.New(rand.NewSource(7131))
	var met [2]int
	for range 1000 {
		s := changed(mixedShow(r), func(s *api.BiShow) {
			s.Lines = api.MaxBiLines
			for i := range s.Figures {
				s.Figures[i].Height = 1
			}
		})
		c := anyCatalogue(r, s)
		want := min(1, len(c))
		pages, white, e := bill.Set(s, c)
		fewest, f := bill.Fewest(s, c)
		if len(pages) != want || white != 0 || fewest != want || e != api.OK || f != api.OK {
			t.Fatalf("%v: Set of %v = %v, %d, %d; Fewest = %d, %d", s, c, pages, white, e, fewest, f)
		}
		met[want]++
	}
	if slices.Min(met[:]) < 50 {
		t.Errorf("too few: %v", met)
	}
}

func TestP7_14NotModified(t *testing.T) {
	r := rand.New(rand.NewSource(714))
	for range 500 {
		s := mixedShow(r)
		c := anyCatalogue(r, s)
		pages, _, _ := bill.Set(s, c)
		before := fmt.Sprint(s, c, pages)
		callAll(s, c, pages, 1, 1, textOf(s, c))
		if fmt.Sprint(s, c, pages) != before {
			t.Fatalf("%s was modified: %v, %v, %v", before, s, c, pages)
		}
	}
}

func BenchmarkBest(b *testing.B) {
	s := oneRoom(6, 62, 61, 59, 55, 47, 31)
	for b.Loop() {
		bill.Best(s)
	}
}

func BenchmarkRead(b *testing.B) {
	s := oneRoom(6, 62, 61, 59, 55, 47, 31)
	text := strings.Repeat("1 is a as x or f as x\n", 36)
	for b.Loop() {
		bill.Read(s, text)
	}
}
