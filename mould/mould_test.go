package mould_test

import (
	"fmt"
	"math"
	"slices"
	"strings"
	"testing"

	"ceroplast/api"
	"ceroplast/mould"
)

// Indices of the moulds and heads of the chapter's examples.
const (
	assassin = 0
	queen    = 1
	brutus   = 0
	cassius  = 1
	regina   = 2
	late     = 3
)

const exampleText = "features 3\nmould assassin 3 1 2 2 4 5 6\nmould queen 2 1 1 2 2 0 1\nhead brutus ++?\nhead cassius -++\nhead regina --?\n"

func span(lo, hi int) api.Span { return api.Span{Lo: lo, Hi: hi} }

func cast(mould, number int) api.MoCast { return api.MoCast{Mould: mould, Number: number} }

func entry(head, feature int) api.MoEntry { return api.MoEntry{Head: head, Feature: feature} }

func newMould(name string, casts int, lasts ...api.Span) api.MoMould {
	return api.MoMould{Name: name, Casts: casts, Lasts: lasts}
}

func newHead(name, shows string) api.MoHead {
	h := api.MoHead{Name: name}
	for _, mark := range shows {
		h.Shows = append(h.Shows, strings.IndexRune("?+-", mark))
	}
	return h
}

// example is S of the chapter's examples, with more heads.
func example(more ...api.MoHead) api.MoShop {
	return api.MoShop{
		Features: 3,
		Moulds: []api.MoMould{
			newMould("assassin", 3, span(1, 2), span(2, 4), span(5, 6)),
			newMould("queen", 2, span(1, 1), span(2, 2), span(0, 1)),
		},
		Heads: append([]api.MoHead{newHead("brutus", "++?"), newHead("cassius", "-++"), newHead("regina", "--?")}, more...),
	}
}

// exampleX is X of the chapter's examples: it contradicts itself.
func exampleX() api.MoShop { return example(newHead("late", "---")) }

// shop is a shop of moulds, and of heads a, b, c .. that show this.
func shop(features int, moulds []api.MoMould, shows ...string) api.MoShop {
	s := api.MoShop{Features: features, Moulds: moulds}
	for i, show := range shows {
		s.Heads = append(s.Heads, newHead(string(rune('a'+i)), show))
	}
	return s
}

func one(casts int, last api.Span) []api.MoMould { return []api.MoMould{newMould("m", casts, last)} }

func two(casts int, last api.Span, otherCasts int, otherLast api.Span) []api.MoMould {
	return append(one(casts, last), newMould("n", otherCasts, otherLast))
}

// equal reports whether two shops are the same value; nil and empty slices are.
func equal(a, b api.MoShop) bool { return canonical(a) == canonical(b) }

func canonical(s api.MoShop) string {
	text := fmt.Sprint(s.Features)
	for _, m := range s.Moulds {
		text += fmt.Sprintf("|%q %d %v", m.Name, m.Casts, m.Lasts)
	}
	text += "#"
	for _, h := range s.Heads {
		text += fmt.Sprintf("|%q %v", h.Name, h.Shows)
	}
	return text
}

func TestP1_1Name(t *testing.T) {
	for _, s := range []string{"a", "z", "az", "a0", "a9", "a.", "a..", "b.9z", "abcdefghijklmnop"} {
		if !mould.Name(s) {
			t.Errorf("Name(%q) = false", s)
		}
	}
	for _, s := range []string{"", ".", "0", "9a", ".a", "A", "aB", "a b", " a", "a ", "a-", "a_", "a/", "a:", "a`", "a{", "a\n", "a\x00", "é", "aé", "a\xff", "abcdefghijklmnopq", strings.Repeat("a", 10000)} {
		if mould.Name(s) {
			t.Errorf("Name(%q) = true", s)
		}
	}
}

// change is a shop that something was done to, and what Check says of it.
type change struct {
	name     string
	do       func(s *api.MoShop)
	part, at int
	e        api.Errno
}

func (c change) shop() api.MoShop {
	s := example()
	c.do(&s)
	return s
}

func badShops() []change {
	return []change{
		{"no features", func(s *api.MoShop) { s.Features = 0 }, 1, 0, api.ErrRange},
		{"5 features", func(s *api.MoShop) { s.Features = 5 }, 1, 0, api.ErrRange},
		{"features far below", func(s *api.MoShop) { s.Features = math.MinInt }, 1, 0, api.ErrRange},
		{"features far above", func(s *api.MoShop) { s.Features = math.MaxInt }, 1, 0, api.ErrRange},
		{"features before moulds", func(s *api.MoShop) { s.Features, s.Moulds = 0, make([]api.MoMould, 3) }, 1, 0, api.ErrRange},
		{"3 moulds", func(s *api.MoShop) {
			s.Moulds = append(s.Moulds, newMould("third", 1, span(0, 0), span(0, 0), span(0, 0)))
		}, 2, 0, api.ErrLong},
		{"too many moulds before a wrong one", func(s *api.MoShop) { s.Moulds = make([]api.MoMould, 3) }, 2, 0, api.ErrLong},
		{"too many moulds before too many heads", func(s *api.MoShop) { s.Moulds, s.Heads = make([]api.MoMould, 3), make([]api.MoHead, 5) }, 2, 0, api.ErrLong},
		{"name of a mould", func(s *api.MoShop) { s.Moulds[1].Name = "Queen" }, 2, 1, api.ErrForm},
		{"name of a mould before all else of it", func(s *api.MoShop) { s.Moulds[0] = api.MoMould{} }, 2, 0, api.ErrForm},
		{"the first mould decides", func(s *api.MoShop) { s.Moulds[0].Casts, s.Moulds[1].Name = 0, "" }, 2, 0, api.ErrRange},
		{"two moulds of one name", func(s *api.MoShop) { s.Moulds[1].Name = "assassin" }, 2, 1, api.ErrTwice},
		{"two moulds of one name before casts", func(s *api.MoShop) { s.Moulds[1] = newMould("assassin", 0) }, 2, 1, api.ErrTwice},
		{"no casts", func(s *api.MoShop) { s.Moulds[0].Casts = 0 }, 2, 0, api.ErrRange},
		{"5 casts", func(s *api.MoShop) { s.Moulds[1].Casts = 5 }, 2, 1, api.ErrRange},
		{"casts before lasts", func(s *api.MoShop) { s.Moulds[1] = newMould("queen", math.MinInt) }, 2, 1, api.ErrRange},
		{"too few lasts", func(s *api.MoShop) { s.Moulds[0].Lasts = s.Moulds[0].Lasts[:2] }, 2, 0, api.ErrLong},
		{"too many lasts", func(s *api.MoShop) { s.Moulds[1].Lasts = append(s.Moulds[1].Lasts, span(0, 0)) }, 2, 1, api.ErrLong},
		{"as many lasts before their ends", func(s *api.MoShop) { s.Moulds[1].Lasts = []api.Span{span(-1, 7)} }, 2, 1, api.ErrLong},
		{"last below", func(s *api.MoShop) { s.Moulds[1].Lasts[2] = span(-1, 1) }, 2, 1, api.ErrRange},
		{"last above", func(s *api.MoShop) { s.Moulds[1].Lasts[0] = span(1, 7) }, 2, 1, api.ErrRange},
		{"lo above hi", func(s *api.MoShop) { s.Moulds[0].Lasts[1] = span(4, 3) }, 2, 0, api.ErrArg},
		{"range before lo above hi", func(s *api.MoShop) { s.Moulds[0].Lasts[1] = span(7, 3) }, 2, 0, api.ErrRange},
		{"range before lo above hi, both below", func(s *api.MoShop) { s.Moulds[0].Lasts[1] = span(3, -1) }, 2, 0, api.ErrRange},
		{"the first last decides", func(s *api.MoShop) { s.Moulds[0].Lasts[0], s.Moulds[0].Lasts[1] = span(2, 1), span(0, 7) }, 2, 0, api.ErrArg},
		{"a mould before heads", func(s *api.MoShop) { s.Moulds[1].Lasts[2], s.Heads = span(1, 0), make([]api.MoHead, 5) }, 2, 1, api.ErrArg},
		{"5 heads", func(s *api.MoShop) { s.Heads = append(s.Heads, newHead("d", "???"), newHead("e", "???")) }, 3, 0, api.ErrLong},
		{"too many heads before a wrong one", func(s *api.MoShop) { s.Heads = make([]api.MoHead, 5) }, 3, 0, api.ErrLong},
		{"name of a head", func(s *api.MoShop) { s.Heads[2].Name = "abcdefghijklmnopq" }, 3, 2, api.ErrForm},
		{"name of a head before all else of it", func(s *api.MoShop) { s.Heads[0] = api.MoHead{Shows: []int{9}} }, 3, 0, api.ErrForm},
		{"two heads of one name", func(s *api.MoShop) { s.Heads[2].Name = "brutus" }, 3, 2, api.ErrTwice},
		{"two heads of one name before shows", func(s *api.MoShop) { s.Heads[1] = newHead("brutus", "+") }, 3, 1, api.ErrTwice},
		{"too few shows", func(s *api.MoShop) { s.Heads[1].Shows = s.Heads[1].Shows[:2] }, 3, 1, api.ErrLong},
		{"no shows", func(s *api.MoShop) { s.Heads[1].Shows = nil }, 3, 1, api.ErrLong},
		{"too many shows", func(s *api.MoShop) { s.Heads[0].Shows = append(s.Heads[0].Shows, 0) }, 3, 0, api.ErrLong},
		{"as many shows before their kinds", func(s *api.MoShop) { s.Heads[0].Shows = []int{3} }, 3, 0, api.ErrLong},
		{"shows below", func(s *api.MoShop) { s.Heads[0].Shows[2] = -1 }, 3, 0, api.ErrRange},
		{"shows above", func(s *api.MoShop) { s.Heads[2].Shows[0] = 3 }, 3, 2, api.ErrRange},
		{"shows far above", func(s *api.MoShop) { s.Heads[2].Shows[0] = math.MaxInt }, 3, 2, api.ErrRange},
		{"the first head decides", func(s *api.MoShop) { s.Heads[0].Shows[2], s.Heads[1].Name = 3, "" }, 3, 0, api.ErrRange},
	}
}

func TestP1_1Check(t *testing.T) {
	for _, c := range badShops() {
		if part, at, e := mould.Check(c.shop()); part != c.part || at != c.at || e != c.e {
			t.Errorf("%s: Check = %d, %d, %d, not %d, %d, %d", c.name, part, at, e, c.part, c.at, c.e)
		}
	}
	good := []change{
		{name: "the example", do: func(s *api.MoShop) {}},
		{name: "a contradiction", do: func(s *api.MoShop) { *s = exampleX() }},
		{name: "nothing but features", do: func(s *api.MoShop) { *s = api.MoShop{Features: 1} }},
		{name: "4 features", do: func(s *api.MoShop) { *s = api.MoShop{Features: 4} }},
		{name: "heads without moulds", do: func(s *api.MoShop) { s.Moulds = nil }},
		{name: "a head with the name of a mould", do: func(s *api.MoShop) { s.Heads[0].Name = "queen" }},
		{name: "the ends of all ranges", do: func(s *api.MoShop) {
			*s = shop(1, two(1, span(0, 6), 4, span(6, 6)), "?", "+", "-", "?")
		}},
	}
	for _, c := range good {
		if part, at, e := mould.Check(c.shop()); part != 0 || at != 0 || e != api.OK {
			t.Errorf("%s: Check = %d, %d, %d", c.name, part, at, e)
		}
	}
}

func TestErrorOfTheShopComesFirst(t *testing.T) {
	for _, c := range badShops() {
		s := c.shop()
		text, e1 := mould.Write(s)
		fits, e2 := mould.Fits(s, -1, cast(-1, 0))
		first, many, e3 := mould.First(s)
		may, e4 := mould.May(s, -1)
		same, e5 := mould.Same(s, -1, -1)
		order, e6 := mould.Order(s, 1, 1)
		lasts, e7 := mould.Lasts(s, -1, 9)
		sure, perhaps, e8 := mould.Next(s, -1)
		wrong, e9 := mould.Wrong(s)
		for i, e := range []api.Errno{e1, e2, e3, e4, e5, e6, e7, e8, e9} {
			if e != c.e {
				t.Errorf("%s: function %d returns %d, not %d", c.name, i, e, c.e)
			}
		}
		if text != "" || fits || len(first) > 0 || many != 0 || len(may) > 0 || same != 0 || order != 0 || lasts != span(0, 0) || len(sure) > 0 || len(perhaps) > 0 || len(wrong) > 0 {
			t.Errorf("%s: a result is not zero", c.name)
		}
	}
}

func TestP1_2Texts(t *testing.T) {
	longest := shop(4, []api.MoMould{
		newMould("abcdefghijklmnop", 4, span(0, 6), span(1, 5), span(2, 4), span(3, 3)),
		newMould("q..............9", 1, span(0, 0), span(6, 6), span(0, 1), span(5, 6)),
	}, "????", "++++", "----", "?+-?")
	texts := map[string]api.MoShop{
		exampleText:    example(),
		"features 1\n": {Features: 1},
		"features 4\n": {Features: 4},
		"features 1\nhead mould ?\nhead head -\nhead features +\n":    {Features: 1, Heads: []api.MoHead{newHead("mould", "?"), newHead("head", "-"), newHead("features", "+")}},
		"features 1\nmould head 1 0 6\nmould mould 4 6 6\nhead a +\n": {Features: 1, Moulds: []api.MoMould{newMould("head", 1, span(0, 6)), newMould("mould", 4, span(6, 6))}, Heads: []api.MoHead{newHead("a", "+")}},
		"features 4\nmould abcdefghijklmnop 4 0 6 1 5 2 4 3 3\nmould q..............9 1 0 0 6 6 0 1 5 6\nhead a ????\nhead b ++++\nhead c ----\nhead d ?+-?\n": longest,
	}
	for text, s := range texts {
		if got, e := mould.Write(s); got != text || e != api.OK {
			t.Errorf("Write = %q, %d, not %q", got, e, text)
		}
		if got, e := mould.Read(text); !equal(got, s) || e != api.OK {
			t.Errorf("Read(%q) = %v, %d", text, got, e)
		}
	}
}

func TestP1_2NotTheTextOfAShop(t *testing.T) {
	bad := []string{
		// lines and spaces
		"", "\n", " ", "features 1", "features 1\n\n", "\nfeatures 1\n", "features 1\r\n", "features 1 \n", " features 1\n", "features  1\n", "features\t1\n", "features 1\x00\n",
		// the first line
		"features\n", "features \n", "features 1 1\n", "feature 1\n", "Features 1\n", "head a +\n", "mould m 1 0 0\n", "features 1\nfeatures 1\n", "head a +\nfeatures 1\n",
		// numbers
		"features 0\n", "features 5\n", "features 01\n", "features +1\n", "features -1\n", "features 1.\n", "features 1_0\n", "features 0x1\n", "features one\n", "features 18446744073709551617\n", "features ١\n",
		// moulds
		"features 1\nmould\n", "features 1\nmould m\n", "features 1\nmould m 1\n", "features 1\nmould m 1 0\n", "features 1\nmould m 1 0 0 0\n", "features 1\nmould m 1 0 0 0 0\n",
		"features 1\nmould m 0 0 0\n", "features 1\nmould m 5 0 0\n", "features 1\nmould m 01 0 0\n", "features 1\nmould m 1 -0 0\n", "features 1\nmould m 1 00 0\n", "features 1\nmould m 1 0 7\n", "features 1\nmould m 1 1 0\n",
		"features 1\nmould M 1 0 0\n", "features 1\nmould  1 0 0\n", "features 1\nmould m 1 0 0\nmould m 1 0 0\n", "features 1\nmould m 1  0 0\n", "features 1\nmould m 1 0 0 \n",
		"features 1\nmould a 1 0 0\nmould b 1 0 0\nmould c 1 0 0\n",
		// heads
		"features 1\nhead\n", "features 1\nhead a\n", "features 1\nhead a \n", "features 1\nhead  +\n", "features 1\nhead a ++\n", "features 2\nhead a + +\n", "features 1\nhead a + \n", "features 1\nhead a *\n", "features 1\nhead a 1\n", "features 1\nhead a \xff\n", "features 1\nhead a \u2212\n",
		"features 1\nhead A +\n", "features 1\nhead a +\nhead a -\n", "features 1\nhead a +\nhead b +\nhead c +\nhead d +\nhead e +\n", "features 1\nhead a +", "features 1\nhead a +\n\nhead b +\n",
		// their order
		"features 1\nhead a +\nmould m 1 0 0\n", "features 1\nfigure a +\n",
		// as many bytes as there can be
		strings.Repeat("\n", api.MaxMoText), strings.Repeat("a", api.MaxMoText),
	}
	for _, text := range bad {
		if s, e := mould.Read(text); e != api.ErrForm || !equal(s, api.MoShop{}) {
			t.Errorf("Read(%q) = %v, %d", text, s, e)
		}
	}
	for _, text := range []string{strings.Repeat("a", api.MaxMoText+1), "features 1\n" + strings.Repeat("\n", api.MaxMoText), exampleText + strings.Repeat(" ", 1000)} {
		if s, e := mould.Read(text); e != api.ErrLong || !equal(s, api.MoShop{}) {
			t.Errorf("Read(%q) = %v, %d", text, s, e)
		}
	}
}

func TestP1_3Fits(t *testing.T) {
	for i, c := range []struct {
		s    api.MoShop
		head int
		cast api.MoCast
		want bool
		e    api.Errno
	}{
		{example(), brutus, cast(assassin, 1), true, api.OK},
		{example(), brutus, cast(assassin, 2), true, api.OK},
		{example(), brutus, cast(assassin, 3), false, api.OK},
		{example(), brutus, cast(queen, 1), true, api.OK},
		{example(), brutus, cast(queen, 2), false, api.OK},
		{example(), cassius, cast(queen, 2), false, api.OK},
		{example(), cassius, cast(assassin, 1), false, api.OK},
		{example(), regina, cast(assassin, 3), true, api.OK},
		// the contradiction of the others is no matter
		{exampleX(), late, cast(queen, 2), false, api.OK},
		{exampleX(), brutus, cast(assassin, 1), true, api.OK},
		{shop(1, one(1, span(0, 0)), "?", "?"), 1, cast(0, 1), true, api.OK},
		// both ends of the lasts
		{shop(1, one(4, span(0, 2)), "+"), 0, cast(0, 2), true, api.OK},
		{shop(1, one(4, span(0, 2)), "+"), 0, cast(0, 3), false, api.OK},
		{shop(1, one(4, span(2, 6)), "-"), 0, cast(0, 2), false, api.OK},
		{shop(1, one(4, span(2, 6)), "-"), 0, cast(0, 3), true, api.OK},
		{shop(1, one(4, span(2, 2)), "?"), 0, cast(0, 4), true, api.OK},
		{shop(2, []api.MoMould{newMould("m", 4, span(1, 1), span(2, 2))}, "-+"), 0, cast(0, 2), true, api.OK},
		{shop(2, []api.MoMould{newMould("m", 4, span(1, 1), span(2, 2))}, "-+"), 0, cast(0, 3), false, api.OK},
		// no such head, no such cast
		{example(), -1, cast(0, 1), false, api.ErrNone},
		{example(), 3, cast(0, 1), false, api.ErrNone},
		{example(), math.MaxInt, cast(0, 1), false, api.ErrNone},
		{example(), 0, cast(-1, 1), false, api.ErrNone},
		{example(), 0, cast(2, 1), false, api.ErrNone},
		{example(), 0, cast(math.MinInt, 1), false, api.ErrNone},
		{example(), 0, cast(queen, 0), false, api.ErrNone},
		{example(), 0, cast(queen, 3), false, api.ErrNone},
		{example(), 0, cast(assassin, 4), false, api.ErrNone},
		{example(), 0, cast(assassin, math.MaxInt), false, api.ErrNone},
		{api.MoShop{Features: 1}, 0, cast(0, 1), false, api.ErrNone},
		{shop(1, nil, "?"), 0, cast(0, 1), false, api.ErrNone},
	} {
		if got, e := mould.Fits(c.s, c.head, c.cast); got != c.want || e != c.e {
			t.Errorf("%d: Fits = %t, %d", i, got, e)
		}
	}
}

func TestP1_4First(t *testing.T) {
	for i, c := range []struct {
		s    api.MoShop
		want []api.MoCast
		many int
		e    api.Errno
	}{
		{example(), []api.MoCast{cast(assassin, 1), cast(assassin, 2), cast(assassin, 3)}, 2, api.OK},
		{exampleX(), nil, 0, api.ErrZero},
		{api.MoShop{Features: 4}, nil, 1, api.OK},
		{shop(1, one(4, span(0, 6))), nil, 1, api.OK},
		{shop(1, nil, "?"), nil, 0, api.ErrZero},
		{shop(1, one(2, span(0, 6)), "?", "?", "?"), nil, 0, api.ErrZero},
		// casts are counted, not lasts
		{shop(1, one(1, span(0, 6)), "?"), []api.MoCast{cast(0, 1)}, 1, api.OK},
		{shop(1, one(4, span(0, 6)), "?", "?", "?", "?"), []api.MoCast{cast(0, 1), cast(0, 2), cast(0, 3), cast(0, 4)}, 24, api.OK},
		{shop(1, two(4, span(0, 6), 4, span(0, 6)), "?", "?", "?", "?"), []api.MoCast{cast(0, 1), cast(0, 2), cast(0, 3), cast(0, 4)}, 1680, api.OK},
		// the first one found is taken back if the next head has none
		{shop(1, two(1, span(0, 1), 1, span(1, 1)), "+", "-"), []api.MoCast{cast(1, 1), cast(0, 1)}, 1, api.OK},
		{shop(1, one(3, span(0, 6)), "-", "?", "+"), []api.MoCast{cast(0, 2), cast(0, 3), cast(0, 1)}, 3, api.OK},
		// of two heads only one can have the feature's last cast
		{shop(1, one(3, span(1, 1)), "+", "+"), nil, 0, api.ErrZero},
	} {
		if got, many, e := mould.First(c.s); !slices.Equal(got, c.want) || many != c.many || e != c.e {
			t.Errorf("%d: First = %v, %d, %d", i, got, many, e)
		}
	}
}

func TestP1_4May(t *testing.T) {
	for i, c := range []struct {
		s    api.MoShop
		head int
		want []api.MoCast
		e    api.Errno
	}{
		{example(), brutus, []api.MoCast{cast(assassin, 1), cast(queen, 1)}, api.OK},
		{example(), cassius, []api.MoCast{cast(assassin, 2)}, api.OK},
		{example(), regina, []api.MoCast{cast(assassin, 3)}, api.OK},
		// brutus does not have to be seen to be told: the other two leave it what there is
		{shop(1, one(3, span(1, 1)), "?", "+", "-"), 0, []api.MoCast{cast(0, 2), cast(0, 3)}, api.OK},
		{shop(1, two(2, span(0, 0), 2, span(0, 0)), "?"), 0, []api.MoCast{cast(0, 1), cast(0, 2), cast(1, 1), cast(1, 2)}, api.OK},
		{exampleX(), late, nil, api.ErrZero},
		{exampleX(), 4, nil, api.ErrNone},
		{exampleX(), -1, nil, api.ErrNone},
		{example(), math.MinInt, nil, api.ErrNone},
		{api.MoShop{Features: 1}, 0, nil, api.ErrNone},
		{shop(1, nil, "?"), 0, nil, api.ErrZero},
	} {
		if got, e := mould.May(c.s, c.head); !slices.Equal(got, c.want) || e != c.e {
			t.Errorf("%d: May = %v, %d", i, got, e)
		}
	}
}

func TestP1_5SameAndOrder(t *testing.T) {
	for i, c := range []struct {
		s          api.MoShop
		a, b       int
		same       int
		e          api.Errno
		order      int
		orderError api.Errno
	}{
		{example(), cassius, regina, api.MoMust, api.OK, api.MoBefore, api.OK},
		{example(), regina, cassius, api.MoMust, api.OK, api.MoAfter, api.OK},
		{example(), brutus, cassius, api.MoMay, api.OK, api.MoBefore, api.OK},
		{example(), regina, brutus, api.MoMay, api.OK, api.MoAfter, api.OK},
		{shop(1, one(2, span(0, 0)), "?", "?"), 0, 1, api.MoMust, api.OK, api.MoEither, api.OK},
		{shop(1, two(1, span(0, 0), 2, span(0, 0)), "?", "?"), 0, 1, api.MoMay, api.OK, api.MoEither, api.OK},
		{shop(1, two(1, span(0, 0), 1, span(0, 0)), "?", "?"), 0, 1, api.MoNever, api.OK, 0, api.ErrDown},
		{shop(1, two(2, span(0, 0), 2, span(6, 6)), "+", "-"), 0, 1, api.MoNever, api.OK, 0, api.ErrDown},
		// only truths in which they are of one mould count
		{shop(1, two(2, span(1, 1), 1, span(1, 1)), "?", "-"), 0, 1, api.MoMay, api.OK, api.MoBefore, api.OK},
		{exampleX(), brutus, cassius, 0, api.ErrZero, 0, api.ErrZero},
		{exampleX(), late, late, 0, api.ErrArg, 0, api.ErrArg},
		{exampleX(), 4, 4, 0, api.ErrNone, 0, api.ErrNone},
		{exampleX(), -1, 0, 0, api.ErrNone, 0, api.ErrNone},
		{example(), 0, 3, 0, api.ErrNone, 0, api.ErrNone},
		{example(), math.MaxInt, math.MinInt, 0, api.ErrNone, 0, api.ErrNone},
		{shop(1, nil, "?", "?"), 0, 1, 0, api.ErrZero, 0, api.ErrZero},
	} {
		same, e := mould.Same(c.s, c.a, c.b)
		order, f := mould.Order(c.s, c.a, c.b)
		if same != c.same || e != c.e || order != c.order || f != c.orderError {
			t.Errorf("%d: Same = %d, %d; Order = %d, %d", i, same, e, order, f)
		}
	}
}

func TestP1_6LastsAndNext(t *testing.T) {
	for i, c := range []struct {
		s              api.MoShop
		mould, feature int
		want           api.Span
		sure, may      []int
	}{
		{example(), assassin, 0, span(1, 1), []int{2}, []int{2}},
		{example(), assassin, 1, span(2, 2), []int{2}, []int{2}},
		{example(), assassin, 2, span(5, 6), []int{2}, []int{2}},
		{example(), queen, 0, span(1, 1), nil, nil},
		{example(), queen, 1, span(2, 2), nil, nil},
		{example(), queen, 2, span(0, 1), nil, nil},
		// without heads it is what is known of the mould
		{shop(1, one(2, span(3, 6))), 0, 0, span(3, 6), []int{0}, []int{0}},
		{shop(1, one(2, span(2, 3))), 0, 0, span(2, 3), nil, []int{0}},
		{shop(1, one(2, span(0, 2))), 0, 0, span(0, 2), nil, nil},
		{shop(3, []api.MoMould{newMould("m", 4, span(5, 5), span(4, 6), span(6, 6))}), 0, 1, span(4, 6), []int{0, 2}, []int{0, 1, 2}},
		// ends from several truths
		{shop(1, one(2, span(0, 6)), "-"), 0, 0, span(0, 1), nil, nil},
		{shop(1, one(2, span(0, 6)), "+"), 0, 0, span(1, 6), nil, []int{0}},
		{shop(1, one(4, span(0, 6)), "+", "-"), 0, 0, span(1, 3), nil, nil},
		{shop(1, two(2, span(0, 6), 1, span(0, 6)), "-", "+"), 0, 0, span(0, 6), nil, []int{0}},
	} {
		got, e := mould.Lasts(c.s, c.mould, c.feature)
		sure, may, f := mould.Next(c.s, c.mould)
		if got != c.want || e != api.OK || !slices.Equal(sure, c.sure) || !slices.Equal(may, c.may) || f != api.OK {
			t.Errorf("%d: Lasts = %v, %d; Next = %v, %v, %d", i, got, e, sure, may, f)
		}
	}
}

func TestP1_6Errors(t *testing.T) {
	for i, c := range []struct {
		s              api.MoShop
		mould, feature int
		lasts, next    api.Errno
	}{
		{exampleX(), assassin, 0, api.ErrZero, api.ErrZero},
		{exampleX(), 2, 0, api.ErrNone, api.ErrNone},
		{exampleX(), assassin, 3, api.ErrNone, api.ErrZero},
		{example(), -1, 0, api.ErrNone, api.ErrNone},
		{example(), 0, -1, api.ErrNone, api.OK},
		{example(), math.MaxInt, math.MinInt, api.ErrNone, api.ErrNone},
		{api.MoShop{Features: 1}, 0, 0, api.ErrNone, api.ErrNone},
		// more heads than casts
		{shop(1, one(1, span(0, 0)), "?", "?"), 0, 0, api.ErrZero, api.ErrZero},
	} {
		got, e := mould.Lasts(c.s, c.mould, c.feature)
		sure, may, f := mould.Next(c.s, c.mould)
		if e != c.lasts || e != api.OK && got != span(0, 0) || f != c.next || f != api.OK && len(sure)+len(may) > 0 {
			t.Errorf("%d: Lasts = %v, %d; Next = %v, %v, %d", i, got, e, sure, may, f)
		}
	}
}

func TestP1_7Wrong(t *testing.T) {
	for i, c := range []struct {
		s    api.MoShop
		want []api.MoEntry
		e    api.Errno
	}{
		{example(), nil, api.OK},
		{exampleX(), []api.MoEntry{entry(late, 1)}, api.OK},
		{api.MoShop{Features: 1}, nil, api.OK},
		{shop(1, nil, "?"), nil, api.ErrDown},
		{shop(1, one(2, span(0, 6)), "?", "?", "?"), nil, api.ErrDown},
		{shop(1, one(2, span(0, 6)), "?", "?"), nil, api.OK},
		{shop(1, one(1, span(0, 0)), "+"), []api.MoEntry{entry(0, 0)}, api.OK},
		// either of two would do: the first one
		{shop(1, one(2, span(0, 1)), "+", "+"), []api.MoEntry{entry(0, 0)}, api.OK},
		{shop(1, one(3, span(1, 1)), "?", "+", "+"), []api.MoEntry{entry(1, 0)}, api.OK},
		// not the first one, but the fewest
		{shop(1, one(2, span(2, 2)), "+", "-"), []api.MoEntry{entry(1, 0)}, api.OK},
		{shop(1, one(2, span(2, 2)), "-", "-"), []api.MoEntry{entry(0, 0), entry(1, 0)}, api.OK},
		// the last head against the two before it, whose casts its other feature tells
		{shop(2, []api.MoMould{newMould("m", 3, span(1, 1), span(0, 6))}, "-+", "-+", "+-"), []api.MoEntry{entry(2, 1)}, api.OK},
		// by head, and then by feature
		{shop(2, []api.MoMould{newMould("m", 2, span(1, 1), span(1, 1))}, "++", "++"), []api.MoEntry{entry(0, 0), entry(0, 1)}, api.OK},
		{shop(2, []api.MoMould{newMould("m", 2, span(1, 1), span(2, 2))}, "+-", "+-"), []api.MoEntry{entry(0, 0), entry(0, 1), entry(1, 1)}, api.OK},
		// all entries of a full shop
		{shop(4, []api.MoMould{newMould("m", 4, span(6, 6), span(6, 6), span(6, 6), span(6, 6))}, "----", "----", "----", "----"), []api.MoEntry{
			entry(0, 0), entry(0, 1), entry(0, 2), entry(0, 3), entry(1, 0), entry(1, 1), entry(1, 2), entry(1, 3),
			entry(2, 0), entry(2, 1), entry(2, 2), entry(2, 3), entry(3, 0), entry(3, 1), entry(3, 2), entry(3, 3),
		}, api.OK},
	} {
		if got, e := mould.Wrong(c.s); !slices.Equal(got, c.want) || e != c.e {
			t.Errorf("%d: Wrong = %v, %d", i, got, e)
		}
	}
}
