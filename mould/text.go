package mould

import (
	"strconv"
	"strings"

	"ceroplast/api"
)

// marks are the bytes for MoUnread, MoSeen and MoBlurred, in the order of these numbers.
const marks = "?+-"

// Write returns the text of a shop.
func Write(s api.MoShop) (string, api.Errno) {
	if _, _, e := Check(s); e != api.OK {
		return "", e
	}
	text := line("features", strconv.Itoa(s.Features))
	for _, m := range s.Moulds {
		words := []string{"mould", m.Name, strconv.Itoa(m.Casts)}
		for _, last := range m.Lasts {
			words = append(words, strconv.Itoa(last.Lo), strconv.Itoa(last.Hi))
		}
		text += line(words...)
	}
	for _, h := range s.Heads {
		text += line("head", h.Name, markWord(h.Shows))
	}
	return text, api.OK
}

func line(words ...string) string { return strings.Join(words, " ") + "\n" }

func markWord(shows []int) string {
	word := make([]byte, 0, len(shows))
	for _, show := range shows {
		word = append(word, marks[show])
	}
	return string(word)
}

// Read returns the shop of a text.
func Read(text string) (s api.MoShop, e api.Errno) {
	if len(text) > api.MaxMoText {
		return api.MoShop{}, api.ErrLong
	}
	defer func() {
		if recover() != nil {
			s, e = api.MoShop{}, api.ErrForm
		}
	}()
	r := reader{lines: strings.Split(strings.TrimSuffix(text, "\n"), "\n")}
	s = r.shop()
	// The reader is generous, with zeros at the beginning of numbers for one: only what is written the same again is the text of a shop.
	again, e := Write(s)
	must(e == api.OK && again == text)
	return s, api.OK
}

// reader has the lines that are still to be read. It panics where it cannot read one.
type reader struct{ lines []string }

func must(ok bool) {
	if !ok {
		panic(api.ErrForm)
	}
}

// take takes the next line if its first word is this one, and returns the words behind it.
func (r *reader) take(first string) (words []string, ok bool) {
	if len(r.lines) == 0 {
		return nil, false
	}
	words = strings.Split(r.lines[0], " ")
	if words[0] != first {
		return nil, false
	}
	r.lines = r.lines[1:]
	return words[1:], true
}

func (r *reader) shop() api.MoShop {
	words, ok := r.take("features")
	must(ok && len(words) == 1)
	s := api.MoShop{Features: number(words[0])}
	for words, ok = r.take("mould"); ok; words, ok = r.take("mould") {
		s.Moulds = append(s.Moulds, readMould(words))
	}
	for words, ok = r.take("head"); ok; words, ok = r.take("head") {
		s.Heads = append(s.Heads, readHead(words))
	}
	must(len(r.lines) == 0)
	return s
}

func readMould(words []string) api.MoMould {
	must(len(words) >= 2 && len(words)%2 == 0)
	m := api.MoMould{Name: words[0], Casts: number(words[1])}
	for i := 2; i < len(words); i += 2 {
		m.Lasts = append(m.Lasts, api.Span{Lo: number(words[i]), Hi: number(words[i+1])})
	}
	return m
}

func readHead(words []string) api.MoHead {
	must(len(words) == 2)
	stands := map[rune]int{}
	for show, mark := range marks {
		stands[mark] = show
	}
	h := api.MoHead{Name: words[0]}
	for _, mark := range words[1] {
		show, ok := stands[mark]
		must(ok)
		h.Shows = append(h.Shows, show)
	}
	return h
}

func number(word string) int {
	n, err := strconv.Atoi(word)
	must(err == nil)
	return n
}
