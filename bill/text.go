package bill

import (
	"iter"
	"slices"
	"strconv"
	"strings"

	"ceroplast/api"
)

func (l look) wordsOfIs(a, _ int) []string { return slices.Concat([]string{"is"}, l.person(a)) }

func (l look) wordsOfEither(a, b int) []string {
	return slices.Concat(l.wordsOfIs(a, 0), []string{"or"}, l.person(b))
}

func (l look) wordsOfMay(a, _ int) []string { return slices.Concat([]string{"may", "be"}, l.person(a)) }

func (l look) person(figure int) []string {
	f := l.Figures[figure]
	return []string{f.Name, "as", f.As}
}

// words returns the words of an entry that holds, behind its number.
func (l look) words(e api.BiEntry) []string { return l.sayings()[e.Says].words(e.A, e.B) }

func line(words ...string) string { return strings.Join(words, " ") + "\n" }

// text returns the text of the catalogue.
func (d edition) text() string {
	text := ""
	page, pages := 0, d.best(better).pages
	for i, e := range d.entries {
		if number, begins := slices.BinarySearch(pages, i); begins {
			page = i
			text += line("page", strconv.Itoa(number+1))
		}
		room := strconv.Itoa(d.room(i))
		switch d.heading(page, i) {
		case roomBegins:
			text += line("room", room)
		case roomContinues:
			text += line("room", room, "continued")
		}
		text += line(slices.Concat([]string{strconv.Itoa(i + 1)}, d.words(e))...)
	}
	return text
}

// linesOf yields the words of each line of a text, at least one of each.
func linesOf(text string) iter.Seq[[]string] {
	return func(yield func([]string) bool) {
		var words []string
		begin := 0
		for at, r := range text {
			switch r {
			case ' ':
				words = append(words, text[begin:at])
				begin = at + 1
			case '\n':
				if !yield(append(words, text[begin:at])) {
					return
				}
				words = nil
				begin = at + 1
			}
		}
	}
}

// read returns the catalogue of a text, and whether it is the text of one that is true.
func (l look) read(text string) (c []api.BiEntry, isText bool) {
	for words := range linesOf(text) {
		if e, found := l.entryOf(words[1:]); found {
			c = append(c, e)
		}
	}
	// Numbers, and lines without an entry, were passed over: only what is written the same again is the text of the catalogue.
	if !l.isTrue(c) || (edition{l, c}).text() != text {
		return nil, false
	}
	return c, true
}

// entryOf returns the entry that has these words behind its number, and whether there is one.
func (l look) entryOf(words []string) (api.BiEntry, bool) {
	for figure := range len(l.Figures) {
		for e := range l.entriesOf(figure) {
			if slices.Equal(l.words(e), words) {
				return e, true
			}
		}
	}
	return api.BiEntry{}, false
}
