package bill

import (
	"cmp"
	"slices"

	"ceroplast/api"
)

// Lines of headings.
const (
	roomBegins    = 2
	roomContinues = 1
)

// edition is a show that is looked at, with a catalogue of it that is true.
type edition struct {
	look
	entries []api.BiEntry
}

// setting is pages that fit, and their white.
type setting struct {
	pages []int
	white int
}

// openTrue returns the edition with a catalogue, or the error of the show, or ErrDown if the catalogue is not true.
func openTrue(s api.BiShow, c []api.BiEntry) (edition, api.Errno) {
	l, e := open(s)
	if e != api.OK {
		return edition{}, e
	}
	if !l.isTrue(c) {
		return edition{}, api.ErrDown
	}
	return edition{l, c}, api.OK
}

func (d edition) room(entry int) int { return d.Figures[d.entries[entry].A].Room }

func (d edition) height(entry int) int {
	height := 0
	for _, figure := range figuresOf(d.entries[entry]) {
		height += d.Figures[figure].Height
	}
	return height
}

// heading returns how many lines the heading before an entry of a page has.
func (d edition) heading(page, entry int) int {
	switch {
	case entry == 0 || d.room(entry) != d.room(entry-1):
		return roomBegins
	case entry == page:
		return roomContinues
	}
	return 0
}

// lines returns how many lines a page has if the next one begins with this entry.
func (d edition) lines(page, next int) int {
	lines := 0
	for entry := page; entry < next; entry++ {
		lines += d.heading(page, entry) + d.height(entry)
	}
	return lines
}

// white returns what a page adds to the white, and whether it fits.
func (d edition) white(page, next int) (white int, fits bool) {
	left := d.Lines - d.lines(page, next)
	switch {
	case left < 0:
		return 0, false
	case next == len(d.entries):
		return 0, true
	}
	return left * left, true
}

// ends returns pages, and behind them where the last one ends: so each page ends where the next number says.
func (d edition) ends(pages []int) []int { return append(slices.Clone(pages), len(d.entries)) }

// has reports whether these are pages of the catalogue.
func (d edition) has(pages []int) bool {
	ends := d.ends(pages)
	for i, page := range pages {
		if page >= ends[i+1] {
			return false
		}
	}
	return ends[0] == 0
}

// whiteOf returns the white of pages of the catalogue, and whether they fit.
func (d edition) whiteOf(pages []int) (white int, fit bool) {
	ends := d.ends(pages)
	for i, page := range pages {
		more, fits := d.white(page, ends[i+1])
		if !fits {
			return 0, false
		}
		white += more
	}
	return white, true
}

// best returns the first setting in an order. By this, of two settings with the same first page, the one whose other pages come first has to come first.
func (d edition) best(compare func(a, b setting) int) setting {
	kept := map[int]setting{len(d.entries): {}} // the best pages from each entry on
pages:
	for page := len(d.entries) - 1; page >= 0; page-- {
		for next := page + 1; next <= len(d.entries); next++ {
			white, fits := d.white(page, next)
			if !fits {
				continue pages // nor does the page fit with more entries; with one alone it always does
			}
			rest := kept[next]
			s := setting{append([]int{page}, rest.pages...), white + rest.white}
			if known, found := kept[page]; !found || compare(s, known) < 0 {
				kept[page] = s
			}
		}
	}
	return kept[0]
}

// better compares settings as pages are compared: those that are better come first.
func better(a, b setting) int {
	return cmp.Or(cmp.Compare(a.white, b.white), fewer(a, b), slices.Compare(a.pages, b.pages))
}

func fewer(a, b setting) int { return cmp.Compare(len(a.pages), len(b.pages)) }
