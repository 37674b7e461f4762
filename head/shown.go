package head

import (
	"cmp"
	"iter"
	"slices"

	"ceroplast/api"
	"ceroplast/check"
)

// answers returns what is answered of the ways, ascending, nothing twice.
func answers[T cmp.Ordered](ways map[holding]bool, ask func(now holding) T) []T {
	var list []T
	for now := range ways {
		list = append(list, ask(now))
	}
	slices.Sort(list)
	return slices.Compact(list)
}

// figure is a head of a book on a day.
type figure struct {
	look
	head, day int
}

// shown returns as whom the head is shown, "" if as nobody.
func (f figure) shown(now holding) string {
	for as, days := range f.shownOn(now.bodyOf(f.head)) {
		if check.Within(days.Lo, days.Hi, f.day) {
			return as
		}
	}
	return ""
}

// shownOn yields as whom a body is shown, and on which days.
func (l look) shownOn(body int) iter.Seq2[string, api.Span] {
	return func(yield func(string, api.Span) bool) {
		shown := l.Bodies[body].Shown
		for i, s := range shown {
			days := api.Span{Lo: s.Day, Hi: api.MaxDay}
			if i+1 < len(shown) {
				days.Hi = shown[i+1].Day - 1
			}
			if !yield(s.As, days) {
				return
			}
		}
	}
}

// stretches yields days on which no body gets another head, and who has which head then, until the last day.
func (l look) stretches(t truth) iter.Seq2[api.Span, holding] {
	return func(yield func(api.Span, holding) bool) {
		from, now := 0, t.now[0]
		for i, s := range l.steps {
			if t.now[i+1] == now {
				continue
			}
			day := s.lines[0].Day
			if from < day && !yield(api.Span{Lo: from, Hi: day - 1}, now) {
				return
			}
			from, now = day, t.now[i+1]
		}
		yield(api.Span{Lo: from, Hi: api.MaxDay}, now)
	}
}

// everShown yields as whom a head is shown in a truth, and on which days; somebody more than once, if there are other days between.
func (l look) everShown(t truth, head int) iter.Seq2[string, api.Span] {
	return func(yield func(string, api.Span) bool) {
		for stretch, now := range l.stretches(t) {
			for as, days := range l.shownOn(now.bodyOf(head)) {
				both := api.Span{Lo: max(days.Lo, stretch.Lo), Hi: min(days.Hi, stretch.Hi)}
				if both.Lo <= both.Hi && !yield(as, both) {
					return
				}
			}
		}
	}
}

// namesOf returns as whom a head is shown on some day of a truth, nobody twice.
func (l look) namesOf(t truth, head int) []string {
	var names []string
	for as := range l.everShown(t, head) {
		if !slices.Contains(names, as) {
			names = append(names, as)
		}
	}
	return names
}
