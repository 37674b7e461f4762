// Package mould is layer 1: see shared/doc/01-mould.md.
package mould

import (
	"ceroplast/api"
	"ceroplast/check"
)

// Fits reports whether a cast could be a head's, if there were no others.
func Fits(s api.MoShop, head int, cast api.MoCast) (bool, api.Errno) {
	l, e := open(s)
	if e != api.OK {
		return false, e
	}
	if !check.IsIndex(len(l.Heads), head) || !check.IsIndex(len(l.Moulds), cast.Mould) || !check.Within(1, l.Moulds[cast.Mould].Casts, cast.Number) {
		return false, api.ErrNone
	}
	var g given
	g[head] = cast
	return l.agrees(g, ^(1 << head)), api.OK
}

// First returns the first casts of all heads, and how many there are.
func First(s api.MoShop) (casts []api.MoCast, many int, e api.Errno) {
	l, e := open(s)
	if e != api.OK {
		return nil, 0, e
	}
	var first given
	met := map[given]bool{}
	for g := range l.truths() {
		if len(met) == 0 {
			first = g
		}
		met[g] = true
	}
	if len(met) == 0 {
		return nil, 0, api.ErrZero
	}
	casts = make([]api.MoCast, len(l.Heads))
	copy(casts, first[:])
	return casts, len(met), api.OK
}

// May returns the casts that a head can be.
func May(s api.MoShop, head int) ([]api.MoCast, api.Errno) {
	l, e := open(s)
	if e != api.OK {
		return nil, e
	}
	if !check.IsIndex(len(l.Heads), head) {
		return nil, api.ErrNone
	}
	met := map[api.MoCast]bool{}
	for g := range l.truths() {
		met[g[head]] = true
	}
	if len(met) == 0 {
		return nil, api.ErrZero
	}
	var may []api.MoCast
	for _, c := range l.casts {
		if met[c] {
			may = append(may, c)
		}
	}
	return may, api.OK
}

// Same returns whether two heads are of one mould.
func Same(s api.MoShop, a, b int) (int, api.Errno) {
	met, e := pairings(s, a, b)
	if e != api.OK {
		return 0, e
	}
	switch {
	case !met[apart]:
		return api.MoMust, api.OK
	case len(met) == 1:
		return api.MoNever, api.OK
	}
	return api.MoMay, api.OK
}

// Order returns which of two heads of one mould was cast first.
func Order(s api.MoShop, a, b int) (int, api.Errno) {
	met, e := pairings(s, a, b)
	if e != api.OK {
		return 0, e
	}
	before, after := met[api.MoBefore], met[api.MoAfter]
	switch {
	case !before && !after:
		return 0, api.ErrDown
	case !after:
		return api.MoBefore, api.OK
	case !before:
		return api.MoAfter, api.OK
	}
	return api.MoEither, api.OK
}

// Lasts returns the last casts that can show a feature of a mould.
func Lasts(s api.MoShop, mould, feature int) (api.Span, api.Errno) {
	l, e := open(s)
	if e != api.OK {
		return api.Span{}, e
	}
	if !check.IsIndex(len(l.Moulds), mould) || !check.IsIndex(l.Features, feature) {
		return api.Span{}, api.ErrNone
	}
	spans, e := l.lasts(mould)
	if e != api.OK {
		return api.Span{}, e
	}
	return spans[feature], api.OK
}

// Next returns the features that the next cast of a mould shows, surely and perhaps.
func Next(s api.MoShop, mould int) (sure, may []int, e api.Errno) {
	l, e := open(s)
	if e != api.OK {
		return nil, nil, e
	}
	if !check.IsIndex(len(l.Moulds), mould) {
		return nil, nil, api.ErrNone
	}
	spans, e := l.lasts(mould)
	if e != api.OK {
		return nil, nil, e
	}
	next := l.Moulds[mould].Casts + 1
	for feature, span := range spans {
		if next <= span.Lo {
			sure = append(sure, feature)
		}
		if next <= span.Hi {
			may = append(may, feature)
		}
	}
	return sure, may, api.OK
}

// Wrong returns the fewest entries that must be wrong.
func Wrong(s api.MoShop) ([]api.MoEntry, api.Errno) {
	l, e := open(s)
	if e != api.OK {
		return nil, e
	}
	if len(l.Heads) > len(l.casts) {
		return nil, api.ErrDown
	}
	return l.entries(l.wrong()), api.OK
}
