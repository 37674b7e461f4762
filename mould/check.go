package mould

import (
	"slices"

	"ceroplast/api"
	"ceroplast/check"
)

// Name reports whether a string is a name.
func Name(s string) bool {
	if !check.Within(1, api.MaxName, len(s)) || !isLetter(s[0]) {
		return false
	}
	for i := range len(s) {
		if !isLetter(s[i]) && !isDigit(s[i]) && s[i] != '.' {
			return false
		}
	}
	return true
}

func isLetter(b byte) bool { return 'a' <= b && b <= 'z' }

func isDigit(b byte) bool { return '0' <= b && b <= '9' }

// Check returns the part, the index in it and the error of a shop.
func Check(s api.MoShop) (part, at int, e api.Errno) {
	if !check.Within(1, api.MaxMoFeatures, s.Features) {
		return 1, 0, api.ErrRange
	}
	at, e = check.List(s.Moulds, api.MaxMoMoulds, func(before []api.MoMould, m api.MoMould) api.Errno {
		return mouldError(s.Features, before, m)
	})
	if e != api.OK {
		return 2, at, e
	}
	at, e = check.List(s.Heads, api.MaxMoHeads, func(before []api.MoHead, h api.MoHead) api.Errno {
		return headError(s.Features, before, h)
	})
	if e != api.OK {
		return 3, at, e
	}
	return 0, 0, api.OK
}

func mouldError(features int, before []api.MoMould, m api.MoMould) api.Errno {
	switch {
	case !Name(m.Name):
		return api.ErrForm
	case slices.ContainsFunc(before, func(other api.MoMould) bool { return other.Name == m.Name }):
		return api.ErrTwice
	case !check.Within(1, api.MaxMoCasts, m.Casts):
		return api.ErrRange
	case len(m.Lasts) != features:
		return api.ErrLong
	}
	return check.Spans(0, api.MaxMoLast, m.Lasts...)
}

func headError(features int, before []api.MoHead, h api.MoHead) api.Errno {
	switch {
	case !Name(h.Name):
		return api.ErrForm
	case slices.ContainsFunc(before, func(other api.MoHead) bool { return other.Name == h.Name }):
		return api.ErrTwice
	case len(h.Shows) != features:
		return api.ErrLong
	case !check.Within(api.MoUnread, api.MoBlurred, h.Shows...):
		return api.ErrRange
	}
	return api.OK
}
