package mould

import (
	"slices"

	"ceroplast/api"
	"ceroplast/check"
)

// Name reports whether a string is a name.
func Name(s string) bool {
	if !check.Within(1, api.MaxName, len(s)) || !isLetter(s[0]) {
		return false
	}
	for i := range len(s) {
		if !isLetter(s[i]) && !isDigit(s[i]) && s[i] != '.' {
			return false
		}
	}
	return true
}

func isLetter(b byte) bool { return 'a' <= b && b <= 'z' }

func isDigit(b byte) bool { return '0' <= b && b <= '9' }

// Check returns the part, the index in it and the error of a shop.
func Check(s api.MoShop) (part, at int, e api.Errno) {
	if !check.Within(1, api.MaxMoFeatures, s.Features) {
		return 1, 0, api.ErrRange
	}
	if len(s.Moulds) > api.MaxMoMoulds {
		return 2, 0, api.ErrLong
	}
	at, e = check.First(s.Moulds, func(before []api.MoMould, m api.MoMould) api.Errno {
		return mouldError(s.Features, before, m)
	})
	if e != api.OK {
		return 2, at, e
	}
	if len(s.Heads) > api.MaxMoHeads {
		return 3, 0, api.ErrLong
	}
	at, e = check.First(s.Heads, func(before []api.MoHead, h api.MoHead) api.Errno {
		return headError(s.Features, before, h)
	})
	if e != api.OK {
		return 3, at, e
	}
	return 0, 0, api.OK
}

func mouldError(features int, before []api.MoMould, m api.MoMould) api.Errno {
	switch {
	case !Name(m.Name):
		return api.ErrForm
	case slices.ContainsFunc(before, func(other api.MoMould) bool { return other.Name == m.Name }):
		return api.ErrTwice
	case !check.Within(1, api.MaxMoCasts, m.Casts):
		return api.ErrRange
	case len(m.Lasts) != features:
		return api.ErrLong
	}
	_, e := check.First(m.Lasts, lastError)
	return e
}

func lastError(_ []api.Span, last api.Span) api.Errno {
	switch {
	case !check.Within(0, api.MaxMoLast, last.Lo, last.Hi):
		return api.ErrRange
	case last.Lo > last.Hi:
		return api.ErrArg
	}
	return api.OK
}

func headError(features int, before []api.MoHead, h api.MoHead) api.Errno {
	switch {
	case !Name(h.Name):
		return api.ErrForm
	case slices.ContainsFunc(before, func(other api.MoHead) bool { return other.Name == h.Name }):
		return api.ErrTwice
	case len(h.Shows) != features:
		return api.ErrLong
	case !check.Within(api.MoUnread, api.MoBlurred, h.Shows...):
		return api.ErrRange
	}
	return api.OK
}
