package wax

import (
	"slices"

	"ceroplast/api"
	"ceroplast/check"
	"ceroplast/mould"
)

// Check returns the part, the index in it and the error of a store.
func Check(s api.WxStore) (part, at int, e api.Errno) {
	if !check.Within(0, api.MaxWxOunces, s.Lots[:]...) || !check.Within(1, api.MaxDay, s.Fade) {
		return 1, 0, api.ErrRange
	}
	if at, e := check.List(s.Heads, api.MaxWxHeads, headError); e != api.OK {
		return 2, at, e
	}
	if at, e := check.List(s.Orders, api.MaxWxOrders, orderError); e != api.OK {
		return 3, at, e
	}
	return 0, 0, api.OK
}

func headError(before []api.WxHead, h api.WxHead) api.Errno {
	switch {
	case !mould.Name(h.Name):
		return api.ErrForm
	case slices.ContainsFunc(before, func(other api.WxHead) bool { return other.Name == h.Name }):
		return api.ErrTwice
	case !check.Within(0, api.MaxWxOunces, h.Wax[:]...), !check.Within(0, api.MaxDay, h.Days):
		return api.ErrRange
	}
	return api.OK
}

func orderError(before []api.WxOrder, o api.WxOrder) api.Errno {
	switch {
	case !mould.Name(o.Name):
		return api.ErrForm
	case slices.ContainsFunc(before, func(other api.WxOrder) bool { return other.Name == o.Name }):
		return api.ErrTwice
	case !check.Within(1, api.MaxWxWeight, o.Weight), !check.Within(0, wholeParts, o.Tallow.Lo, o.Tallow.Hi, o.Colour.Lo, o.Colour.Hi):
		return api.ErrRange
	case o.Tallow.Lo > o.Tallow.Hi, o.Colour.Lo > o.Colour.Hi:
		return api.ErrArg
	}
	return api.OK
}

// kettleError returns the error of heads that are melted, and of what is added.
func (l look) kettleError(heads []int, add api.WxAmounts) api.Errno {
	if !check.IsIndex(len(l.Heads), heads...) {
		return api.ErrNone
	}
	for i, head := range heads {
		if i > 0 && heads[i-1] >= head || l.Heads[head].Kept {
			return api.ErrArg
		}
	}
	for kind, ounces := range add {
		if !check.Within(0, l.Lots[kind], ounces) {
			return api.ErrRange
		}
	}
	return api.OK
}
