package van

import (
	"slices"

	"ceroplast/api"
	"ceroplast/check"
	"ceroplast/mould"
)

// kind is what must be as stated of each thing of a kind: its name, and the rest of it.
type kind[T any] struct {
	name func(thing T) string
	rest func(thing T) api.Errno
}

// Check returns the part, the index in it and the error of a train.
func Check(t api.VaTrain) (part, at int, e api.Errno) {
	if !check.Within(1, api.MaxVaStops, t.Stops) || !check.Within(0, api.MaxVaHandle, t.Handle) {
		return 1, 0, api.ErrRange
	}
	if len(t.Vans) == 0 {
		return 2, 0, api.ErrLong
	}
	if at, e := check.List(t.Vans, api.MaxVaVans, vanKind(t.Stops).find); e != api.OK {
		return 2, at, e
	}
	if at, e := check.List(t.Crates, api.MaxVaCrates, crateKind(t.Stops).find); e != api.OK {
		return 3, at, e
	}
	at, e = check.List(t.Apart, api.MaxVaPairs, func(_ []api.VaPair, p api.VaPair) api.Errno {
		return pairError(len(t.Crates), p)
	})
	if e != api.OK {
		return 4, at, e
	}
	return 0, 0, api.OK
}

func vanKind(stops int) kind[api.VaVan] {
	return kind[api.VaVan]{
		name: func(v api.VaVan) string { return v.Name },
		rest: func(v api.VaVan) api.Errno {
			switch {
			case !check.Within(0, api.MaxVaRoom, v.Room), !check.Within(0, api.MaxVaMinute, v.Leave):
				return api.ErrRange
			case len(v.Legs) != stops:
				return api.ErrLong
			}
			return check.Spans(0, api.MaxVaLeg, v.Legs...)
		},
	}
}

func crateKind(stops int) kind[api.VaCrate] {
	return kind[api.VaCrate]{
		name: func(c api.VaCrate) string { return c.Name },
		rest: func(c api.VaCrate) api.Errno {
			if !check.Within(1, api.MaxVaSize, c.Size) || !check.IsIndex(stops, c.Stop) || !check.Within(0, api.MaxVaMinute, c.By) {
				return api.ErrRange
			}
			return api.OK
		},
	}
}

// find returns the error of a thing.
func (k kind[T]) find(before []T, thing T) api.Errno {
	if e := nameError(k.name, before, thing); e != api.OK {
		return e
	}
	return k.rest(thing)
}

// nameError returns the error of the name of a thing: ErrForm if it is none, ErrTwice if a thing before has the same.
func nameError[T any](name func(T) string, before []T, thing T) api.Errno {
	isSame := func(other T) bool { return name(other) == name(thing) }
	switch {
	case !mould.Name(name(thing)):
		return api.ErrForm
	case slices.ContainsFunc(before, isSame):
		return api.ErrTwice
	}
	return api.OK
}

func pairError(crates int, p api.VaPair) api.Errno {
	switch {
	case !check.IsIndex(crates, p.A, p.B):
		return api.ErrNone
	case p.A >= p.B:
		return api.ErrArg
	}
	return api.OK
}

func (l look) planError(told []int) api.Errno {
	if len(told) != len(l.Crates) {
		return api.ErrLong
	}
	for _, van := range told {
		if van != api.VaNone && !check.IsIndex(len(l.Vans), van) {
			return api.ErrNone
		}
	}
	if !l.allows(planOf(told)) {
		return api.ErrDown
	}
	return api.OK
}
