package door

import (
	"slices"

	"ceroplast/api"
	"ceroplast/check"
	"ceroplast/mould"
)

// Check returns the part, the index in it and the error of a book.
func Check(b api.DoBook) (part, at int, e api.Errno) {
	if e := priceError(b.Price); e != api.OK {
		return 1, 0, e
	}
	if at, e := check.List(b.Rooms, api.MaxDoRooms, roomError); e != api.OK {
		return 2, at, e
	}
	at, e = check.List(b.Days, api.MaxDoDays, func(_ []api.DoDay, d api.DoDay) api.Errno {
		return dayError(len(b.Rooms), d)
	})
	if e != api.OK {
		return 3, at, e
	}
	return 0, 0, api.OK
}

func priceError(price int) api.Errno {
	switch {
	case !check.Within(2, api.MaxDoPence, price):
		return api.ErrRange
	case price%2 != 0:
		return api.ErrArg
	}
	return api.OK
}

func roomError(before []api.DoRoom, r api.DoRoom) api.Errno {
	switch {
	case !mould.Name(r.Name):
		return api.ErrForm
	case slices.ContainsFunc(before, func(other api.DoRoom) bool { return other.Name == r.Name }):
		return api.ErrTwice
	case !check.Within(0, api.MaxDoMore, r.More), !check.Within(0, api.MaxDoHeads, r.Full):
		return api.ErrRange
	}
	return api.OK
}

func dayError(rooms int, d api.DoDay) api.Errno {
	if _, e := check.List(d.Schools, api.MaxDoSchools, schoolError); e != api.OK {
		return e
	}
	switch {
	case pupils(d.Schools) > api.MaxDoHeads:
		return api.ErrDown
	case len(d.Rooms) != rooms:
		return api.ErrLong
	case !areCounts(d.Door), !areCounts(d.Rooms...), !check.Within(0, api.MaxDoTaken, d.Taken):
		return api.ErrRange
	}
	return api.OK
}

func schoolError(before []api.DoSchool, s api.DoSchool) api.Errno {
	switch {
	case !mould.Name(s.Name):
		return api.ErrForm
	case slices.ContainsFunc(before, func(other api.DoSchool) bool { return other.Name == s.Name }):
		return api.ErrTwice
	case !check.Within(1, api.MaxDoHeads, s.Children):
		return api.ErrRange
	}
	return api.OK
}

// areCounts reports whether the numbers of all counts are as stated.
func areCounts(counts ...api.DoCount) bool {
	for _, c := range counts {
		if !check.Within(0, api.MaxDoHeads, c.Seen) || !check.Within(0, api.MaxDoMiss, c.Miss) {
			return false
		}
	}
	return true
}
