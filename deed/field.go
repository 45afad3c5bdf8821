package deed

import (
	"slices"

	"merestone/api"
	"merestone/course"
)

// between says whether a number lies between two others, or is one of them.
func between(low, x, high int) bool { return low <= x && x <= high }

// isIndex says whether i is an index of a list of n items.
func isIndex(i, n int) bool { return 0 <= i && i < n }

// CheckField returns whether a field is valid.
func CheckField(f api.Field) api.Errno {
	if len(f.Stations) > api.MaxStations || len(f.Limits) > api.MaxLimits || len(f.Parcels) > api.MaxParcels {
		return api.ErrLimit
	}
	if len(f.Stations) < 2 || len(f.Limits) == 0 {
		return api.ErrNone
	}
	if e := course.CheckVariations(f.Variations); e != api.OK {
		return e
	}
	if !allNamed(f.Stations, stationName) || !allNamed(f.Limits, limitName) || !allNamed(f.Parcels, parcelName) {
		return api.ErrForm
	}
	if !distinct(f.Stations, stationName) || !distinct(f.Limits, limitName) || !distinct(f.Parcels, parcelName) {
		return api.ErrTwice
	}
	if !inRange(f) {
		return api.ErrArg
	}
	if !inOrder(f) {
		return api.ErrOrder
	}
	return api.OK
}

// inRange says whether all X, and the limits and stations of all parcels, are there.
func inRange(f api.Field) bool {
	for _, s := range f.Stations {
		if !between(0, s.X, api.MaxX) {
			return false
		}
	}
	for _, p := range f.Parcels {
		// The last limit has none north of it.
		if !isIndex(p.South, len(f.Limits)-1) || !isIndex(p.From, len(f.Stations)) || !isIndex(p.To, len(f.Stations)) {
			return false
		}
	}
	return true
}

// inOrder says whether stations and parcels go on from west to east, and no two parcels overlap.
func inOrder(f api.Field) bool {
	for i, s := range f.Stations[1:] {
		if s.X <= f.Stations[i].X {
			return false
		}
	}
	for i, p := range f.Parcels {
		overlaps := func(q api.Parcel) bool { return q.South == p.South && facing(p, q) }
		if p.From >= p.To || slices.ContainsFunc(f.Parcels[:i], overlaps) {
			return false
		}
	}
	return true
}

// facing says whether two parcels have more than one station in common.
func facing(p, q api.Parcel) bool { return max(p.From, q.From) < min(p.To, q.To) }

// At returns the parcel that has a place.
func At(f api.Field, station, offset int, y []int) (int, api.Errno) {
	if e := CheckField(f); e != api.OK {
		return 0, e
	}
	if !isIndex(station, len(f.Stations)) || !between(0, offset, api.MaxOffset) || !drawn(f, y) {
		return 0, api.ErrArg
	}
	i := slices.IndexFunc(f.Parcels, func(p api.Parcel) bool {
		south, north := y[pointOf(f, p.South, station)], y[pointOf(f, p.South+1, station)]
		return p.From <= station && station < p.To && south <= offset && offset < north
	})
	if i < 0 {
		return 0, api.ErrNone
	}
	return i, api.OK
}

// Adjoining returns the parcels that touch a parcel.
func Adjoining(f api.Field, parcel int) ([]int, api.Errno) {
	if e := CheckField(f); e != api.OK {
		return nil, e
	}
	if !isIndex(parcel, len(f.Parcels)) {
		return nil, api.ErrArg
	}
	var l []int
	for i, p := range f.Parcels {
		if touch(p, f.Parcels[parcel]) {
			l = append(l, i)
		}
	}
	return l, api.OK
}

// touch says whether two parcels of a valid field touch. None touches itself, as it does not end where it begins.
func touch(p, q api.Parcel) bool {
	switch p.South - q.South {
	case 0:
		return p.From == q.To || q.From == p.To
	case 1, -1:
		return facing(p, q)
	}
	return false
}
