package deed

import (
	"merestone/api"
	"merestone/line"
)

// pointOf returns the point of a corner that there is.
func pointOf(f api.Field, limit, station int) int { return 1 + limit*len(f.Stations) + station }

// pointsOf returns the number of points of a valid field.
func pointsOf(f api.Field) int { return 1 + len(f.Limits)*len(f.Stations) }

// Point returns the point of a corner.
func Point(f api.Field, limit, station int) (int, api.Errno) {
	if e := CheckField(f); e != api.OK {
		return 0, e
	}
	if !isIndex(limit, len(f.Limits)) || !isIndex(station, len(f.Stations)) {
		return 0, api.ErrArg
	}
	return pointOf(f, limit, station), api.OK
}

// Corner returns the corner of a point.
func Corner(f api.Field, point int) (limit, station int, e api.Errno) {
	if e := CheckField(f); e != api.OK {
		return 0, 0, e
	}
	if !between(1, point, pointsOf(f)-1) {
		return 0, 0, api.ErrArg
	}
	n := len(f.Stations)
	return (point - 1) / n, (point - 1) % n, api.OK
}

// Points returns the number of points of a field.
func Points(f api.Field) int {
	if CheckField(f) != api.OK {
		return 0
	}
	return pointsOf(f)
}

// Nature returns the bounds by nature.
func Nature(f api.Field) ([]api.Bound, api.Errno) {
	if e := CheckField(f); e != api.OK {
		return nil, e
	}
	return nature(f), api.OK
}

// nature is Nature for a valid field.
func nature(f api.Field) []api.Bound {
	var l []api.Bound
	for p := 1; p < pointsOf(f); p++ {
		l = append(l, api.Bound{From: 0, To: p, Most: api.MaxOffset}, api.Bound{From: p, To: 0})
	}
	for limit := range len(f.Limits) - 1 {
		for station := range f.Stations {
			l = append(l, api.Bound{From: pointOf(f, limit+1, station), To: pointOf(f, limit, station)})
		}
	}
	return l
}

// Drawn says whether a list is a drawing that nature allows.
func Drawn(f api.Field, y []int) (bool, api.Errno) {
	if e := CheckField(f); e != api.OK {
		return false, e
	}
	return drawn(f, y), api.OK
}

// drawn is Drawn for a valid field.
func drawn(f api.Field, y []int) bool {
	_, kept, e := line.Kept(api.System{N: pointsOf(f), Bounds: nature(f)}, y)
	return e == api.OK && kept
}
