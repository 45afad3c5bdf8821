package limits

import (
	"merestone/api"
	"merestone/deed"
	"merestone/line"
)

// ground is a system that some drawings keep, with the ends of the regions of its points.
type ground struct {
	api.System
	lows, highs []int
}

// groundOf returns the ground of a system, if some drawing keeps it.
func groundOf(s api.System) (ground, bool) {
	// Nature bounds each corner, so an error can only be that there is no drawing.
	lows, e := line.Least(s)
	if e != api.OK {
		return ground{}, false
	}
	highs, _ := line.Greatest(s)
	return ground{s, lows, highs}, true
}

// settled returns the ground of a field and of records. Its errors: those of checked, and ErrConflict.
func settled(f api.Field, l []api.Record, valid bool) (ground, api.Errno) {
	s, e := checked(f, l, valid)
	if e != api.OK {
		return ground{}, e
	}
	g, agree := groundOf(s)
	if !agree {
		return ground{}, api.ErrConflict
	}
	return g, api.OK
}

// low returns the low end of the region of a point.
func (g ground) low(p int) int { return g.lows[p] }

// high returns the high end of the region of a point.
func (g ground) high(p int) int { return g.highs[p] }

// drawing returns the values of which each is the same end of the region of its point.
func (g ground) drawing(end func(p int) int) []int {
	y := make([]int, g.N)
	for p := range y {
		y[p] = end(p)
	}
	return y
}

// isIndex says whether i is an index of a list of n items.
func isIndex(i, n int) bool { return 0 <= i && i < n }

// isStation says whether a field has a station.
func isStation(f api.Field, station int) bool { return isIndex(station, len(f.Stations)) }

// isCorner says whether a field has a corner.
func isCorner(f api.Field, c api.Corner) bool {
	return isIndex(c.Limit, len(f.Limits)) && isStation(f, c.Station)
}

// pointOf returns the point of a corner that there is.
func pointOf(f api.Field, c api.Corner) int {
	p, _ := deed.Point(f, c.Limit, c.Station)
	return p
}
