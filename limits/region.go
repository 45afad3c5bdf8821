package limits

import (
	"slices"

	"merestone/api"
	"merestone/deed"
	"merestone/line"
)

// Region returns the ends of the region of a corner.
func Region(f api.Field, l []api.Record, c api.Corner) (low, high int, e api.Errno) {
	g, e := settled(f, l, isCorner(f, c))
	if e != api.OK {
		return 0, 0, e
	}
	p := pointOf(f, c)
	return g.low(p), g.high(p), api.OK
}

// Width returns the least and the greatest difference of the offset of b less that of a.
func Width(f api.Field, l []api.Record, a, b api.Corner) (low, high int, e api.Errno) {
	g, e := settled(f, l, isCorner(f, a) && isCorner(f, b))
	if e != api.OK {
		return 0, 0, e
	}
	span, _ := line.Between(g.System, pointOf(f, a), pointOf(f, b))
	return span.Low, span.High, api.OK
}

// Narrows returns the corners whose region is another one with a record more.
func Narrows(f api.Field, l []api.Record, r api.Record) ([]api.Corner, api.Errno) {
	after, e := settled(f, slices.Concat(l, []api.Record{r}), true)
	if e != api.OK {
		return nil, e
	}
	// Fewer records are as valid, and agree.
	before, _ := settled(f, l, true)
	var corners []api.Corner
	for p := 1; p < before.N; p++ {
		if before.low(p) != after.low(p) || before.high(p) != after.high(p) {
			limit, station, _ := deed.Corner(f, p)
			corners = append(corners, api.Corner{Limit: limit, Station: station})
		}
	}
	return corners, api.OK
}

// Idle returns the records without each of which all regions and widths stay.
func Idle(f api.Field, l []api.Record) ([]int, api.Errno) {
	g, e := settled(f, l, true)
	if e != api.OK {
		return nil, e
	}
	return slices.DeleteFunc(idsOf(l), g.needs), api.OK
}

// needs says whether some difference has another range without a record: whether the others do not imply one of its bounds.
func (g ground) needs(id int) bool {
	left, _ := line.Without(g.System, []int{id})
	return slices.ContainsFunc(g.Bounds, func(b api.Bound) bool {
		if b.Record != id {
			return false
		}
		// By nature there is a path between any two points.
		most, _, _ := line.Distance(left, b.From, b.To)
		return most > b.Most
	})
}
