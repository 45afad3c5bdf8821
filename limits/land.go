package limits

import (
	"merestone/api"
	"merestone/line"
)

// isAt says whether a parcel is at a station.
func isAt(p api.Parcel, station int) bool { return p.From <= station && station < p.To }

// sides returns the points of the limits of a parcel at a station.
func sides(f api.Field, p api.Parcel, station int) (south, north int) {
	return pointOf(f, api.Corner{Limit: p.South, Station: station}), pointOf(f, api.Corner{Limit: p.South + 1, Station: station})
}

// Sure returns the offsets between which every drawing gives all to a parcel on the line of a station.
func Sure(f api.Field, l []api.Record, parcel, station int) (from, to int, e api.Errno) {
	g, e := settled(f, l, isIndex(parcel, len(f.Parcels)) && isStation(f, station))
	if e != api.OK {
		return 0, 0, e
	}
	if !isAt(f.Parcels[parcel], station) {
		return 0, 0, api.ErrNone
	}
	south, north := sides(f, f.Parcels[parcel], station)
	from, to = g.high(south), g.low(north)
	if from >= to {
		return 0, 0, api.OK
	}
	return from, to, api.OK
}

// Whose returns the parcel to which every drawing gives a unit on the line of a station.
func Whose(f api.Field, l []api.Record, station, unit int) (int, bool, api.Errno) {
	g, e := settled(f, l, isStation(f, station) && isUnit(unit))
	if e != api.OK {
		return 0, false, e
	}
	// As limits do not cross, and parcels do not overlap, a unit is surely one parcel's at most.
	owners := having(f, station, unit, g.surely)
	if len(owners) == 0 {
		return 0, false, api.OK
	}
	return owners[0], true, api.OK
}

// May returns the parcels to which some drawing gives a unit on the line of a station.
func May(f api.Field, l []api.Record, station, unit int) ([]int, api.Errno) {
	g, e := settled(f, l, isStation(f, station) && isUnit(unit))
	if e != api.OK {
		return nil, e
	}
	return having(f, station, unit, g.perhaps), api.OK
}

// isUnit says whether u is a unit.
func isUnit(u int) bool { return isIndex(u, api.MaxOffset) }

// having returns the parcels at a station that have a unit, where has says it of two points of that station.
func having(f api.Field, station, unit int, has func(south, north, unit int) bool) []int {
	var l []int
	for i, p := range f.Parcels {
		if !isAt(p, station) {
			continue
		}
		if south, north := sides(f, p, station); has(south, north, unit) {
			l = append(l, i)
		}
	}
	return l
}

// surely says whether every drawing gives a unit to what lies between two points.
func (g ground) surely(south, north, unit int) bool {
	return g.high(south) <= unit && unit < g.low(north)
}

// perhaps says whether some drawing gives a unit to what lies between two points.
// To hold south at the unit or below, and north above it, contradicts the rest only by a circle through one of these bounds or through both.
func (g ground) perhaps(south, north, unit int) bool {
	if g.low(south) > unit || unit >= g.high(north) {
		return false
	}
	width, _, _ := line.Distance(g.System, south, north)
	return width > 0
}
