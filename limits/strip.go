package limits

import (
	"slices"

	"merestone/api"
	"merestone/line"
)

// parts is how many links of a strip go to the south, are open, and go to the north.
type parts struct{ south, open, north int }

// measured returns what some offsets of the limit all give of a strip to each side; what is left is open.
func measured(s api.Strip, offsets ...int) parts {
	low, high := nearest(s, slices.Min(offsets)), nearest(s, slices.Max(offsets))
	return parts{south: low - s.From, open: high - low, north: s.To - high}
}

// nearest returns the number from From to To of a strip that is nearest to an offset.
func nearest(s api.Strip, y int) int { return max(s.From, min(y, s.To)) }

// isStrip says whether a strip is valid in a field.
func isStrip(f api.Field, s api.Strip) bool {
	return isCorner(f, cornerOf(s)) && 0 <= s.From && s.From < s.To && s.To <= api.MaxOffset
}

// cornerOf returns the corner of a strip.
func cornerOf(s api.Strip) api.Corner { return api.Corner{Limit: s.Limit, Station: s.Station} }

// share returns what all drawings give of a strip of a field to each side.
func (g ground) share(f api.Field, s api.Strip) parts {
	p := pointOf(f, cornerOf(s))
	return measured(s, g.low(p), g.high(p))
}

// Award returns to which side every drawing gives a whole strip.
func Award(f api.Field, l []api.Record, s api.Strip) (uint8, api.Errno) {
	g, e := settled(f, l, isStrip(f, s))
	if e != api.OK {
		return 0, e
	}
	whole := s.To - s.From
	switch g.share(f, s) {
	case parts{north: whole}:
		return api.AwardNorth, api.OK
	case parts{south: whole}:
		return api.AwardSouth, api.OK
	}
	return api.AwardOpen, api.OK
}

// Parts returns how many links of a strip every drawing gives to the south, how many are open, and how many every one gives to the north.
func Parts(f api.Field, l []api.Record, s api.Strip) (south, open, north int, e api.Errno) {
	g, e := settled(f, l, isStrip(f, s))
	if e != api.OK {
		return 0, 0, 0, e
	}
	p := g.share(f, s)
	return p.south, p.open, p.north, api.OK
}

// Awarded returns how many links of a strip a drawing gives to the south and to the north.
func Awarded(f api.Field, l []api.Record, y []int, s api.Strip) (south, north int, e api.Errno) {
	system, e := checked(f, l, isStrip(f, s))
	if e != api.OK {
		return 0, 0, e
	}
	if !isDrawing(system, y) {
		return 0, 0, api.ErrNone
	}
	p := measured(s, y[pointOf(f, cornerOf(s))])
	return p.south, p.north, api.OK
}

// Shows returns two drawings that give a strip differently, if some of it is open.
func Shows(f api.Field, l []api.Record, s api.Strip) (one, two []int, is bool, e api.Errno) {
	g, e := settled(f, l, isStrip(f, s))
	if e != api.OK || g.share(f, s).open == 0 {
		return nil, nil, false, e
	}
	p := pointOf(f, cornerOf(s))
	one, _, _ = line.Through(g.System, p, g.low(p))
	two, _, _ = line.Through(g.System, p, g.high(p))
	return one, two, true, api.OK
}
