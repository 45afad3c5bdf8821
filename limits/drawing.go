package limits

import (
	"merestone/api"
	"merestone/line"
)

// First returns the drawing in which each corner has the low end of its region.
func First(f api.Field, l []api.Record) ([]int, api.Errno) {
	g, e := settled(f, l, true)
	if e != api.OK {
		return nil, e
	}
	return g.drawing(g.low), api.OK
}

// Last returns the drawing in which each corner has the high end of its region.
func Last(f api.Field, l []api.Record) ([]int, api.Errno) {
	g, e := settled(f, l, true)
	if e != api.OK {
		return nil, e
	}
	return g.drawing(g.high), api.OK
}

// Through returns a drawing in which a corner has the offset y, if there is one.
func Through(f api.Field, l []api.Record, c api.Corner, y int) ([]int, bool, api.Errno) {
	g, e := settled(f, l, isCorner(f, c))
	if e != api.OK {
		return nil, false, e
	}
	// By nature there is none for what is no offset.
	drawing, is, _ := line.Through(g.System, pointOf(f, c), y)
	return drawing, is, api.OK
}

// CheckDrawing says whether values are a drawing.
func CheckDrawing(f api.Field, l []api.Record, y []int) (bool, api.Errno) {
	s, e := System(f, l)
	if e != api.OK {
		return false, e
	}
	return isDrawing(s, y), api.OK
}

// isDrawing says whether a list is one of values that keep a system.
func isDrawing(s api.System, y []int) bool {
	_, kept, _ := line.Kept(s, y)
	return kept
}
