package course

import "merestone/api"

// mostCourses is how many courses Common takes.
const mostCourses = 40

// whole is the square of parts: the square of a link, in squares of its parts.
const whole = parts * parts

// aim is what a course means: the ends of its sector, and of its true length in parts of a link.
type aim struct{ low, high, near, far int }

// aimOf returns what a course means in which check finds no error.
func aimOf(l []api.Variation, c api.Course) aim {
	east, _ := Declination(l, c.Year)
	m := Norm(c.Bearing+east+90) - 90
	near, far := ends(c.Chain, c.Links)
	return aim{m - c.Needle, m + c.Needle, near, far}
}

// aimEast returns what the course, or its reverse for a step to the west, means.
func aimEast(l []api.Variation, c api.Course, dx int) aim {
	if dx < 0 {
		c.Bearing = Norm(c.Bearing + 180)
	}
	return aimOf(l, c)
}

// northerly and southerly say whether a sector leads to one side of east alone, as far as it leads to the east.
func (a aim) northerly() bool { return a.high <= 90 }
func (a aim) southerly() bool { return a.low >= 90 }

// conditions returns what a step to the east has to keep, in their order.
func (a aim) conditions(dx, dy int) [5]func() bool {
	square := whole * (dx*dx + dy*dy)
	return [5]func() bool{
		func() bool { return a.high > 0 && a.low < 180 },
		func() bool { return a.low <= 0 || dy*Sin(a.low) <= dx*Cos(a.low) },
		func() bool { return a.high >= 180 || dy*Sin(a.high) >= dx*Cos(a.high) },
		func() bool { return square <= a.far*a.far },
		func() bool { return !a.northerly() && !a.southerly() || square >= a.near*a.near },
	}
}

// misfit returns the number of the first condition that a step to the east does not keep, or FitOk.
func (a aim) misfit(dx, dy int) uint8 {
	for i, kept := range a.conditions(dx, dy) {
		if !kept() {
			return uint8(i + 1)
		}
	}
	return api.FitOk
}

// interval returns the ends of the offsets that keep all conditions, for a step to the east, and whether there are any.
func (a aim) interval(dx int) (low, high int, ok bool) {
	room := a.far*a.far/whole - dx*dx
	if a.high <= 0 || a.low >= 180 || room < 0 {
		return 0, 0, false
	}
	high = min(Root(room), api.MaxOffset)
	low = -high
	if a.low > 0 {
		high = min(high, floor(dx*Cos(a.low), Sin(a.low)))
	}
	if a.high < 180 {
		low = max(low, ceil(dx*Cos(a.high), Sin(a.high)))
	}
	// On one side of east the sector leaves no offset of the other sign, so that what is too near is an end.
	least := RootUp(ceil(a.near*a.near, whole) - dx*dx)
	if a.northerly() {
		low = max(low, least)
	}
	if a.southerly() {
		high = min(high, -least)
	}
	return low, high, low <= high
}

// checkEast returns the error that comes first with a course and how far a step leads to the east.
func checkEast(l []api.Variation, dx int, courses ...api.Course) api.Errno {
	if e := check(l, courses...); e != api.OK {
		return e
	}
	if dx == 0 || !between(-api.MaxX, dx, api.MaxX) {
		return api.ErrArg
	}
	return api.OK
}

// checkStep returns the error that comes first with a course and a step.
func checkStep(l []api.Variation, c api.Course, dx, dy int) api.Errno {
	if e := checkEast(l, dx, c); e != api.OK {
		return e
	}
	if !between(-api.MaxOffset, dy, api.MaxOffset) {
		return api.ErrArg
	}
	return api.OK
}

// Sector returns the ends of the sector of a course.
func Sector(l []api.Variation, c api.Course) (low, high int, e api.Errno) {
	if e := check(l, c); e != api.OK {
		return 0, 0, e
	}
	a := aimOf(l, c)
	return a.low, a.high, api.OK
}

// Misfit returns why a step does not fit a course.
func Misfit(l []api.Variation, c api.Course, dx, dy int) (uint8, api.Errno) {
	if e := checkStep(l, c, dx, dy); e != api.OK {
		return 0, e
	}
	return misfit(l, c, dx, dy), api.OK
}

// misfit is Misfit for a course and a step in which checkStep finds no error.
func misfit(l []api.Variation, c api.Course, dx, dy int) uint8 {
	a := aimEast(l, c, dx)
	if dx < 0 {
		dx, dy = -dx, -dy
	}
	return a.misfit(dx, dy)
}

// Fits says whether a step fits a course.
func Fits(l []api.Variation, c api.Course, dx, dy int) (bool, api.Errno) {
	why, e := Misfit(l, c, dx, dy)
	return e == api.OK && why == api.FitOk, e
}

// Interval returns the least and the greatest offset that fit a course so far east.
func Interval(l []api.Variation, c api.Course, dx int) (low, high int, ok bool, e api.Errno) {
	return Common(l, []api.Course{c}, dx)
}

// Common returns the interval of the offsets that fit all of some courses so far east.
func Common(l []api.Variation, courses []api.Course, dx int) (low, high int, ok bool, e api.Errno) {
	if len(courses) > mostCourses {
		return 0, 0, false, api.ErrLimit
	}
	if len(courses) == 0 {
		return 0, 0, false, api.ErrNone
	}
	if e := checkEast(l, dx, courses...); e != api.OK {
		return 0, 0, false, e
	}
	low, high = -api.MaxOffset, api.MaxOffset
	for _, c := range courses {
		from, to, ok := interval(l, c, dx)
		low, high = max(low, from), min(high, to)
		if !ok || low > high {
			return 0, 0, false, api.OK
		}
	}
	return low, high, true, api.OK
}

// interval is Interval for a course in which checkEast finds no error.
func interval(l []api.Variation, c api.Course, dx int) (low, high int, ok bool) {
	a := aimEast(l, c, dx)
	if dx > 0 {
		return a.interval(dx)
	}
	low, high, ok = a.interval(-dx)
	return -high, -low, ok
}

// Needed returns the least error of the needle with which a step fits a course.
func Needed(l []api.Variation, c api.Course, dx, dy int) (int, bool, api.Errno) {
	if e := checkStep(l, c, dx, dy); e != api.OK {
		return 0, false, e
	}
	for c.Needle = range api.MaxNeedle + 1 {
		if misfit(l, c, dx, dy) == api.FitOk {
			return c.Needle, true, api.OK
		}
	}
	return 0, false, api.OK
}

// Bounds returns the bounds that a course sets between the offsets of two points.
func Bounds(l []api.Variation, c api.Course, dx, from, to, record int) ([]api.Bound, api.Errno) {
	low, high, ok, e := Interval(l, c, dx)
	if e != api.OK {
		return nil, e
	}
	if !ok {
		return nil, api.ErrNone
	}
	return []api.Bound{
		{From: from, To: to, Most: high, Record: record},
		{From: to, To: from, Most: -low, Record: record},
	}, api.OK
}
