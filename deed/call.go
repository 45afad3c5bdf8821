package deed

import (
	"iter"
	"slices"

	"merestone/api"
	"merestone/course"
)

// CheckCall returns whether a call is right.
func CheckCall(f api.Field, c api.Call) api.Errno {
	if e := CheckField(f); e != api.OK {
		return e
	}
	return checkCall(f, c)
}

// checkCall is CheckCall in a valid field.
func checkCall(f api.Field, c api.Call) api.Errno {
	if !isThere(f, c) || !isOrdered(c) || !isBare(c) {
		return api.ErrArg
	}
	if c.Kind != api.CallCourse {
		return api.OK
	}
	_, _, fits, e := interval(f, c)
	if e == api.OK && !fits {
		return api.ErrNone
	}
	return e
}

// interval returns what a CallCourse says of the offset at To less that at From.
func interval(f api.Field, c api.Call) (low, high int, fits bool, e api.Errno) {
	return course.Interval(f.Variations, c.Course, f.Stations[c.To].X-f.Stations[c.From].X)
}

// isThere says whether the limits and stations of a call are there, and its numbers in range. What its kind does not name is 0, and so there.
func isThere(f api.Field, c api.Call) bool {
	return isIndex(c.Limit, len(f.Limits)) && isIndex(c.Other, len(f.Limits)) &&
		isIndex(c.From, len(f.Stations)) && isIndex(c.To, len(f.Stations)) &&
		between(-api.MaxOffset, c.Size, api.MaxOffset) && between(0, c.Error, api.MaxOffset)
}

// isOrdered says whether the limits and stations of a call stand to each other, and its Size to 0, as its kind asks.
func isOrdered(c api.Call) bool {
	switch c.Kind {
	case api.CallStone:
		return c.Size >= 0
	case api.CallWidth:
		return c.Other > c.Limit && c.Size >= 0
	case api.CallCourse, api.CallLevel:
		return c.From != c.To
	case api.CallAlong:
		return c.Other > c.Limit && c.To > c.From
	}
	return false
}

// isBare says whether all is zero that the kind of a call does not name.
func isBare(c api.Call) bool {
	rest := c
	rest.Kind, rest.Limit, rest.From = 0, 0, 0
	switch c.Kind {
	case api.CallStone:
		rest.Size, rest.Error = 0, 0
	case api.CallWidth:
		rest.Other, rest.Size, rest.Error = 0, 0, 0
	case api.CallCourse:
		rest.To, rest.Course = 0, api.Course{}
	case api.CallAlong:
		rest.Other, rest.To = 0, 0
	case api.CallLevel:
		rest.To, rest.Size, rest.Error = 0, 0, 0
	}
	return rest == api.Call{}
}

// gap says that the value of the point q less that of the point p is from low to high.
type gap struct{ p, q, low, high int }

// gaps returns what a right call says.
func gaps(f api.Field, c api.Call) []gap {
	at := pointOf(f, c.Limit, c.From)
	switch c.Kind {
	case api.CallStone:
		return []gap{about(0, at, c)}
	case api.CallWidth:
		return []gap{about(at, pointOf(f, c.Other, c.From), c)}
	case api.CallCourse:
		low, high, _, _ := interval(f, c)
		return []gap{{at, pointOf(f, c.Limit, c.To), low, high}}
	case api.CallLevel:
		return []gap{about(at, pointOf(f, c.Limit, c.To), c)}
	}
	var l []gap
	for station := c.From; station <= c.To; station++ {
		l = append(l, gap{p: pointOf(f, c.Limit, station), q: pointOf(f, c.Other, station)})
	}
	return l
}

// about returns that two points lie the Size of a call apart, with its Error.
func about(p, q int, c api.Call) gap { return gap{p, q, c.Size - c.Error, c.Size + c.Error} }

// bounds yields the bounds of a right call.
func bounds(f api.Field, c api.Call, record int) iter.Seq[api.Bound] {
	return func(yield func(api.Bound) bool) {
		for _, g := range gaps(f, c) {
			if !yield(api.Bound{From: g.p, To: g.q, Most: g.high, Record: record}) ||
				!yield(api.Bound{From: g.q, To: g.p, Most: -g.low, Record: record}) {
				return
			}
		}
	}
}

// Bounds returns the bounds of a call.
func Bounds(f api.Field, c api.Call, record int) ([]api.Bound, api.Errno) {
	if e := CheckCall(f, c); e != api.OK {
		return nil, e
	}
	if !between(0, record, api.MaxId) {
		return nil, api.ErrArg
	}
	return slices.Collect(bounds(f, c, record)), api.OK
}

// Allows says whether a call allows a drawing.
func Allows(f api.Field, c api.Call, y []int) (bool, api.Errno) {
	if e := CheckCall(f, c); e != api.OK {
		return false, e
	}
	if !drawn(f, y) {
		return false, api.ErrArg
	}
	for b := range bounds(f, c, 0) {
		if y[b.To]-y[b.From] > b.Most {
			return false, api.OK
		}
	}
	return true, api.OK
}

// Concerns returns the points of the corners that a call speaks of.
func Concerns(f api.Field, c api.Call) ([]int, api.Errno) {
	if e := CheckCall(f, c); e != api.OK {
		return nil, e
	}
	var l []int
	for b := range bounds(f, c, 0) {
		// Each point but the baseline is To of exactly one bound.
		if b.To != 0 {
			l = append(l, b.To)
		}
	}
	slices.Sort(l)
	return l, api.OK
}

// Same says whether two calls have the same bounds.
func Same(f api.Field, a, b api.Call) (bool, api.Errno) {
	for _, c := range []api.Call{a, b} {
		if e := CheckCall(f, c); e != api.OK {
			return false, e
		}
	}
	one, two := slices.Collect(bounds(f, a, 0)), slices.Collect(bounds(f, b, 0))
	// No call has a bound twice.
	return len(one) == len(two) && !slices.ContainsFunc(one, func(x api.Bound) bool { return !slices.Contains(two, x) }), api.OK
}

// Back returns the call that says the same, and leads the other way.
func Back(f api.Field, c api.Call) (api.Call, api.Errno) {
	if e := CheckCall(f, c); e != api.OK {
		return api.Call{}, e
	}
	switch c.Kind {
	case api.CallCourse:
		c.From, c.To = c.To, c.From
		c.Course, _ = course.Reverse(c.Course)
	case api.CallLevel:
		c.From, c.To = c.To, c.From
		c.Size = -c.Size
	}
	return c, api.OK
}
