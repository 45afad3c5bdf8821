// Package line is layer 1: systems of bounds on differences, their ranges, values and proofs.
package line

import (
	"slices"

	"merestone/api"
)

// Check returns whether a system is valid.
func Check(s api.System) api.Errno {
	if s.N > api.MaxPoints || len(s.Bounds) > api.MaxBounds {
		return api.ErrLimit
	}
	if s.N < 1 {
		return api.ErrArg
	}
	for _, b := range s.Bounds {
		if !valid(s.N, b) {
			return api.ErrArg
		}
	}
	return api.OK
}

// valid says whether a bound is one between two of n points.
func valid(n int, b api.Bound) bool {
	return isPoint(n, b.From) && isPoint(n, b.To) && b.From != b.To &&
		within(b.Most, api.MaxMost) && 0 <= b.Record && b.Record <= api.MaxId
}

// isPoint says whether p is one of n points.
func isPoint(n, p int) bool { return 0 <= p && p < n }

// within says whether a number is from -most to most.
func within(x, most int) bool { return -most <= x && x <= most }

// checkPoints is Check, and ErrArg for a point that there is not.
func checkPoints(s api.System, points ...int) api.Errno {
	if e := Check(s); e != api.OK {
		return e
	}
	for _, p := range points {
		if !isPoint(s.N, p) {
			return api.ErrArg
		}
	}
	return api.OK
}

// sound is checkPoints, and ErrCircle for a system that is not consistent; it returns the net of one that is.
func sound(s api.System, points ...int) (*net, api.Errno) {
	if e := checkPoints(s, points...); e != api.OK {
		return nil, e
	}
	n := netOf(s)
	if !n.consistent() {
		return nil, api.ErrCircle
	}
	return n, api.OK
}

// Kept returns the first bound that values do not keep.
func Kept(s api.System, y []int) (int, bool, api.Errno) {
	if e := Check(s); e != api.OK {
		return 0, false, e
	}
	if !areValues(s.N, y) {
		return 0, false, api.ErrArg
	}
	for i, b := range s.Bounds {
		if y[b.To]-y[b.From] > b.Most {
			return i, false, api.OK
		}
	}
	return 0, true, api.OK
}

// areValues says whether a list has a value for each of n points.
func areValues(n int, y []int) bool {
	if len(y) != n || y[0] != 0 {
		return false
	}
	return !slices.ContainsFunc(y, func(v int) bool { return !within(v, api.MaxValue) })
}

// Records returns the records of some bounds, those of nature left out.
func Records(s api.System, l []int) ([]int, api.Errno) {
	if e := Check(s); e != api.OK {
		return nil, e
	}
	var records []int
	for _, i := range l {
		if i < 0 || i >= len(s.Bounds) {
			return nil, api.ErrArg
		}
		if r := s.Bounds[i].Record; r > 0 {
			records = append(records, r)
		}
	}
	slices.Sort(records)
	return slices.Compact(records), api.OK
}

// Without returns the system without the bounds of some records.
func Without(s api.System, records []int) (api.System, api.Errno) {
	if e := Check(s); e != api.OK {
		return api.System{}, e
	}
	named := map[int]bool{}
	for _, r := range records {
		named[r] = true
	}
	left := api.System{N: s.N}
	for _, b := range s.Bounds {
		if !named[b.Record] {
			left.Bounds = append(left.Bounds, b)
		}
	}
	return left, api.OK
}

// Join returns the system with the bounds of both.
func Join(s, t api.System) (api.System, api.Errno) {
	if e := Check(s); e != api.OK {
		return api.System{}, e
	}
	if e := Check(t); e != api.OK {
		return api.System{}, e
	}
	if s.N != t.N {
		return api.System{}, api.ErrArg
	}
	if len(s.Bounds)+len(t.Bounds) > api.MaxBounds {
		return api.System{}, api.ErrLimit
	}
	return api.System{N: s.N, Bounds: slices.Concat(s.Bounds, t.Bounds)}, api.OK
}
