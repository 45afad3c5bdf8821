package line

import (
	"slices"

	"merestone/api"
)

// Greatest returns the greatest value of each point.
func Greatest(s api.System) ([]int, api.Errno) {
	n, e := sound(s)
	if e != api.OK {
		return nil, e
	}
	d := n.distances(0)
	y := d[:s.N]
	if slices.Contains(y, none) {
		return nil, api.ErrNone
	}
	return slices.Clone(y), api.OK
}

// Least returns the least value of each point.
func Least(s api.System) ([]int, api.Errno) {
	y, e := Greatest(mirrored(s))
	for p := range y {
		y[p] = -y[p]
	}
	return y, e
}

// mirrored returns the system that the opposite values keep. It is as valid as s.
func mirrored(s api.System) api.System {
	m := api.System{N: s.N, Bounds: slices.Clone(s.Bounds)}
	for i, b := range s.Bounds {
		m.Bounds[i].From, m.Bounds[i].To = b.To, b.From
	}
	return m
}

// Some returns values that keep a system.
func Some(s api.System) ([]int, api.Errno) {
	n, e := sound(s)
	if e != api.OK {
		return nil, e
	}
	return n.values(), api.OK
}

// Through returns values that keep a system, and give a point a value.
func Through(s api.System, p, v int) ([]int, bool, api.Errno) {
	if e := checkPoints(s, p); e != api.OK {
		return nil, false, e
	}
	if !within(v, api.MaxMost) {
		return nil, false, api.ErrArg
	}
	// For the point 0 these lead from it to itself: a negative circle of one bound, unless v is 0.
	tie := []api.Bound{{From: 0, To: p, Most: v}, {From: p, To: 0, Most: -v}}
	n := netOf(api.System{N: s.N, Bounds: slices.Concat(s.Bounds, tie)})
	if !n.consistent() {
		return nil, false, api.OK
	}
	return n.values(), true, api.OK
}

// values gives the points of a net that is consistent their values, as Some says: what is possible depends on the distances
// to and from the points that have one already, as these have values that some values of all points extend.
func (n *net) values() []int {
	d := n.allDistances()
	y := make([]int, n.points)
	var given, open []int
	for p := range y {
		if d[0][p] == none {
			open = append(open, p)
			continue
		}
		y[p] = d[0][p]
		given = append(given, p)
	}
	for _, p := range open {
		y[p] = leastFromZero(possible(d, y, given, p))
		given = append(given, p)
	}
	return y
}

// possible returns the ends of what the value of p can be with those of the points that are given.
func possible(d []reach, y, given []int, p int) (low, high end) {
	narrower := comparisons()
	for _, g := range given {
		if x := lowEnd(y[g], d[p][g]); narrower[narrowerLow](x, low) {
			low = x
		}
		if x := highEnd(y[g], d[g][p]); narrower[narrowerHigh](x, high) {
			high = x
		}
	}
	return low, high
}

// leastFromZero returns the least value from 0 on that lies between two ends, or else the greatest that does.
func leastFromZero(low, high end) int {
	v := 0
	if low.is {
		v = max(v, low.value)
	}
	if high.is {
		v = min(v, high.value)
	}
	return v
}
