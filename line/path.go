package line

import "merestone/api"

// Distance returns the distance from a to b, if there is a path.
func Distance(s api.System, a, b int) (int, bool, api.Errno) {
	n, e := sound(s, a, b)
	if e != api.OK {
		return 0, false, e
	}
	d := n.distances(a)[b]
	if d == none {
		return 0, false, api.OK
	}
	return d, true, api.OK
}

// Distances returns the distances from a to all points, and to which of them there is a path.
func Distances(s api.System, a int) ([]int, []bool, api.Errno) {
	n, e := sound(s, a)
	if e != api.OK {
		return nil, nil, e
	}
	l := make([]int, s.N)
	is := make([]bool, s.N)
	d := n.distances(a)
	for p := range l {
		if d[p] != none {
			l[p], is[p] = d[p], true
		}
	}
	return l, is, api.OK
}

// Path returns the first of the shortest paths from a to b whose sum is the distance.
func Path(s api.System, a, b int) ([]int, api.Errno) {
	n, e := sound(s, a, b)
	if e != api.OK {
		return nil, e
	}
	d := n.distances(a)[b]
	if d == none {
		return nil, api.ErrNone
	}
	path, _ := n.firstPath(a, b, d, s.N)
	return path, api.OK
}

// CheckPath returns whether a list is a path from a to b with a sum of at most most.
func CheckPath(s api.System, l []int, a, b, most int) (bool, api.Errno) {
	if e := checkPoints(s, a, b); e != api.OK {
		return false, e
	}
	if len(l) > api.MaxBounds {
		return false, api.OK
	}
	to, sum, is := follow(s, l, a)
	return is && to == b && sum <= most, api.OK
}

// follow goes from a point along a list of indices; it returns where the path ends, and its sum, if it is one.
func follow(s api.System, l []int, from int) (to, sum int, is bool) {
	to = from
	for _, i := range l {
		if i < 0 || i >= len(s.Bounds) || s.Bounds[i].From != to {
			return 0, 0, false
		}
		to = s.Bounds[i].To
		sum += s.Bounds[i].Most
	}
	return to, sum, true
}
