package plan

import (
	"iter"
	"maps"
	"slices"

	"merestone/api"
	"merestone/line"
)

// classes tells, for each point, the least point of its class.
type classes [api.MaxPoints]int

// apart returns the classes in which each point is alone.
func apart() classes {
	var c classes
	for p := range c {
		c[p] = p
	}
	return c
}

// joined returns the classes in which pairs of points are joined, too.
func (c classes) joined(pairs iter.Seq2[int, int]) classes {
	var least func(p int) int
	least = func(p int) int {
		if c[p] == p {
			return p
		}
		return least(c[p])
	}
	for a, b := range pairs {
		a, b = least(a), least(b)
		c[max(a, b)] = min(a, b)
	}
	for p := range c {
		c[p] = least(p)
	}
	return c
}

// lists returns the classes of n points, ordered by their least points.
func (c classes) lists(n int) [][]int {
	members := map[int][]int{}
	for p := range n {
		members[c[p]] = append(members[c[p]], p)
	}
	var lists [][]int
	for _, least := range ascending(slices.Collect(maps.Keys(members))) {
		lists = append(lists, members[least])
	}
	return lists
}

// ties says whether all points are in the class of the point 0.
func (c classes) ties(points ...int) bool {
	return !slices.ContainsFunc(points, func(p int) bool { return c[p] != c[0] })
}

// pairsIn yields the pairs of the first point of each class and each other one.
func pairsIn(lists [][]int) iter.Seq2[int, int] {
	return func(yield func(int, int) bool) {
		for _, class := range lists {
			for _, p := range class[1:] {
				if !yield(class[0], p) {
					return
				}
			}
		}
	}
}

// pairsOf yields the points of each measure of a set.
func (g ground) pairsOf(set []int) iter.Seq2[int, int] {
	return func(yield func(int, int) bool) {
		for _, i := range set {
			if !yield(g.measures[i].A, g.measures[i].B) {
				return
			}
		}
	}
}

// tied returns the classes of points that a set ties to one another.
func (g ground) tied(set []int) classes { return g.rigid.joined(g.pairsOf(set)) }

// Tied returns the classes of points that a set ties to one another.
func Tied(s api.System, l []api.Measure, set []int) ([][]int, api.Errno) {
	g, e := settled(s, l, isSet(l, set))
	if e != api.OK {
		return nil, e
	}
	return g.tied(set).lists(s.N), api.OK
}

// Ties says whether a set ties a point.
func Ties(s api.System, l []api.Measure, set []int, point int) (bool, api.Errno) {
	g, e := settled(s, l, isSet(l, set) && arePoints(s.N, point))
	if e != api.OK {
		return false, e
	}
	return g.tied(set).ties(point), api.OK
}

// Trim returns what is left of a set that ties points when measures that are not needed are left out, the last ones first.
func Trim(s api.System, l []api.Measure, set, points []int) ([]int, api.Errno) {
	g, e := settled(s, l, isSet(l, set) && arePoints(s.N, points...))
	if e != api.OK {
		return nil, e
	}
	if !g.tied(set).ties(points...) {
		return nil, api.ErrFar
	}
	kept := slices.Clone(set)
search:
	for at := range slices.Backward(set) {
		left := slices.Delete(slices.Clone(kept), at, at+1)
		c := g.tied(left)
		for _, p := range points {
			if !c.ties(p) {
				continue search
			}
		}
		kept = left
	}
	return kept, api.OK
}

// Outcome returns the system with bounds for what the measures of a set say if values are true.
func Outcome(s api.System, l []api.Measure, set, y []int) (api.System, api.Errno) {
	g, e := settled(s, l, isSet(l, set))
	if e != api.OK {
		return api.System{}, e
	}
	if _, is, e := line.Kept(s, y); e != api.OK || !is {
		return api.System{}, api.ErrArg
	}
	out := api.System{N: s.N, Bounds: slices.Clone(s.Bounds)}
	for a, b := range g.pairsOf(set) {
		step := y[b] - y[a]
		if !between(-api.MaxMost, step, api.MaxMost) {
			return api.System{}, api.ErrArg
		}
		out.Bounds = append(out.Bounds, api.Bound{From: a, To: b, Most: step}, api.Bound{From: b, To: a, Most: -step})
	}
	if len(out.Bounds) > api.MaxBounds {
		return api.System{}, api.ErrLimit
	}
	return out, api.OK
}
