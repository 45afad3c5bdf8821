package line

import (
	"iter"
	"math"

	"merestone/api"
)

// none stands where there is no path; it is greater than every sum.
const none = math.MaxInt

// reach is the distances from one point to each point, or from each point to one.
type reach [api.MaxPoints]int

// unreached returns a reach without any path.
func unreached() reach {
	var d reach
	for p := range d {
		d[p] = none
	}
	return d
}

// net is a system with the indices of the bounds that lead from each point, in ascending order.
type net struct {
	points int
	bounds []api.Bound
	from   [api.MaxPoints][]int
}

// netOf returns the net of a system.
func netOf(s api.System) *net {
	n := &net{points: s.N, bounds: s.Bounds}
	for i, b := range s.Bounds {
		n.from[b.From] = append(n.from[b.From], i)
	}
	return n
}

// edges yields the bounds that lead from a point, with their indices, in ascending order.
func (n *net) edges(p int) iter.Seq2[int, api.Bound] {
	return func(yield func(int, api.Bound) bool) {
		for _, i := range n.from[p] {
			if !yield(i, n.bounds[i]) {
				return
			}
		}
	}
}

// settle lowers distances until no bound lowers one any more. It says whether they come to rest:
// without a negative circle no path that counts has more bounds than there are other points, so the last round changes nothing.
func (n *net) settle(d reach) (reach, bool) {
	for range n.points {
		if !n.round(&d) {
			return d, true
		}
	}
	return d, false
}

// round goes through all bounds once, and says whether some distance was lowered.
func (n *net) round(d *reach) bool {
	lowered := false
	for p := range n.points {
		if d[p] == none {
			continue
		}
		for _, b := range n.edges(p) {
			if sum := d[p] + b.Most; sum < d[b.To] {
				d[b.To] = sum
				lowered = true
			}
		}
	}
	return lowered
}

// consistent says whether there is no negative circle. It begins at all points at once, so that each circle is reached.
func (n *net) consistent() bool {
	_, rests := n.settle(reach{})
	return rests
}

// distances returns the distances from a point of a net that is consistent.
func (n *net) distances(a int) reach {
	d := unreached()
	d[a] = 0
	d, _ = n.settle(d)
	return d
}

// allDistances returns the distances from each point of a net that is consistent.
func (n *net) allDistances() []reach {
	l := make([]reach, n.points)
	for a := range l {
		l[a] = n.distances(a)
	}
	return l
}

// longer returns the least sums of paths with one bound more than those of d, which lead to the same point.
func (n *net) longer(d reach) reach {
	out := unreached()
	for p := range n.points {
		for _, b := range n.edges(p) {
			if d[b.To] != none {
				out[p] = min(out[p], b.Most+d[b.To])
			}
		}
	}
	return out
}

// firstPath returns the first of the shortest paths from a to b with a sum of at most most, if one has at most longest bounds.
func (n *net) firstPath(a, b, most, longest int) ([]int, bool) {
	rest := []reach{unreached()}
	rest[0][b] = 0
	for rest[len(rest)-1][a] > most {
		if len(rest) > longest {
			return nil, false
		}
		rest = append(rest, n.longer(rest[len(rest)-1]))
	}
	return n.search(rest, a, most), true
}

// search returns the first path from a with a sum of at most most, where rest tells, by the number of bounds that are left, the least sum of the rest.
// As rest is exact, the first bound that can be right is right, and the search never turns back.
func (n *net) search(rest []reach, a, most int) []int {
	var path []int
	var walk func(at, left, most int)
	walk = func(at, left, most int) {
		if left == 0 {
			return
		}
	search:
		for i, b := range n.edges(at) {
			switch sum := rest[left-1][b.To]; {
			case sum == none:
				continue
			case b.Most+sum <= most:
				path = append(path, i)
				walk(b.To, left-1, most-b.Most)
				break search
			}
		}
	}
	walk(a, len(rest)-1, most)
	return path
}
