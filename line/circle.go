package line

import (
	"cmp"
	"slices"

	"merestone/api"
)

// Consistent returns whether some values keep a system.
func Consistent(s api.System) (bool, api.Errno) {
	if e := Check(s); e != api.OK {
		return false, e
	}
	return netOf(s).consistent(), api.OK
}

// Circle returns the first of the shortest negative circles.
func Circle(s api.System) ([]int, bool, api.Errno) {
	if e := Check(s); e != api.OK {
		return nil, false, e
	}
	n := netOf(s)
	if n.consistent() {
		return nil, false, api.OK
	}
	return n.firstCircle(), true, api.OK
}

// firstCircle returns the first of the shortest negative circles of a net that has one.
// A path from a point to itself may visit others twice; but then one of its parts is a shorter negative one, so the shortest ones are circles.
// Each of these is found from each of its points, so the first list begins with its least index.
func (n *net) firstCircle() []int {
	var first []int
	longest := n.points
	for p := range n.points {
		path, is := n.firstPath(p, p, -1, longest)
		if is && (first == nil || compareLists(path, first) < 0) {
			first = path
			longest = len(first)
		}
	}
	return first
}

// compareLists compares lists by their length, then element by element.
func compareLists[T cmp.Ordered](a, b []T) int {
	if c := cmp.Compare(len(a), len(b)); c != 0 {
		return c
	}
	return slices.Compare(a, b)
}

// CheckCircle returns whether a list is a negative circle.
func CheckCircle(s api.System, l []int) (bool, api.Errno) {
	if e := Check(s); e != api.OK {
		return false, e
	}
	if len(l) < 2 || l[0] < 0 || l[0] >= len(s.Bounds) {
		return false, api.OK
	}
	from := s.Bounds[l[0]].From
	to, sum, is := follow(s, l, from)
	return is && to == from && sum < 0 && leavesOnce(s, l), api.OK
}

// leavesOnce says whether no point is From of two of the bounds with some indices.
func leavesOnce(s api.System, l []int) bool {
	var left [api.MaxPoints]bool
	for _, i := range l {
		p := s.Bounds[i].From
		if left[p] {
			return false
		}
		left[p] = true
	}
	return true
}

// Blame returns the records without each of which a system that is not consistent would be.
func Blame(s api.System) ([]int, api.Errno) {
	circle, is, e := Circle(s)
	if e != api.OK || !is {
		return nil, e
	}
	// Whoever is to blame has a bound in every negative circle, so in this one.
	records, _ := Records(s, circle)
	return slices.DeleteFunc(records, func(r int) bool {
		left, _ := Without(s, []int{r})
		return !netOf(left).consistent()
	}), api.OK
}
