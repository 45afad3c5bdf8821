package plan

import (
	"slices"

	"merestone/api"
)

// maxDrawn is how far a value of a witness may lie from 0.
const maxDrawn = 100000000000

// Witness returns two lists of values that agree in all that a set measures, and differ at a point that it does not tie.
func Witness(s api.System, l []api.Measure, set []int, point int) (api.Split, bool, api.Errno) {
	g, e := settled(s, l, isSet(l, set) && arePoints(s.N, point))
	if e != api.OK {
		return api.Split{}, false, e
	}
	c := g.tied(set)
	if c.ties(point) {
		return api.Split{}, false, api.OK
	}
	moves := func(p int) bool { return c[p] == c[point] }
	// A circle of bounds that adds up to 0 lies in one rigid class, so all its points move, or none.
	// Any other one adds up to Times at least, and leads to points that move at most 64 times, as there are 128 points: so Times is at most 64.
	for times := 1; ; times++ {
		if y, is := loose(s, times, moves); is {
			return api.Split{Times: times, One: y, Two: moved(y, moves)}, true, api.OK
		}
	}
}

// loose returns values that keep a system that is enlarged, also if some points move by 1; false if there are none.
func loose(s api.System, times int, moves func(p int) bool) ([]int, bool) {
	var sums [api.MaxPoints]int
	lower := func() bool {
		lowered := false
		for _, b := range s.Bounds {
			most := times * b.Most
			if moves(b.To) && !moves(b.From) {
				most--
			}
			if sums[b.From]+most < sums[b.To] {
				sums[b.To] = sums[b.From] + most
				lowered = true
			}
		}
		return lowered
	}
	// Without a circle of bounds that add up to less than 0 the sums come to rest before each point was lowered by a path through all of them.
	for range s.N {
		if !lower() {
			y := make([]int, s.N)
			for p := range y {
				y[p] = sums[p] - sums[0]
			}
			return y, true
		}
	}
	return nil, false
}

// moved returns values of which those of some points are moved by 1.
func moved(y []int, moves func(p int) bool) []int {
	l := slices.Clone(y)
	for p := range l {
		if moves(p) {
			l[p]++
		}
	}
	return l
}

// CheckWitness says whether a split is a witness for a set and a point.
func CheckWitness(s api.System, l []api.Measure, set []int, point int, x api.Split) (bool, api.Errno) {
	g, e := settled(s, l, isSet(l, set) && arePoints(s.N, point))
	if e != api.OK {
		return false, e
	}
	if !between(1, x.Times, api.MaxTimes) || !keepsEnlarged(s, x.Times, x.One) || !keepsEnlarged(s, x.Times, x.Two) {
		return false, api.OK
	}
	for a, b := range g.pairsOf(set) {
		if x.One[b]-x.One[a] != x.Two[b]-x.Two[a] {
			return false, api.OK
		}
	}
	return x.One[point] != x.Two[point], api.OK
}

// keepsEnlarged says whether a list is values that keep a system that is enlarged.
func keepsEnlarged(s api.System, times int, y []int) bool {
	if len(y) != s.N || y[0] != 0 || !allBetween(-maxDrawn, y, maxDrawn) {
		return false
	}
	return !slices.ContainsFunc(s.Bounds, func(b api.Bound) bool { return y[b.To]-y[b.From] > times*b.Most })
}
