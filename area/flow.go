package area

import (
	"iter"
	"math"
	"math/bits"
	"slices"

	"merestone/api"
)

// none stands where there is no path; it is greater than every sum.
const none = math.MaxInt

// reach is the sums of the costs of paths to each point.
type reach [api.MaxPoints]int

// way is where amounts can be pushed: along a bound, or back along one that has an amount. A push adds sign times as much to the bound.
type way struct{ bound, sign, from, to, cost int }

// current is a flow that does not yet carry its weights. What it brings to the points is brought at the least cost: no circle of ways costs less than 0.
type current struct {
	system  api.System
	amounts []int
	lacks   [api.MaxPoints]int // what each point lacks; less than 0: what it has to give
}

// currentOf returns the current in which nothing was pushed yet. The point 0 gives and takes what is left.
func currentOf(s api.System, w []int) *current {
	c := &current{system: s, amounts: make([]int, len(s.Bounds))}
	copy(c.lacks[:], w)
	c.lacks[0] = -sumOf(w[1:])
	return c
}

// ways yields all ways.
func (c *current) ways() iter.Seq[way] {
	return func(yield func(way) bool) {
		for i, b := range c.system.Bounds {
			if !yield(way{bound: i, sign: 1, from: b.From, to: b.To, cost: b.Most}) {
				return
			}
			if c.amounts[i] > 0 && !yield(way{bound: i, sign: -1, from: b.To, to: b.From, cost: -b.Most}) {
				return
			}
		}
	}
}

// settle lowers sums until no way lowers one any more, and returns them with the last way to each point whose sum was lowered.
// As no circle of ways costs less than 0, they come to rest, and last ways never lead round in a circle.
func (c *current) settle(sums reach) (reach, [api.MaxPoints]way) {
	var last [api.MaxPoints]way
	lower := func() bool {
		lowered := false
		for x := range c.ways() {
			if sums[x.from] != none && sums[x.from]+x.cost < sums[x.to] {
				sums[x.to] = sums[x.from] + x.cost
				last[x.to] = x
				lowered = true
			}
		}
		return lowered
	}
	for lower() {
	}
	return sums, last
}

// path returns a shortest path from a point that has an amount to give to one that lacks so much, the last way first; none if there is no path.
func (c *current) path(amount int) []way {
	var sums reach
	for p, lack := range c.lacks {
		if lack > -amount {
			sums[p] = none
		}
	}
	sums, last := c.settle(sums)
	for p, lack := range c.lacks {
		if lack >= amount && sums[p] != none {
			return backFrom(p, last)
		}
	}
	return nil
}

// backFrom returns the last ways to a point, the last one first. A way that was never set has no sign.
func backFrom(p int, last [api.MaxPoints]way) []way {
	var path []way
	for last[p].sign != 0 {
		path = append(path, last[p])
		p = last[p].from
	}
	return path
}

// push pushes an amount along a path, the last way first.
func (c *current) push(path []way, amount int) {
	for _, x := range path {
		c.amounts[x.bound] += x.sign * amount
	}
	c.lacks[path[0].to] -= amount
	c.lacks[path[len(path)-1].from] += amount
}

// fill pushes until the flow carries its weights, and says whether this can be done.
// Great amounts come first: all that was pushed is a multiple of the amount then, so that each way back bears it, and few pushes are left for the next one.
func (c *current) fill() bool {
	amount := 1 << bits.Len(uint(slices.Max(c.lacks[:])))
search:
	for {
		switch path := c.path(amount); {
		case len(path) > 0:
			c.push(path, amount)
		case amount > 1:
			amount /= 2
		default:
			break search
		}
	}
	return c.lacks == [api.MaxPoints]int{}
}

// values returns values that keep the system, and a bound that has an amount with no room left: so their form is the cost of the flow.
func (c *current) values() []int {
	sums, _ := c.settle(reach{})
	y := make([]int, c.system.N)
	for p := range y {
		y[p] = sums[p] - sums[0]
	}
	return y
}
