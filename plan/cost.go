package plan

import (
	"iter"
	"slices"

	"merestone/api"
)

// far stands for the cost where there is no set; it is greater than every sum of costs.
const far = 1 << 40

// offer is the cheapest set that was found so far, and its cost.
type offer struct {
	cost int
	set  []int
}

// with returns the offer of all measures of two offers.
func (o offer) with(p offer) offer { return offer{o.cost + p.cost, ascending(o.set, p.set)} }

// offers has an offer for each least point of a rigid class.
type offers [api.MaxPoints]offer

// nowhere returns offers of which none has a set.
func nowhere() offers {
	var o offers
	for p := range o {
		o[p].cost = far
	}
	return o
}

// at returns offers that begin with one point: what ties each point to it.
func (g ground) at(p int) offers {
	o := nowhere()
	o[g.rigid[p]] = offer{}
	return g.settle(o)
}

// settle goes on from offers, measure by measure, until none makes an offer cheaper any more.
func (g ground) settle(o offers) offers {
	lower := func() bool {
		lowered := false
		for i, m := range g.measures {
			a, b := g.rigid[m.A], g.rigid[m.B]
			if o[b].cost < o[a].cost {
				a, b = b, a
			}
			if o[a].cost+m.Cost < o[b].cost {
				o[b] = o[a].with(offer{m.Cost, []int{i}})
				lowered = true
			}
		}
		return lowered
	}
	for lower() {
	}
	return o
}

// group tells which ones of some points belong together.
type group [api.MaxTree]bool

// members returns the indices of the points of a group.
func (g group) members() []int {
	var l []int
	for i, is := range g {
		if is {
			l = append(l, i)
		}
	}
	return l
}

// halves yields each way to make two groups of one, once: the first point is always in the second one.
func (g group) halves() iter.Seq2[group, group] {
	return func(yield func(group, group) bool) {
		others := g.members()[1:]
		for pick := 1; pick < 1<<len(others); pick++ {
			one, two := group{}, g
			for i, m := range others {
				one[m] = pick>>i&1 == 1
				two[m] = !one[m]
			}
			if !yield(one, two) {
				return
			}
		}
	}
}

// tree returns what ties points to the point 0. It finds for each group of them, beginning with the small ones, what ties it to each point:
// where the sets of two groups meet they are taken together, and the offers go on from there.
func (g ground) tree(points []int) offer {
	known := map[group]offers{}
	var tie func(of group) offers
	tie = func(of group) offers {
		if o, is := known[of]; is {
			return o
		}
		o := nowhere()
		if members := of.members(); len(members) == 1 {
			o[g.rigid[points[members[0]]]] = offer{}
		}
		for one, two := range of.halves() {
			a, b := tie(one), tie(two)
			for p := range o {
				if a[p].cost+b[p].cost < o[p].cost {
					o[p] = a[p].with(b[p])
				}
			}
		}
		known[of] = g.settle(o)
		return known[of]
	}
	var all group
	for i := range points {
		all[i] = true
	}
	return tie(all)[0]
}

// Costs returns the least cost of a set that ties each point; -1 where none does.
func Costs(s api.System, l []api.Measure) ([]int, api.Errno) {
	g, e := settled(s, l, true)
	if e != api.OK {
		return nil, e
	}
	o := g.at(0)
	costs := make([]int, s.N)
	for p := range costs {
		costs[p] = o[g.rigid[p]].cost
		if costs[p] == far {
			costs[p] = -1
		}
	}
	return costs, api.OK
}

// Cheapest returns the cheapest set that ties a point, with values that show that none is cheaper.
func Cheapest(s api.System, l []api.Measure, point int) (api.Errand, api.Errno) {
	g, e := settled(s, l, arePoints(s.N, point))
	if e != api.OK {
		return api.Errand{}, e
	}
	o := g.at(0)
	best := o[g.rigid[point]]
	if best.cost == far {
		return api.Errand{}, api.ErrFar
	}
	x := api.Errand{Set: best.set, Cost: best.cost}
	for p := range s.N {
		// Whatever lies further away than the point counts as being as far, also what no set ties.
		x.Values = append(x.Values, min(o[g.rigid[p]].cost, best.cost))
	}
	return x, api.OK
}

// CheckCheapest says whether an errand ties a point, and shows that no set that does is cheaper.
func CheckCheapest(s api.System, l []api.Measure, point int, x api.Errand) (bool, api.Errno) {
	g, e := settled(s, l, arePoints(s.N, point))
	if e != api.OK {
		return false, e
	}
	if !isSet(l, x.Set) || !g.tied(x.Set).ties(point) || g.costOf(x.Set) != x.Cost {
		return false, api.OK
	}
	return g.showsFar(x.Values) && x.Values[point] == x.Cost, api.OK
}

// costOf returns the cost of a set.
func (g ground) costOf(set []int) int {
	sum := 0
	for _, i := range set {
		sum += g.measures[i].Cost
	}
	return sum
}

// showsFar says whether values grow from the point 0 on by no more than measures cost, so that no set that ties a point costs less than its value.
func (g ground) showsFar(values []int) bool {
	if len(values) != g.points || !allBetween(0, values, maxFar) || values[0] != 0 {
		return false
	}
	for p, v := range values {
		if v != values[g.rigid[p]] {
			return false
		}
	}
	return !slices.ContainsFunc(g.measures, func(m api.Measure) bool {
		return !between(-m.Cost, values[m.B]-values[m.A], m.Cost)
	})
}

// Tree returns the cheapest set that ties some points.
func Tree(s api.System, l []api.Measure, points []int) (api.Errand, api.Errno) {
	if e := checked(s, l, arePoints(s.N, points...)); e != api.OK {
		return api.Errand{}, e
	}
	if len(points) > api.MaxTree {
		return api.Errand{}, api.ErrLimit
	}
	g, e := groundOf(s, l)
	if e != api.OK || len(points) == 0 {
		return api.Errand{}, e
	}
	best := g.tree(points)
	if best.cost == far {
		return api.Errand{}, api.ErrFar
	}
	return api.Errand{Set: best.set, Cost: best.cost}, api.OK
}
