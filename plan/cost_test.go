package plan_test

import (
	"math"
	"math/rand/v2"
	"slices"
	"testing"

	"merestone/api"
	"merestone/expect"
	"merestone/plan"
)

// F4, F5, P6.3: costs are the least ones of all sets, and errands have them.
func TestCosts(t *testing.T) {
	none, some := 0, 0
	eachGround(t, 300, func(r *rand.Rand, s api.System, y []int, l []api.Measure) {
		costs, e := plan.Costs(s, l)
		expect.Errno(t, "Costs", e, api.OK)
		expect.Equal(t, "as many as points", len(costs), s.N)
		for p := range s.N {
			want := least(s, l, p)
			expect.Equal(t, "Costs", costs[p], want)
			x, e := plan.Cheapest(s, l, p)
			if want < 0 {
				expect.Errno(t, "Cheapest of what nothing ties", e, api.ErrFar)
				expect.Equal(t, "Cheapest of what nothing ties", x.Cost+len(x.Set)+len(x.Values), 0)
				none++
				continue
			}
			expect.Errno(t, "Cheapest", e, api.OK)
			shows(t, s, l, p, x, want)
			some += len(x.Set)
		}
	})
	enough(t, "a point that nothing ties", none, 100)
	enough(t, "a measure of an errand", some, 200)
}

// shows fails unless an errand for a point is as it should be.
func shows(t *testing.T, s api.System, l []api.Measure, p int, x api.Errand, cost int) {
	t.Helper()
	expect.Equal(t, "the Set ties the point", tiesAll(s, l, x.Set, p), true)
	expect.Equal(t, "the Cost of the Set", costOf(l, x.Set), cost)
	expect.Equal(t, "the Cost", x.Cost, cost)
	expect.Equal(t, "a set ascends", slices.IsSorted(x.Set) && len(slices.Compact(slices.Clone(x.Set))) == len(x.Set), true)
	expect.Equal(t, "the value of the point", x.Values[p], cost)
	is, e := plan.CheckCheapest(s, l, p, x)
	expect.Errno(t, "CheckCheapest", e, api.OK)
	expect.Equal(t, "CheckCheapest", is, true)
}

// P6.3: whatever CheckCheapest accepts has the least cost.
func TestCheckCheapestIsRight(t *testing.T) {
	accepted := 0
	eachGround(t, 300, func(r *rand.Rand, s api.System, y []int, l []api.Measure) {
		for p := range s.N {
			best, _ := plan.Cheapest(s, l, p)
			x := api.Errand{Set: randomSet(r, len(l)), Values: slices.Clone(best.Values)}
			x.Cost = costOf(l, x.Set)
			if best.Values == nil || r.IntN(2) == 0 {
				x.Values = make([]int, s.N)
				for q := 1; q < s.N; q++ {
					x.Values[q] = r.IntN(9)
				}
				x.Values[p] = x.Cost
			}
			is, e := plan.CheckCheapest(s, l, p, x)
			expect.Errno(t, "CheckCheapest", e, api.OK)
			if is {
				expect.Equal(t, "an errand that is accepted", x.Cost, least(s, l, p))
				accepted++
			}
		}
	})
	enough(t, "an errand that is accepted", accepted, 100)
}

// errand is that of the chapter's examples, for the point 1.
func errand() api.Errand { return api.Errand{Set: []int{1, 2}, Cost: 6, Values: []int{0, 6, 6, 4}} }

// F6: errands that are wrong in one place each.
func TestCheckCheapest(t *testing.T) {
	type change = func(x *api.Errand)
	values := func(i, v int) change { return func(x *api.Errand) { x.Values[i] = v } }
	for _, c := range []struct {
		name   string
		change change
		want   bool
	}{
		{"the chapter's", func(x *api.Errand) {}, true},
		{"the set 0 and the cost 7", func(x *api.Errand) { x.Set, x.Cost = []int{0}, 7 }, false},
		{"the set 0 and the cost 7, as a value, too", func(x *api.Errand) { *x = api.Errand{Set: []int{0}, Cost: 7, Values: []int{0, 7, 7, 5}} }, false},
		{"a set that is none", func(x *api.Errand) { x.Set = []int{2, 1} }, false},
		{"an index of -1", func(x *api.Errand) { x.Set = []int{-1, 1, 2} }, false},
		{"an index of the number of measures", func(x *api.Errand) { x.Set = []int{1, 2, 4} }, false},
		{"a measure twice", func(x *api.Errand) { x.Set = []int{1, 1, 2} }, false},
		{"a set that does not tie the point", func(x *api.Errand) { x.Set = []int{2} }, false},
		{"no set", func(x *api.Errand) { x.Set = nil }, false},
		{"a measure too many", func(x *api.Errand) { x.Set = []int{1, 2, 3} }, false},
		{"another cost", func(x *api.Errand) { x.Cost = 5 }, false},
		{"another cost, as a value, too", func(x *api.Errand) { x.Cost, x.Values = 5, []int{0, 5, 5, 4} }, false},
		{"a cost far away", func(x *api.Errand) { x.Cost = math.MinInt }, false},
		{"too few values", func(x *api.Errand) { x.Values = x.Values[:3] }, false},
		{"too many values", func(x *api.Errand) { x.Values = append(x.Values, 0) }, false},
		{"no values", func(x *api.Errand) { x.Values = nil }, false},
		{"a value of the point 0", values(0, 1), false},
		{"a value of the point that is too small", values(1, 5), false},
		{"the same in its whole class", func(x *api.Errand) { x.Values = []int{0, 5, 5, 4} }, false},
		{"values that are not equal in a rigid class", values(2, 5), false},
		{"less for another point", values(3, 3), false},
		{"more for another point", values(3, 5), false},
		{"a value of -1", values(3, -1), false},
		{"the least value", values(3, math.MinInt), false},
		{"the greatest value", values(3, math.MaxInt), false},
	} {
		x := errand()
		c.change(&x)
		is, e := plan.CheckCheapest(ground(), offered(), 1, x)
		expect.Errno(t, c.name, e, api.OK)
		expect.Equal(t, c.name, is, c.want)
	}
	is, e := plan.CheckCheapest(ground(), offered(), 3, errand())
	expect.Errno(t, "of another point", e, api.OK)
	expect.Equal(t, "of another point", is, false)
	is, _ = plan.CheckCheapest(ground(), offered(), 2, errand())
	expect.Equal(t, "of a point that is rigidly joined", is, true)
}

// F6: values at their ends, of points that nothing holds.
func TestValuesOfErrands(t *testing.T) {
	s := api.System{N: 3}
	l := []api.Measure{{A: 0, B: 1, Cost: 5}}
	for v, want := range map[int]bool{-1: false, 0: true, 5: true, 20000000: true, 20000001: false} {
		is, e := plan.CheckCheapest(s, l, 1, api.Errand{Set: []int{0}, Cost: 5, Values: []int{0, 5, v}})
		expect.Errno(t, "CheckCheapest", e, api.OK)
		expect.Equal(t, "CheckCheapest", is, want)
	}
	is, e := plan.CheckCheapest(s, l, 0, api.Errand{Values: []int{0, 3, 20000000}})
	expect.Errno(t, "of the point 0", e, api.OK)
	expect.Equal(t, "of the point 0", is, true)
	x, e := plan.Cheapest(s, l, 0)
	expect.Errno(t, "Cheapest of the point 0", e, api.OK)
	expect.Equal(t, "Cheapest of the point 0", x.Cost+len(x.Set), 0)
	expect.List(t, "its values", x.Values, 0, 0, 0)
	x, _ = plan.Cheapest(s, l, 1)
	expect.List(t, "values where nothing ties a point", x.Values, 0, 5, 5)
	_, e = plan.Cheapest(s, l, 2)
	expect.Errno(t, "Cheapest of what nothing ties", e, api.ErrFar)
}

// F7, P6.3: trees are the cheapest ones of all sets.
func TestTree(t *testing.T) {
	none, meet := 0, 0
	eachGround(t, 1000, func(r *rand.Rand, s api.System, y []int, l []api.Measure) {
		var points []int
		for range r.IntN(7) {
			points = append(points, r.IntN(s.N))
		}
		want := least(s, l, points...)
		x, e := plan.Tree(s, l, points)
		expect.Equal(t, "no Values", len(x.Values), 0)
		if want < 0 {
			expect.Errno(t, "Tree of what nothing ties", e, api.ErrFar)
			expect.Equal(t, "Tree of what nothing ties", x.Cost+len(x.Set), 0)
			none++
			return
		}
		expect.Errno(t, "Tree", e, api.OK)
		expect.Equal(t, "Tree", x.Cost, want)
		expect.Equal(t, "the cost of its set", costOf(l, x.Set), want)
		expect.Equal(t, "its set ties", tiesAll(s, l, x.Set, points...), true)
		expect.Equal(t, "a set ascends", slices.IsSorted(x.Set) && len(slices.Compact(slices.Clone(x.Set))) == len(x.Set), true)
		costs, _ := plan.Costs(s, l)
		sum := 0
		for _, p := range points {
			expect.Equal(t, "at least the cost of each", x.Cost >= costs[p], true)
			sum += costs[p]
		}
		expect.Equal(t, "at most their sum", x.Cost <= sum, true)
		if x.Cost < sum && len(x.Set) > 2 {
			meet++
		}
	})
	enough(t, "points that nothing ties", none, 50)
	enough(t, "ways that meet", meet, 30)
}

// star is a system without bounds of which each of 6 points is dear to measure from the point 0, and cheap from the point 7.
func star() (api.System, []api.Measure) {
	var l []api.Measure
	for p := 1; p <= 6; p++ {
		l = append(l, api.Measure{A: 0, B: p, Cost: 30}, api.Measure{A: 7, B: p, Cost: 10})
	}
	return api.System{N: 8}, append(l, api.Measure{A: 7, B: 0, Cost: 25})
}

// F7: 6 points that meet in one that was not asked for, 7 points, none, the point 0, and points that are given twice.
func TestTreePoints(t *testing.T) {
	s, l := star()
	for _, x := range []struct {
		name   string
		points []int
		cost   int
		want   api.Errno
	}{
		{"none", nil, 0, api.OK},
		{"the point 0", []int{0}, 0, api.OK},
		{"one", []int{1}, 30, api.OK},
		{"one twice", []int{1, 1}, 30, api.OK},
		{"one and the point 0", []int{0, 1, 0}, 30, api.OK},
		{"two", []int{1, 2}, 45, api.OK},
		{"two twice", []int{2, 1, 2, 1}, 45, api.OK},
		{"three", []int{6, 3, 1}, 55, api.OK},
		{"six", []int{1, 2, 3, 4, 5, 6}, 85, api.OK},
		{"six with the middle", []int{7, 2, 3, 4, 5, 6}, 75, api.OK},
		{"seven", []int{1, 2, 3, 4, 5, 6, 7}, 0, api.ErrLimit},
		{"seven times one", []int{1, 1, 1, 1, 1, 1, 1}, 0, api.ErrLimit},
		{"seven, a wrong one", []int{1, 2, 3, 4, 5, 6, 8}, 0, api.ErrArg},
		{"seven, a wrong one first", []int{-1, 2, 3, 4, 5, 6, 7}, 0, api.ErrArg},
	} {
		got, e := plan.Tree(s, l, x.points)
		expect.Errno(t, x.name, e, x.want)
		expect.Equal(t, x.name, got.Cost, x.cost)
	}
	broken := plus(s, bound(0, 1, -1, 1), bound(1, 0, 0, 1))
	_, e := plan.Tree(broken, l, []int{1, 2, 3, 4, 5, 6, 7})
	expect.Errno(t, "seven and a contradiction", e, api.ErrLimit)
	_, e = plan.Tree(broken, nil, []int{1})
	expect.Errno(t, "a contradiction and a point that nothing ties", e, api.ErrCircle)
	_, e = plan.Tree(s, l[2:], []int{2, 1})
	expect.Errno(t, "a tree to what only the middle reaches", e, api.ErrFar)
	_, e = plan.Tree(s, l[1:], []int{2, 1})
	expect.Errno(t, "a tree through the middle", e, api.OK)
}

// F4, F7: costs at their ends, with as many points and measures as there may be.
func TestGreatCosts(t *testing.T) {
	s := api.System{N: 128}
	var l []api.Measure
	for p := range 127 {
		l = append(l, api.Measure{A: 127 - p, B: 126 - p, Cost: 100000})
	}
	for p := range 73 {
		l = append(l, api.Measure{A: p, B: p + 1, Cost: 100000})
	}
	costs, e := plan.Costs(s, l)
	expect.Errno(t, "Costs", e, api.OK)
	for p, cost := range costs {
		expect.Equal(t, "Costs", cost, 100000*p)
	}
	x, e := plan.Cheapest(s, l, 127)
	expect.Errno(t, "Cheapest", e, api.OK)
	shows(t, s, l, 127, x, 12700000)
	x, e = plan.Tree(s, l, []int{127, 20, 40, 60, 80, 100})
	expect.Errno(t, "Tree", e, api.OK)
	expect.Equal(t, "Tree", x.Cost, 12700000)
	expect.Equal(t, "Tree", len(x.Set), 127)
	all := make([]int, 200)
	for i := range all {
		all[i] = i
	}
	left, e := plan.Trim(s, l, all, []int{127})
	expect.Errno(t, "Trim", e, api.OK)
	expect.List(t, "Trim", left, all[:127]...)
}

// F7: trees in a net of many ways: no other tree of a search of its own, that goes on from one tied point to the next one, is cheaper.
func TestGreatTree(t *testing.T) {
	r := rand.New(rand.NewPCG(7, 7))
	s := api.System{N: 128}
	var l []api.Measure
	for range 200 {
		a := r.IntN(128)
		l = append(l, api.Measure{A: a, B: (a + 1 + r.IntN(127)) % 128, Cost: r.IntN(1000)})
	}
	costs, _ := plan.Costs(s, l)
	tied := slices.DeleteFunc(slices.Sorted(slices.Values(r.Perm(128))), func(p int) bool { return costs[p] < 0 })
	enough(t, "a point that is tied", len(tied), 100)
	points := []int{tied[20], tied[40], tied[60], tied[70], tied[80], tied[90]}
	x, e := plan.Tree(s, l, points)
	expect.Errno(t, "Tree", e, api.OK)
	expect.Equal(t, "its set ties", tiesAll(s, l, x.Set, points...), true)
	expect.Equal(t, "its cost", costOf(l, x.Set), x.Cost)
	greedy := slices.Clone(l)
	sum := 0
	for _, p := range points {
		y, _ := plan.Cheapest(s, greedy, p)
		sum += y.Cost
		for _, i := range y.Set {
			greedy[i].Cost = 0 // what is measured once need not be paid again
		}
	}
	expect.Equal(t, "no more than one by one", x.Cost <= sum, true)
	left, _ := plan.Trim(s, l, x.Set, points)
	expect.Equal(t, "trimming saves nothing", costOf(l, left), x.Cost)
}
