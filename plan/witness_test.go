package plan_test

import (
	"math"
	"math/rand/v2"
	"slices"
	"testing"

	"merestone/api"
	"merestone/expect"
	"merestone/plan"
)

// isWitness says whether a split is a witness, by the three conditions of the chapter.
func isWitness(s api.System, l []api.Measure, set []int, point int, x api.Split) bool {
	if x.Times < 1 || x.Times > 200 || len(x.One) != s.N || len(x.Two) != s.N {
		return false
	}
	for _, y := range [][]int{x.One, x.Two} {
		if slices.Min(y) < -100000000000 || slices.Max(y) > 100000000000 || !keeps(s, x.Times, y) {
			return false
		}
	}
	for _, i := range set {
		a, b := l[i].A, l[i].B
		if x.One[b]-x.One[a] != x.Two[b]-x.Two[a] {
			return false
		}
	}
	return x.One[point] != x.Two[point]
}

// F9, P6.2: there is a witness exactly for what a set does not tie, and CheckWitness accepts it, but none for what is tied.
func TestWitness(t *testing.T) {
	open := 0
	eachGround(t, 500, func(r *rand.Rand, s api.System, y []int, l []api.Measure) {
		set := randomSet(r, len(l))
		for p := range s.N {
			x, is, e := plan.Witness(s, l, set, p)
			expect.Errno(t, "Witness", e, api.OK)
			if tiesAll(s, l, set, p) {
				expect.Equal(t, "a witness for what is tied", is || x.Times != 0 || len(x.One)+len(x.Two) > 0, false)
				continue
			}
			expect.Equal(t, "a witness", is, true)
			expect.Equal(t, "the witness is right", isWitness(s, l, set, p, x), true)
			for q := range s.N {
				is, e := plan.CheckWitness(s, l, set, q, x)
				expect.Errno(t, "CheckWitness", e, api.OK)
				expect.Equal(t, "CheckWitness", is, isWitness(s, l, set, q, x))
				expect.Equal(t, "no witness for what is tied", is && tiesAll(s, l, set, q), false)
			}
			open++
		}
	})
	enough(t, "a point that is open", open, 300)
}

// F10, P6.2: CheckWitness accepts just what the chapter says, and nothing for points that are tied.
func TestCheckWitnessIsRight(t *testing.T) {
	counts := map[bool]int{}
	eachGround(t, 500, func(r *rand.Rand, s api.System, y []int, l []api.Measure) {
		set := randomSet(r, len(l))
		for range 20 {
			x := api.Split{Times: 1 + r.IntN(3), One: make([]int, s.N), Two: make([]int, s.N)}
			for p := 1; p < s.N; p++ {
				x.One[p] = x.Times * y[p]
				x.Two[p] = x.One[p] + r.IntN(2)
			}
			p := r.IntN(s.N)
			is, e := plan.CheckWitness(s, l, set, p, x)
			expect.Errno(t, "CheckWitness", e, api.OK)
			expect.Equal(t, "CheckWitness", is, isWitness(s, l, set, p, x))
			expect.Equal(t, "no witness for what is tied", is && tiesAll(s, l, set, p), false)
			counts[is]++
		}
	})
	enough(t, "a witness that is accepted", counts[true], 100)
	enough(t, "a witness that is not accepted", counts[false], 100)
}

// split is the witness of the chapter's examples, for the measure 1 and the point 2.
func split() api.Split { return api.Split{Times: 1, One: []int{0, 1, 6, 3}, Two: []int{0, 2, 7, 3}} }

// F10: witnesses that are wrong in one place each.
func TestCheckWitness(t *testing.T) {
	type change = func(x *api.Split)
	for _, c := range []struct {
		name   string
		point  int
		change change
		want   bool
	}{
		{"the chapter's", 2, func(x *api.Split) {}, true},
		{"of the point 1", 1, func(x *api.Split) {}, true},
		{"of a point that is tied", 3, func(x *api.Split) {}, false},
		{"of the point 0", 0, func(x *api.Split) {}, false},
		{"the other way", 2, func(x *api.Split) { x.One, x.Two = x.Two, x.One }, true},
		{"one list twice", 2, func(x *api.Split) { x.One = x.Two }, false},
		{"Times 0", 2, func(x *api.Split) { x.Times = 0 }, false},
		{"Times -1", 2, func(x *api.Split) { x.Times = -1 }, false},
		{"too few of One", 2, func(x *api.Split) { x.One = x.One[:3] }, false},
		{"too many of One", 2, func(x *api.Split) { x.One = append(x.One, 0) }, false},
		{"none of One", 2, func(x *api.Split) { x.One = nil }, false},
		{"too few of Two", 2, func(x *api.Split) { x.Two = x.Two[:3] }, false},
		{"too many of Two", 2, func(x *api.Split) { x.Two = append(x.Two, 0) }, false},
		{"none of Two", 2, func(x *api.Split) { x.Two = nil }, false},
		{"a value of the point 0 in One", 2, func(x *api.Split) { x.One[0] = 1 }, false},
		{"a value of the point 0 in Two", 2, func(x *api.Split) { x.Two[0] = -1 }, false},
		{"One does not keep the system", 2, func(x *api.Split) { x.One[1] = 2 }, false},
		{"Two does not keep the system", 2, func(x *api.Split) { x.Two[2] = 11; x.Two[1] = 6 }, false},
		{"just kept", 2, func(x *api.Split) { x.Two[2] = 10; x.Two[1] = 5 }, true},
		{"they differ in what is measured", 2, func(x *api.Split) { x.Two[3] = 4 }, false},
		{"the last value far away", 2, func(x *api.Split) { x.Two[3] = math.MinInt }, false},
	} {
		x := split()
		c.change(&x)
		is, e := plan.CheckWitness(ground(), offered(), []int{1}, c.point, x)
		expect.Errno(t, c.name, e, api.OK)
		expect.Equal(t, c.name, is, c.want)
	}
}

// F10: Times and values at their ends.
func TestEndsOfWitnesses(t *testing.T) {
	s := plus(api.System{N: 3}, bound(0, 1, 3, 1))
	l := []api.Measure{{A: 1, B: 2, Cost: 1}, {A: 0, B: 2, Cost: 1}}
	for times, want := range map[int]bool{math.MinInt: false, -1: false, 0: false, 1: true, 200: true, 201: false, math.MaxInt: false} {
		is, e := plan.CheckWitness(s, l, []int{0}, 1, api.Split{Times: times, One: []int{0, 1, 5}, Two: []int{0, 0, 4}})
		expect.Errno(t, "CheckWitness", e, api.OK)
		expect.Equal(t, "Times", is, want)
	}
	for v, want := range map[int]bool{
		-100000000000: true, -100000000001: false, 100000000000: true, 100000000001: false, math.MinInt: false, math.MaxInt: false,
	} {
		for _, x := range []api.Split{{Times: 1, One: []int{0, 0, v}, Two: []int{0, 0, 4}}, {Times: 1, One: []int{0, 0, 4}, Two: []int{0, 0, v}}} {
			is, e := plan.CheckWitness(s, l, nil, 2, x)
			expect.Errno(t, "CheckWitness", e, api.OK)
			expect.Equal(t, "a value at its end", is, want)
		}
	}
	for v, want := range map[int]bool{600: true, 601: false} {
		is, e := plan.CheckWitness(s, l, nil, 1, api.Split{Times: 200, One: []int{0, v, 0}, Two: []int{0, 0, 0}})
		expect.Errno(t, "CheckWitness", e, api.OK)
		expect.Equal(t, "a bound that is enlarged", is, want)
	}
}

// around is a circle of 128 points that adds up to most, of which every other point is tied to the next but one.
func around(most int) (api.System, []api.Measure, []int) {
	s := api.System{N: 128}
	var l []api.Measure
	var set []int
	for p := range 128 {
		s.Bounds = append(s.Bounds, bound(p, (p+1)%128, most*(p/127), 1))
		if p%2 == 1 && p > 1 {
			set = append(set, len(l))
			l = append(l, api.Measure{A: p - 2, B: p, Cost: 1})
		}
	}
	return s, l, set
}

// F9: where points that move together are entered again and again, the unit must be finer.
func TestWitnessOfFineUnit(t *testing.T) {
	for _, most := range []int{1, 2, 63, 64, 1000000} {
		s, l, set := around(most)
		x, is, e := plan.Witness(s, l, set, 127)
		expect.Errno(t, "Witness", e, api.OK)
		expect.Equal(t, "Witness", is, true)
		expect.Equal(t, "the witness is right", isWitness(s, l, set, 127, x), true)
		is, e = plan.CheckWitness(s, l, set, 127, x)
		expect.Errno(t, "CheckWitness", e, api.OK)
		expect.Equal(t, "CheckWitness", is, true)
	}
	s, l, set := around(0)
	_, is, e := plan.Witness(s, l, set, 127)
	expect.Errno(t, "Witness of what is rigid", e, api.OK)
	expect.Equal(t, "Witness of what is rigid", is, false)
}

// F9: bounds at their ends, along many points.
func TestGreatWitness(t *testing.T) {
	s := api.System{N: 128}
	for p := 1; p < 128; p++ {
		s.Bounds = append(s.Bounds, bound(p-1, p, -1000000, 1))
	}
	for _, p := range []int{1, 64, 127} {
		for _, set := range [][]int{nil, {0}} {
			l := []api.Measure{{A: 127, B: 126, Cost: 0}}
			x, is, e := plan.Witness(s, l, set, p)
			expect.Errno(t, "Witness", e, api.OK)
			expect.Equal(t, "Witness", is && isWitness(s, l, set, p, x), true)
		}
	}
}
