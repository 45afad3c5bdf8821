package line_test

import (
	"math"
	"math/rand/v2"
	"slices"
	"testing"

	"merestone/api"
	"merestone/expect"
	"merestone/line"
)

// A3: systems with and without negative circles, and which circle is the first.
func TestCircle(t *testing.T) {
	for _, x := range []struct {
		name string
		s    api.System
		want []int
	}{
		{"the chapter's", chapter(), nil},
		{"the chapter's contradiction", contradiction(), []int{0, 2, 5}},
		{"one point", api.System{N: 1}, nil},
		{"no bounds", api.System{N: 128}, nil},
		{"a circle of 0", api.System{N: 2, Bounds: []api.Bound{{From: 0, To: 1, Most: 4}, {From: 1, To: 0, Most: -4}}}, nil},
		{"a circle of -1", api.System{N: 2, Bounds: []api.Bound{{From: 0, To: 1, Most: 4}, {From: 1, To: 0, Most: -5}}}, []int{0, 1}},
		{"the least index first", api.System{N: 3, Bounds: []api.Bound{{From: 2, To: 0, Most: -1}, {From: 1, To: 2}, {From: 0, To: 1}}}, []int{0, 2, 1}},
		{"away from the point 0", api.System{N: 4, Bounds: []api.Bound{{From: 0, To: 1}, {From: 3, To: 2, Most: 1}, {From: 2, To: 3, Most: -2}}}, []int{1, 2}},
		{"a short one before an early one", api.System{N: 5, Bounds: []api.Bound{{From: 0, To: 1, Most: -9}, {From: 1, To: 2}, {From: 2, To: 0}, {From: 3, To: 4}, {From: 4, To: 3, Most: -1}}}, []int{3, 4}},
		{"a short one before a more negative one", api.System{N: 3, Bounds: []api.Bound{{From: 0, To: 1, Most: -100}, {From: 1, To: 2}, {From: 2, To: 0}, {From: 1, To: 0, Most: 99}}}, []int{0, 3}},
		{"of two bounds the first that is enough", api.System{N: 2, Bounds: []api.Bound{{From: 0, To: 1, Most: 3}, {From: 0, To: 1, Most: 2}, {From: 0, To: 1, Most: 1}, {From: 1, To: 0, Most: -3}, {From: 1, To: 0, Most: -8}}}, []int{0, 4}},
		{"of two circles the one with the lesser second bound", api.System{N: 3, Bounds: []api.Bound{{From: 0, To: 1, Most: -5}, {From: 1, To: 2, Most: 1}, {From: 1, To: 2}, {From: 2, To: 0, Most: 1}, {From: 2, To: 0}}}, []int{0, 1, 3}},
		{"two that share a point", api.System{N: 3, Bounds: []api.Bound{{From: 0, To: 1, Most: 5}, {From: 1, To: 0, Most: -4}, {From: 1, To: 2, Most: -3}, {From: 2, To: 1, Most: 2}}}, []int{2, 3}},
		{"equal ones of two points", api.System{N: 4, Bounds: []api.Bound{{From: 2, To: 3, Most: -1}, {From: 0, To: 1, Most: -1}, {From: 1, To: 0}, {From: 3, To: 2}}}, []int{0, 3}},
	} {
		l, is, e := line.Circle(x.s)
		expect.List(t, x.name, l, x.want...)
		expect.Equal(t, x.name, is, x.want != nil)
		expect.Errno(t, x.name, e, api.OK)
		ok, e := line.Consistent(x.s)
		expect.Equal(t, x.name, ok, x.want == nil)
		expect.Errno(t, x.name, e, api.OK)
	}
}

// A3: the sum of the chapter's circle.
func TestCircleSum(t *testing.T) {
	l, _, _ := line.Circle(contradiction())
	expect.Equal(t, "its sum", sumOf(contradiction(), l), -1)
}

// A3: circles of all 128 points.
func TestLongCircle(t *testing.T) {
	for _, x := range []struct {
		back int
		want bool
	}{{-126, false}, {-127, false}, {-128, true}} {
		s := chain(128, 1)
		s.Bounds = append(s.Bounds, api.Bound{From: 127, To: 0, Most: x.back})
		l, is, e := line.Circle(s)
		expect.Equal(t, "Circle", is, x.want)
		expect.Errno(t, "Circle", e, api.OK)
		ok, _ := line.Consistent(s)
		expect.Equal(t, "Consistent", ok, !x.want)
		if x.want {
			expect.Equal(t, "its length", len(l), 128)
			expect.Equal(t, "its first bound", l[0], 0)
			expect.Equal(t, "its last bound", l[127], 127)
			ok, e := line.CheckCircle(s, l)
			expect.Equal(t, "CheckCircle", ok, true)
			expect.Errno(t, "CheckCircle", e, api.OK)
		}
	}
	s := chain(128, -1000000)
	s.Bounds = append(s.Bounds, api.Bound{From: 127, To: 0, Most: -1000000})
	l, is, _ := line.Circle(s)
	expect.Equal(t, "the most negative circle", is, true)
	expect.Equal(t, "its sum", sumOf(s, l), -128000000)
}

// A3, P1.1: Circle is what a search through all circles finds first.
func TestCircleIsFirst(t *testing.T) {
	found := 0
	eachRandom(t, 4000, func(t *testing.T, r *rand.Rand, s api.System) {
		want, is := firstNegative(s)
		l, got, e := line.Circle(s)
		expect.Errno(t, "Circle", e, api.OK)
		expect.List(t, "Circle", l, want...)
		expect.Equal(t, "Circle", got, is)
		ok, _ := line.Consistent(s)
		expect.Equal(t, "Consistent", ok, !is)
		y, e := line.Some(s)
		expect.Equal(t, "Some finds values", e == api.OK && len(y) == s.N, !is)
		if is {
			found++
			ok, e := line.CheckCircle(s, l)
			expect.Equal(t, "CheckCircle", ok, true)
			expect.Errno(t, "CheckCircle", e, api.OK)
			expect.Errno(t, "Some", e, api.OK)
		}
		if t.Failed() {
			t.Log(s)
		}
	})
	if found < 800 {
		t.Errorf("only %d contradictions", found)
	}
}

// A3: what CheckCircle accepts.
func TestCheckCircle(t *testing.T) {
	bad := plus(contradiction(), api.Bound{From: 0, To: 2, Most: -50, Record: 6}, api.Bound{From: 2, To: 3, Most: 50}, api.Bound{From: 3, To: 2, Most: -50})
	for _, x := range []struct {
		name string
		l    []int
		want bool
	}{
		{"the circle", []int{0, 2, 5}, true},
		{"from its second bound", []int{2, 5, 0}, true},
		{"from its third bound", []int{5, 0, 2}, true},
		{"a shorter one", []int{5, 6}, true},
		{"a sum of 0", []int{4, 5}, false},
		{"a sum of 0, away from the point 0", []int{7, 8}, false},
		{"not negative", []int{0, 1}, false},
		{"not closed", []int{6, 7}, false},
		{"not in order", []int{0, 5, 2}, false},
		{"backwards", []int{5, 2, 0}, false},
		{"no list", nil, false},
		{"an empty list", []int{}, false},
		{"one bound", []int{6}, false},
		{"two circles that share a point", []int{6, 7, 8, 5}, false},
		{"twice the same", []int{5, 6, 5, 6}, false},
		{"through the point 0 twice", []int{0, 1, 6, 5}, false},
		{"through the first point within", []int{2, 3, 2, 5, 0}, false},
		{"beyond the last bound", []int{0, 2, 9}, false},
		{"before the first bound", []int{0, 2, -1}, false},
		{"begins beyond the last bound", []int{9, 0}, false},
		{"begins before the first bound", []int{-1, 0}, false},
		{"far away", []int{math.MaxInt, math.MinInt}, false},
		{"far away behind", []int{0, math.MaxInt}, false},
	} {
		ok, e := line.CheckCircle(bad, x.l)
		expect.Equal(t, x.name, ok, x.want)
		expect.Errno(t, x.name, e, api.OK)
	}
	ok, e := line.CheckCircle(api.System{N: 1}, []int{0, 0})
	expect.Equal(t, "no bounds", ok, false)
	expect.Errno(t, "no bounds", e, api.OK)
	ok, e = line.CheckCircle(bad, slices.Repeat([]int{5, 6}, 5000))
	expect.Equal(t, "a very long list", ok, false)
	expect.Errno(t, "a very long list", e, api.OK)
}

// P1.1: CheckCircle accepts exactly the negative circles, beginning with any bound.
func TestCheckCircleIsExact(t *testing.T) {
	eachRandom(t, 600, func(t *testing.T, r *rand.Rand, s api.System) {
		for p := range s.N {
			eachPath(s, p, p, func(l []int) {
				ok, e := line.CheckCircle(s, l)
				expect.Equal(t, "CheckCircle", ok, sumOf(s, l) < 0)
				expect.Errno(t, "CheckCircle", e, api.OK)
				ok, _ = line.CheckCircle(s, l[1:])
				expect.Equal(t, "CheckCircle of a part", ok, false)
			})
		}
	})
}

// A4: who is to blame.
func TestBlame(t *testing.T) {
	two := api.System{N: 4, Bounds: []api.Bound{{From: 0, To: 1, Most: -1, Record: 1}, {From: 1, To: 0, Record: 2}, {From: 2, To: 3, Most: -1, Record: 3}, {From: 3, To: 2, Record: 4}}}
	for _, x := range []struct {
		name string
		s    api.System
		want []int
	}{
		{"the chapter's", contradiction(), []int{1, 3, 5}},
		{"a consistent system", chapter(), nil},
		{"no bounds", api.System{N: 1}, nil},
		{"nature alone", api.System{N: 2, Bounds: []api.Bound{{From: 0, To: 1, Most: -1}, {From: 1, To: 0}}}, nil},
		{"nature and a record", api.System{N: 2, Bounds: []api.Bound{{From: 0, To: 1, Most: -1}, {From: 1, To: 0, Record: 1000000}}}, []int{1000000}},
		{"two circles", two, nil},
		{"two circles of one record", plus(two, api.Bound{From: 0, To: 1, Most: -3, Record: 3}, api.Bound{From: 2, To: 3, Most: -3, Record: 2}), nil},
		{"one record with bounds in both circles", api.System{N: 4, Bounds: []api.Bound{{From: 0, To: 1, Most: -1, Record: 9}, {From: 1, To: 0, Record: 7}, {From: 2, To: 3, Most: -1, Record: 8}, {From: 3, To: 2, Record: 7}}}, []int{7}},
		{"descending records", api.System{N: 3, Bounds: []api.Bound{{From: 0, To: 1, Most: -1, Record: 9}, {From: 1, To: 2, Record: 7}, {From: 2, To: 0, Record: 8}}}, []int{7, 8, 9}},
		{"one record alone", api.System{N: 2, Bounds: []api.Bound{{From: 0, To: 1, Most: -1, Record: 4}, {From: 1, To: 0, Record: 4}}}, []int{4}},
		{"a record twice on one way", api.System{N: 2, Bounds: []api.Bound{{From: 0, To: 1, Most: -1, Record: 4}, {From: 0, To: 1, Most: -2, Record: 5}, {From: 1, To: 0, Record: 6}}}, []int{6}},
	} {
		l, e := line.Blame(x.s)
		expect.List(t, x.name, l, x.want...)
		expect.Errno(t, x.name, e, api.OK)
	}
}

// A4, P1.8: a Record is to blame exactly if it has a bound in every negative circle.
func TestBlameIsExact(t *testing.T) {
	blamed := 0
	eachRandom(t, 3000, func(t *testing.T, r *rand.Rand, s api.System) {
		var want []int
		if _, is := measured(s); !is {
			want = inEveryCircle(s)
		}
		l, e := line.Blame(s)
		expect.List(t, "Blame", l, want...)
		expect.Errno(t, "Blame", e, api.OK)
		blamed += len(l)
	})
	if blamed < 500 {
		t.Errorf("only %d Records to blame", blamed)
	}
}

// inEveryCircle returns the Records greater than 0 with a bound in every negative circle.
func inEveryCircle(s api.System) []int {
	l := []int{1, 2, 3, 4}
	for p := range s.N {
		eachPath(s, p, p, func(circle []int) {
			if sumOf(s, circle) < 0 {
				l = slices.DeleteFunc(l, func(r int) bool {
					return !slices.ContainsFunc(circle, func(i int) bool { return s.Bounds[i].Record == r })
				})
			}
		})
	}
	return l
}
