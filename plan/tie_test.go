package plan_test

import (
	"math"
	"math/rand/v2"
	"slices"
	"testing"

	"merestone/api"
	"merestone/expect"
	"merestone/line"
	"merestone/plan"
)

// F1: what measures are, with the limits and one beyond each.
func TestCheckMeasures(t *testing.T) {
	many := func(count int, m api.Measure) []api.Measure { return slices.Repeat([]api.Measure{m}, count) }
	for _, x := range []struct {
		name string
		n    int
		l    []api.Measure
		want api.Errno
	}{
		{"the chapter's", 4, offered(), api.OK},
		{"none", 4, nil, api.OK},
		{"none of no points", 0, nil, api.OK},
		{"none of less than no points", math.MinInt, nil, api.OK},
		{"one of no points", 0, many(1, api.Measure{B: 1}), api.ErrArg},
		{"one of less than no points", math.MinInt, many(1, api.Measure{B: 1}), api.ErrArg},
		{"a point and itself", 4, many(1, api.Measure{A: 2, B: 2}), api.ErrArg},
		{"the last point", 4, many(1, api.Measure{A: 3, B: 0}), api.OK},
		{"behind the last point", 4, many(1, api.Measure{A: 4, B: 0}), api.ErrArg},
		{"before the first point", 4, many(1, api.Measure{A: -1, B: 0}), api.ErrArg},
		{"to the last point", 4, many(1, api.Measure{B: 3}), api.OK},
		{"to behind the last point", 4, many(1, api.Measure{B: 4}), api.ErrArg},
		{"to before the first point", 4, many(1, api.Measure{B: -1}), api.ErrArg},
		{"the cost 0", 4, many(1, api.Measure{B: 1, Cost: 0}), api.OK},
		{"the cost -1", 4, many(1, api.Measure{B: 1, Cost: -1}), api.ErrArg},
		{"the cost 100000", 4, many(1, api.Measure{B: 1, Cost: 100000}), api.OK},
		{"the cost 100001", 4, many(1, api.Measure{B: 1, Cost: 100001}), api.ErrArg},
		{"the greatest cost", 4, many(1, api.Measure{B: 1, Cost: math.MaxInt}), api.ErrArg},
		{"the least cost", 4, many(1, api.Measure{B: 1, Cost: math.MinInt}), api.ErrArg},
		{"200", 4, many(200, api.Measure{B: 1}), api.OK},
		{"201", 4, many(201, api.Measure{B: 1}), api.ErrLimit},
		{"201 wrong ones", 4, many(201, api.Measure{}), api.ErrLimit},
		{"200 wrong ones", 4, many(200, api.Measure{}), api.ErrArg},
		{"a wrong one behind good ones", 4, append(offered(), api.Measure{A: 1, B: 1}), api.ErrArg},
		{"many points", math.MaxInt, many(1, api.Measure{A: math.MaxInt - 1, B: 1}), api.OK},
	} {
		expect.Errno(t, x.name, plan.CheckMeasures(x.n, x.l), x.want)
	}
}

// F2: the classes are those of flooding, for each set.
func TestTied(t *testing.T) {
	rigid := 0
	eachGround(t, 400, func(r *rand.Rand, s api.System, y []int, l []api.Measure) {
		for _, set := range [][]int{nil, randomSet(r, len(l)), randomSet(r, len(l))} {
			want := classesOf(s, l, set)
			got, e := plan.Tied(s, l, set)
			expect.Errno(t, "Tied", e, api.OK)
			lists(t, "Tied", got, want...)
			for p := range s.N {
				is, e := plan.Ties(s, l, set, p)
				expect.Errno(t, "Ties", e, api.OK)
				expect.Equal(t, "Ties", is, slices.Contains(want[0], p))
			}
			if set == nil && slices.ContainsFunc(want, func(class []int) bool { return len(class) > 2 }) {
				rigid++
			}
		}
	})
	enough(t, "a rigid class of several points", rigid, 40)
}

// F2: classes that are joined late, by measures in any order.
func TestTiedChain(t *testing.T) {
	s := api.System{N: 128}
	var l []api.Measure
	for p := 127; p > 0; p-- {
		l = append(l, api.Measure{A: p, B: (p + 64) % 128})
	}
	set := make([]int, len(l))
	for i := range set {
		set[i] = i
	}
	got, e := plan.Tied(s, l, set)
	expect.Errno(t, "Tied", e, api.OK)
	expect.Equal(t, "the number of classes", len(got), 64)
	for p, class := range got {
		expect.List(t, "a class", class, p, p+64)
	}
	for i := range l {
		l[i] = api.Measure{A: 127 - i, B: 126 - i}
	}
	got, _ = plan.Tied(s, l, set)
	expect.Equal(t, "the number of classes of a chain", len(got), 1)
	is, e := plan.Ties(s, l, set, 127)
	expect.Errno(t, "Ties", e, api.OK)
	expect.Equal(t, "Ties", is, true)
	is, _ = plan.Ties(s, l, set[:126], 127)
	expect.Equal(t, "Ties without the last measure", is, false)
}

// F2, F3, F5, F9: what sets and points are.
func TestSetsAndPoints(t *testing.T) {
	s, l := ground(), offered()
	for _, set := range [][]int{{-1}, {4}, {0, 0}, {1, 0}, {0, 2, 1}, {0, 1, 2, 3, 4}, {math.MaxInt}, {math.MinInt}, {-1, 0}} {
		for _, c := range calls() {
			if c.set {
				a := good()
				a.set = set
				refused(t, "a wrong set", c, a, api.ErrArg)
			}
		}
	}
	for _, p := range []int{-1, 4, math.MinInt, math.MaxInt} {
		for _, c := range calls() {
			a := good()
			a.point, a.points = p, []int{1, p}
			if c.point {
				refused(t, "a wrong point", c, a, api.ErrArg)
			}
		}
	}
	for p, want := range []bool{true, false, false, true} {
		is, e := plan.Ties(s, l, []int{1}, p)
		expect.Errno(t, "Ties", e, api.OK)
		expect.Equal(t, "Ties", is, want)
	}
	is, e := plan.Ties(s, nil, nil, 0)
	expect.Errno(t, "Ties", e, api.OK)
	expect.Equal(t, "the point 0 is tied by nothing", is, true)
	got, e := plan.Tied(s, l, []int{0, 1, 2, 3})
	expect.Errno(t, "Tied", e, api.OK)
	lists(t, "Tied by all", got, []int{0, 1, 2, 3})
}

// P6.2: if a set ties a point, each outcome leaves it one value; values that keep the system keep their outcome.
func TestOutcomeLeavesOneValue(t *testing.T) {
	open := 0
	eachGround(t, 400, func(r *rand.Rand, s api.System, y []int, l []api.Measure) {
		set := randomSet(r, len(l))
		out, e := plan.Outcome(s, l, set, y)
		expect.Errno(t, "Outcome", e, api.OK)
		want := slices.Clone(s.Bounds)
		for _, i := range set {
			a, b := l[i].A, l[i].B
			want = append(want, bound(a, b, y[b]-y[a], 0), bound(b, a, y[a]-y[b], 0))
		}
		expect.Equal(t, "the points of the Outcome", out.N, s.N)
		expect.List(t, "the bounds of the Outcome", out.Bounds, want...)
		expect.Equal(t, "values keep their outcome", keeps(out, 1, y), true)
		for p := range s.N {
			x, e := line.Range(out, p)
			expect.Errno(t, "Range", e, api.OK)
			if tiesAll(s, l, set, p) {
				expect.Equal(t, "the range of what is tied", x, api.Span{Low: y[p], High: y[p], Lowest: true, Highest: true})
			} else if !x.Lowest || !x.Highest || x.Low < x.High {
				open++
			}
		}
	})
	enough(t, "a point that is left open", open, 100)
}

// F3: the errors of Outcome, in their order.
func TestOutcomeErrors(t *testing.T) {
	wide := api.System{N: 3, Bounds: []api.Bound{bound(0, 1, 1000000, 1), bound(1, 2, 1000000, 1)}}
	across := []api.Measure{{A: 0, B: 2, Cost: 1}, {A: 1, B: 2, Cost: 1}}
	full := func(count int) api.System {
		return plus(wide, slices.Repeat([]api.Bound{bound(0, 2, 1000000, 1)}, count-2)...)
	}
	for _, x := range []struct {
		name   string
		s      api.System
		set, y []int
		want   api.Errno
	}{
		{"values", wide, []int{0}, []int{0, 2, 5}, api.OK},
		{"the set of none", wide, nil, []int{0, 2, 5}, api.OK},
		{"values that do not keep the system", wide, nil, []int{0, 1000001, 0}, api.ErrArg},
		{"too few values", wide, nil, []int{0, 2}, api.ErrArg},
		{"too many values", wide, nil, []int{0, 2, 5, 0}, api.ErrArg},
		{"a value of the point 0", wide, nil, []int{1, 2, 5}, api.ErrArg},
		{"a value beyond the greatest one", wide, nil, []int{0, -400000001, 0}, api.ErrArg},
		{"a difference of 1000000", wide, []int{0, 1}, []int{0, 1000000, 1000000}, api.OK},
		{"a difference of 1000001", wide, []int{0}, []int{0, 1000000, 1000001}, api.ErrArg},
		{"such a difference that is not measured", wide, []int{1}, []int{0, 1000000, 1000001}, api.OK},
		{"a difference of -1000000", wide, []int{0}, []int{0, 0, -1000000}, api.OK},
		{"a difference of -1000001", wide, []int{0}, []int{0, 0, -1000001}, api.ErrArg},
		{"a difference of -1000001 behind another one", wide, []int{0, 1}, []int{0, 2, -999999}, api.ErrArg},
		{"2000 bounds", full(1998), []int{0}, []int{0, 2, 5}, api.OK},
		{"2001 bounds", full(1999), []int{0}, []int{0, 2, 5}, api.ErrLimit},
		{"2002 bounds", full(1998), []int{0, 1}, []int{0, 2, 5}, api.ErrLimit},
		{"2000 bounds, nothing measured", full(2000), nil, []int{0, 2, 5}, api.OK},
		{"2002 bounds, a difference of 1000001", full(2000), []int{0}, []int{0, 500000, 1000001}, api.ErrArg},
		{"2002 bounds, values that do not keep the system", full(2000), []int{0}, []int{0, 1000001, 1}, api.ErrArg},
		{"a contradiction", plus(wide, bound(1, 0, -1000000, 1), bound(0, 1, 0, 1)), []int{0}, nil, api.ErrCircle},
		{"a wrong set and a contradiction", plus(wide, bound(1, 0, -1000000, 1), bound(0, 1, 0, 1)), []int{2}, nil, api.ErrArg},
	} {
		got, e := plan.Outcome(x.s, across, x.set, x.y)
		expect.Errno(t, x.name, e, x.want)
		want := 0
		if e == api.OK {
			want = len(x.s.Bounds) + 2*len(x.set)
		}
		expect.Equal(t, x.name+": the number of bounds", len(got.Bounds), want)
	}
}

// F8, P6.4: what is left ties the points, without any one of its measures it does not, and it is what going backwards leaves.
func TestTrim(t *testing.T) {
	left, refused := 0, 0
	eachGround(t, 500, func(r *rand.Rand, s api.System, y []int, l []api.Measure) {
		set := randomSet(r, len(l))
		var points []int
		for range r.IntN(4) {
			points = append(points, r.IntN(s.N))
		}
		got, e := plan.Trim(s, l, set, points)
		if !tiesAll(s, l, set, points...) {
			expect.Errno(t, "Trim of what does not tie", e, api.ErrFar)
			expect.List(t, "Trim of what does not tie", got)
			refused++
			return
		}
		want := slices.Clone(set)
		for _, i := range slices.Backward(set) {
			without := slices.DeleteFunc(slices.Clone(want), func(k int) bool { return k == i })
			if tiesAll(s, l, without, points...) {
				want = without
			}
		}
		expect.Errno(t, "Trim", e, api.OK)
		expect.List(t, "Trim", got, want...)
		expect.Equal(t, "what is left ties", tiesAll(s, l, got, points...), true)
		for i := range got {
			expect.Equal(t, "without one it does not", tiesAll(s, l, slices.Delete(slices.Clone(got), i, i+1), points...), false)
		}
		if len(got) > 0 && len(got) < len(set) {
			left++
		}
	})
	enough(t, "something is left, and something is not", left, 30)
	enough(t, "a set that does not tie", refused, 50)
}

// F8: points that are given twice, many points, none, and the point 0.
func TestTrimPoints(t *testing.T) {
	s, l := ground(), offered()
	for _, x := range []struct {
		name              string
		set, points, want []int
	}{
		{"none", []int{0, 1, 2, 3}, nil, nil},
		{"the point 0", []int{0, 1, 2, 3}, []int{0, 0}, nil},
		{"a point twice", []int{0, 1, 2, 3}, []int{3, 3}, []int{1}},
		{"seven points", []int{0, 1, 2, 3}, []int{1, 2, 3, 0, 1, 2, 3}, []int{0, 1}},
		{"without the measure 0", []int{1, 2, 3}, []int{1}, []int{1, 2}},
		{"without the measure 2", []int{1, 3}, []int{2}, []int{1, 3}},
		{"by nothing", nil, []int{0}, nil},
	} {
		got, e := plan.Trim(s, l, x.set, x.points)
		expect.Errno(t, x.name, e, api.OK)
		expect.List(t, x.name, got, x.want...)
	}
	_, e := plan.Trim(s, l, []int{2, 3}, []int{1})
	expect.Errno(t, "not tied to the point 0", e, api.ErrFar)
}

// P6.5: with more bounds no cost grows, and what is tied stays tied.
func TestMoreBounds(t *testing.T) {
	cheaper, more := 0, 0
	eachGround(t, 500, func(r *rand.Rand, s api.System, y []int, l []api.Measure) {
		if s.N == 1 {
			return
		}
		a := r.IntN(s.N)
		b := (a + 1 + r.IntN(s.N-1)) % s.N
		after := plus(s, bound(a, b, y[b]-y[a]+r.IntN(2), 5), bound(b, a, y[a]-y[b], 5))
		set := randomSet(r, len(l))
		before, _ := plan.Costs(s, l)
		now, e := plan.Costs(after, l)
		expect.Errno(t, "Costs", e, api.OK)
		for p := range s.N {
			one, _ := plan.Ties(s, l, set, p)
			two, _ := plan.Ties(after, l, set, p)
			expect.Equal(t, "what is tied stays tied", !one || two, true)
			expect.Equal(t, "no cost grows", before[p] < 0 || 0 <= now[p] && now[p] <= before[p], true)
			if now[p] != before[p] {
				cheaper++
			}
			if one != two {
				more++
			}
		}
	})
	enough(t, "a cost that falls", cheaper, 50)
	enough(t, "a point that is tied now", more, 50)
}
