package deed_test

import (
	"math"
	"math/rand/v2"
	"slices"
	"testing"

	"merestone/api"
	"merestone/course"
	"merestone/deed"
	"merestone/expect"
)

// judged is a call after a change, and its error in the rich field.
type judged struct {
	name   string
	call   api.Call
	change func(c *api.Call)
	want   api.Errno
}

// far returns numbers that are no indices.
func far(n int) []int { return []int{-1, n, math.MinInt, math.MaxInt} }

// rightChanges returns calls of each kind at the ends of what is right.
func rightChanges() []judged {
	return []judged{
		{"stone", stone(), func(c *api.Call) { c.Size, c.Error = 0, 0 }, api.OK},
		{"stone", stone(), func(c *api.Call) { c.Size, c.Error = 100000, 100000 }, api.OK},
		{"stone", stone(), func(c *api.Call) { c.Limit, c.From = 3, 3 }, api.OK},
		{"width", width(), func(c *api.Call) { c.Size, c.Error = 0, 0 }, api.OK},
		{"width", width(), func(c *api.Call) { c.Size, c.Error = 100000, 100000 }, api.OK},
		{"width", width(), func(c *api.Call) { c.Limit, c.Other, c.From = 0, 3, 3 }, api.OK},
		{"course", bearing(), func(c *api.Call) {}, api.OK},
		{"course back", bearing(), func(c *api.Call) { c.From, c.To, c.Course.Bearing = 1, 0, 230 }, api.OK},
		{"course", bearing(), func(c *api.Call) { c.Limit, c.Course.Year = 3, 1700 }, api.OK},
		{"along", along(), func(c *api.Call) { c.Limit, c.Other, c.From, c.To = 2, 3, 2, 3 }, api.OK},
		{"along", along(), func(c *api.Call) { c.Other, c.To = 3, 3 }, api.OK},
		{"level", level(), func(c *api.Call) { c.Size, c.Error = 100000, 100000 }, api.OK},
		{"level", level(), func(c *api.Call) { c.Size, c.Error = -100000, 0 }, api.OK},
		{"level", level(), func(c *api.Call) { c.From, c.To, c.Size = 3, 0, 0 }, api.OK},
	}
}

// wrongChanges returns calls of each kind that are just not right.
func wrongChanges() []judged {
	var l []judged
	add := func(name string, c api.Call, change func(c *api.Call)) {
		l = append(l, judged{name, c, change, api.ErrArg})
	}
	for _, c := range allKinds() {
		for _, i := range far(4) {
			add("no such limit", c, func(c *api.Call) { c.Limit = i })
			add("no such other limit", c, func(c *api.Call) { c.Other = i })
			add("no such station", c, func(c *api.Call) { c.From = i })
			add("no such second station", c, func(c *api.Call) { c.To = i })
		}
		for _, size := range []int{-100001, 100001, math.MinInt, math.MaxInt} {
			add("Size out of range", c, func(c *api.Call) { c.Size = size })
			add("Error out of range", c, func(c *api.Call) { c.Error = size })
		}
		add("Error below 0", c, func(c *api.Call) { c.Error = -1 })
		for _, kind := range []uint8{0, 6, 255} {
			add("no kind", c, func(c *api.Call) { c.Kind = kind })
		}
	}
	for _, c := range []api.Call{stone(), width()} {
		add("Size below 0", c, func(c *api.Call) { c.Size = -1 })
		add("To is not named", c, func(c *api.Call) { c.To = 1 })
	}
	for _, c := range []api.Call{stone(), bearing(), level()} {
		add("Other is not named", c, func(c *api.Call) { c.Other = 1 })
	}
	for _, c := range []api.Call{bearing(), along()} {
		add("Size is not named", c, func(c *api.Call) { c.Size = 1 })
		add("Size is not named", c, func(c *api.Call) { c.Size = -1 })
		add("Error is not named", c, func(c *api.Call) { c.Error = 1 })
	}
	for _, c := range []api.Call{stone(), width(), along(), level()} {
		add("Course is not named", c, func(c *api.Call) { c.Course = bearing().Course })
		add("Course is not named", c, func(c *api.Call) { c.Course.Chain.Slack = 1 })
		add("Course is not named", c, func(c *api.Call) { c.Course.Year = 1750 })
	}
	for _, c := range []api.Call{width(), along()} {
		add("equal limits", c, func(c *api.Call) { c.Limit = 1 })
		add("limits in the other order", c, func(c *api.Call) { c.Limit, c.Other = 2, 1 })
		add("limits in the other order", c, func(c *api.Call) { c.Limit, c.Other = 1, 0 })
	}
	for _, c := range []api.Call{bearing(), along(), level()} {
		add("equal stations", c, func(c *api.Call) { c.From, c.To = 1, 1 })
		add("equal stations", c, func(c *api.Call) { c.To = 0 })
	}
	add("stations in the other order", along(), func(c *api.Call) { c.From, c.To = 1, 0 })
	add("stations in the other order", along(), func(c *api.Call) { c.From, c.To = 3, 2 })
	return append(l, wrongCourses()...)
}

// wrongCourses returns calls with courses that are not right, with each of the errors and what comes behind it.
func wrongCourses() []judged {
	early := func(c *api.Call) { c.Course.Year = 1699 }
	bent := func(c *api.Call) { c.Course.Bearing = 300 }
	l := []judged{
		{"a year before all variations", bearing(), early, api.ErrCompass},
		{"the first year", bearing(), func(c *api.Call) { c.Course.Year = 1 }, api.ErrCompass},
		{"a year before all variations, and nothing fits", bearing(), func(c *api.Call) { early(c); bent(c) }, api.ErrCompass},
		{"nothing fits", bearing(), bent, api.ErrNone},
		{"nothing fits the other way", bearing(), func(c *api.Call) { c.From, c.To = 1, 0 }, api.ErrNone},
		{"too short", bearing(), func(c *api.Call) { c.Course.Links = 500 }, api.ErrNone},
		{"too far", bearing(), func(c *api.Call) { c.To = 3 }, api.ErrNone},
		{"early, and something that is not named", bearing(), func(c *api.Call) { early(c); c.Size = 1 }, api.ErrArg},
		{"no course", bearing(), func(c *api.Call) { c.Course = api.Course{} }, api.ErrArg},
	}
	for _, x := range []struct {
		name   string
		change func(c *api.Course)
	}{
		{"Bearing", func(c *api.Course) { c.Bearing = 360 }}, {"Bearing", func(c *api.Course) { c.Bearing = -1 }},
		{"Needle", func(c *api.Course) { c.Needle = 31 }}, {"Needle", func(c *api.Course) { c.Needle = -1 }},
		{"Links", func(c *api.Course) { c.Links = 0 }}, {"Links", func(c *api.Course) { c.Links = 100001 }},
		{"Wear", func(c *api.Course) { c.Chain.Wear = 501 }}, {"Wear", func(c *api.Course) { c.Chain.Wear = -501 }},
		{"Slack", func(c *api.Course) { c.Chain.Slack = 201 }}, {"Slack", func(c *api.Course) { c.Chain.Slack = -1 }},
		{"Year", func(c *api.Course) { c.Year = 0 }}, {"Year", func(c *api.Course) { c.Year = 3001 }},
	} {
		l = append(l, judged{x.name, bearing(), func(c *api.Call) { x.change(&c.Course) }, api.ErrArg})
		l = append(l, judged{x.name + ", early", bearing(), func(c *api.Call) { early(c); x.change(&c.Course) }, api.ErrArg})
	}
	return l
}

// C8: calls that are just right, and just not.
func TestCheckCall(t *testing.T) {
	for _, x := range slices.Concat(rightChanges(), wrongChanges()) {
		c := with(x.call, x.change)
		expect.Errno(t, x.name, deed.CheckCall(rich(), c), x.want)
	}
	for _, c := range allKinds() {
		expect.Errno(t, "CheckCall", deed.CheckCall(example(), c), api.OK)
	}
	alone := changed(example(), func(f *api.Field) { f.Limits, f.Parcels = f.Limits[:1], nil })
	for _, x := range []judged{{"stone", stone(), nil, api.OK}, {"width", width(), nil, api.ErrArg}, {"along", along(), nil, api.ErrArg}, {"course", bearing(), nil, api.OK}} {
		expect.Errno(t, x.name+" of one limit", deed.CheckCall(alone, x.call), x.want)
	}
	still := changed(example(), func(f *api.Field) { f.Variations = nil })
	expect.Errno(t, "a course without variations", deed.CheckCall(still, bearing()), api.ErrCompass)
	expect.Errno(t, "a stone without variations", deed.CheckCall(still, stone()), api.OK)
}

// C9: the bounds of each kind, in their order.
func TestBounds(t *testing.T) {
	f := rich() // of 4 stations: the point of a corner is 1 + 4 * limit + station
	for _, x := range []struct {
		name string
		call api.Call
		want []api.Bound
	}{
		{"stone", with(stone(), func(c *api.Call) { c.Limit, c.From, c.Size, c.Error = 2, 3, 10, 30 }), []api.Bound{{From: 0, To: 12, Most: 40}, {From: 12, To: 0, Most: 20}}},
		{"the greatest stone", with(stone(), func(c *api.Call) { c.Size, c.Error = 100000, 100000 }), []api.Bound{{From: 0, To: 2, Most: 200000}, {From: 2, To: 0, Most: 0}}},
		{"width", with(width(), func(c *api.Call) { c.Limit, c.Other, c.From = 1, 3, 2 }), []api.Bound{{From: 7, To: 15, Most: 103}, {From: 15, To: 7, Most: -97}}},
		{"course", bearing(), []api.Bound{{From: 1, To: 2, Most: 519}, {From: 2, To: 1, Most: -480}}},
		{"course back", with(bearing(), func(c *api.Call) { c.Limit, c.From, c.To, c.Course.Bearing = 3, 1, 0, 230 }), []api.Bound{{From: 14, To: 13, Most: -480}, {From: 13, To: 14, Most: 519}}},
		{"along", with(along(), func(c *api.Call) { c.Limit, c.Other, c.From, c.To = 1, 3, 1, 3 }), []api.Bound{{From: 6, To: 14}, {From: 14, To: 6}, {From: 7, To: 15}, {From: 15, To: 7}, {From: 8, To: 16}, {From: 16, To: 8}}},
		{"level", with(level(), func(c *api.Call) { c.Limit, c.From, c.To, c.Size, c.Error = 2, 3, 1, -40, 7 }), []api.Bound{{From: 12, To: 10, Most: -33}, {From: 10, To: 12, Most: 47}}},
	} {
		for _, record := range []int{0, 1, 7, 1000000} {
			want := slices.Clone(x.want)
			for i := range want {
				want[i].Record = record
			}
			l, e := deed.Bounds(f, x.call, record)
			expect.Errno(t, x.name, e, api.OK)
			expect.List(t, x.name, l, want...)
		}
	}
	for _, record := range []int{-1, 1000001, math.MinInt, math.MaxInt} {
		for _, c := range allKinds() {
			l, e := deed.Bounds(f, c, record)
			expect.Errno(t, "a record out of range", e, api.ErrArg)
			expect.List(t, "a record out of range", l)
		}
		_, e := deed.Bounds(f, with(bearing(), func(c *api.Call) { c.Course.Year = 5 }), record)
		expect.Errno(t, "a call that is not right comes first", e, api.ErrCompass)
	}
}

// near returns a drawing that nearly fits what a call says, where it can be had by moving one corner's line.
func near(r *rand.Rand, f api.Field, c api.Call, y []int) []int {
	l, _ := deed.Bounds(f, c, 0)
	y = slices.Clone(y)
	for i := 0; i < len(l); i += 2 {
		b := l[i]
		p, q := b.From, b.To
		if p > q {
			p, q = q, p
			b = l[i+1]
		}
		y[q] = y[p] + b.Most - r.IntN(3) + 1
	}
	return y
}

// C10, P3.2: a call allows what the table says, and what keeps its bounds.
func TestAllows(t *testing.T) {
	yes, no := 0, 0
	eachRandom(t, 250, func(r *rand.Rand, f api.Field) {
		for range 12 {
			c := rightCall(r, f)
			bounds, e := deed.Bounds(f, c, 3)
			expect.Errno(t, "Bounds", e, api.OK)
			y := randomDrawing(r, f, []int{5, 300, 700}[r.IntN(3)])
			for _, y := range [][]int{y, near(r, f, c, y), near(r, f, c, make([]int, len(y)))} {
				is, e := deed.Allows(f, c, y)
				if !natural(f, y) {
					expect.Errno(t, "Allows", e, api.ErrArg)
					expect.Equal(t, "Allows", is, false)
					continue
				}
				expect.Errno(t, "Allows", e, api.OK)
				expect.Equal(t, "Allows", is, allowed(f, c, y))
				expect.Equal(t, "the bounds are kept", kept(bounds, y), is)
				if is {
					yes++
				} else {
					no++
				}
			}
		}
	})
	if yes < 300 || no < 300 {
		t.Errorf("%d drawings are allowed, %d not", yes, no)
	}
	for _, y := range notDrawn() {
		for _, c := range allKinds() {
			is, e := deed.Allows(example(), c, y)
			expect.Errno(t, "no drawing", e, api.ErrArg)
			expect.Equal(t, "no drawing", is, false)
		}
		_, e := deed.Allows(example(), with(bearing(), func(c *api.Call) { c.Course.Year = 5 }), y)
		expect.Errno(t, "a call that is not right comes first", e, api.ErrCompass)
	}
}

// C10: both ends of what each kind allows.
func TestAllowsEnds(t *testing.T) {
	for _, x := range []struct {
		name string
		call api.Call
		y    []int
		want bool
	}{
		{"stone", stone(), []int{0, 0, 248, 0, 300}, true}, {"stone", stone(), []int{0, 0, 247, 0, 300}, false},
		{"stone", stone(), []int{0, 0, 252, 0, 300}, true}, {"stone", stone(), []int{0, 0, 253, 0, 300}, false},
		{"width", width(), []int{0, 10, 0, 107, 0}, true}, {"width", width(), []int{0, 10, 0, 106, 0}, false},
		{"width", width(), []int{0, 10, 0, 113, 0}, true}, {"width", width(), []int{0, 10, 0, 114, 0}, false},
		{"course", bearing(), []int{0, 100, 580, 100, 600}, true}, {"course", bearing(), []int{0, 100, 579, 100, 600}, false},
		{"course", bearing(), []int{0, 100, 619, 100, 700}, true}, {"course", bearing(), []int{0, 100, 620, 100, 700}, false},
		{"along", along(), []int{0, 5, 6, 5, 6}, true}, {"along", along(), []int{0, 5, 6, 6, 6}, false}, {"along", along(), []int{0, 5, 6, 5, 7}, false},
		{"level", level(), []int{0, 50, 50, 90, 90}, true}, {"level", level(), []int{0, 50, 49, 90, 90}, false},
		{"level", level(), []int{0, 50, 60, 90, 90}, true}, {"level", level(), []int{0, 50, 61, 90, 90}, false},
	} {
		is, e := deed.Allows(example(), x.call, x.y)
		expect.Errno(t, x.name, e, api.OK)
		expect.Equal(t, x.name, is, x.want)
	}
}

// C11: the corners that a call speaks of.
func TestConcerns(t *testing.T) {
	for _, x := range []struct {
		name string
		call api.Call
		want []int
	}{
		{"stone", with(stone(), func(c *api.Call) { c.Limit, c.From = 2, 3 }), []int{12}},
		{"a stone at 0", with(stone(), func(c *api.Call) { c.From, c.Size, c.Error = 0, 0, 0 }), []int{1}},
		{"width", with(width(), func(c *api.Call) { c.Limit, c.Other, c.From = 1, 3, 2 }), []int{7, 15}},
		{"course", bearing(), []int{1, 2}},
		{"course back", with(bearing(), func(c *api.Call) { c.From, c.To, c.Course.Bearing = 1, 0, 230 }), []int{1, 2}},
		{"along", with(along(), func(c *api.Call) { c.Limit, c.Other, c.From, c.To = 1, 3, 1, 3 }), []int{6, 7, 8, 14, 15, 16}},
		{"level", with(level(), func(c *api.Call) { c.Limit, c.From, c.To = 2, 3, 1 }), []int{10, 12}},
	} {
		l, e := deed.Concerns(rich(), x.call)
		expect.Errno(t, x.name, e, api.OK)
		expect.List(t, x.name, l, x.want...)
	}
}

// C11: whether a drawing is allowed depends on these corners alone, and on each of them.
func TestConcernsAll(t *testing.T) {
	eachRandom(t, 200, func(r *rand.Rand, f api.Field) {
		c := rightCall(r, f)
		l, _ := deed.Concerns(f, c)
		expect.Equal(t, "ascending", slices.IsSorted(l), true)
		bounds, _ := deed.Bounds(f, c, 0)
		for p := 1; p < deed.Points(f); p++ {
			bound := slices.ContainsFunc(bounds, func(b api.Bound) bool { return b.From == p || b.To == p })
			expect.Equal(t, "a point of the bounds", slices.Contains(l, p), bound)
		}
	})
}

// P3.4: what a smaller Error, or a narrower course, allows is allowed.
func TestNarrower(t *testing.T) {
	eachRandom(t, 400, func(r *rand.Rand, f api.Field) {
		wide := rightCall(r, f)
		c := wide
		switch c.Kind {
		case api.CallStone, api.CallWidth, api.CallLevel:
			c.Error = r.IntN(c.Error + 1)
		case api.CallCourse:
			c.Course.Needle = r.IntN(c.Course.Needle + 1)
			cut := r.IntN(c.Course.Chain.Slack + 1)
			c.Course.Chain.Slack -= cut
			c.Course.Chain.Wear += r.IntN(2*cut+1) - cut
			expect.Equal(t, "Narrower", course.Narrower(c.Course, wide.Course), true)
		}
		if deed.CheckCall(f, c) != api.OK {
			return
		}
		one, _ := deed.Bounds(f, c, 0)
		two, _ := deed.Bounds(f, wide, 0)
		for i, b := range one {
			expect.Equal(t, "the points of a bound", [2]int{b.From, b.To}, [2]int{two[i].From, two[i].To})
			expect.Equal(t, "a narrower bound", b.Most <= two[i].Most, true)
		}
		y := near(r, f, c, make([]int, deed.Points(f)))
		if is, _ := deed.Allows(f, c, y); is {
			is, e := deed.Allows(f, wide, y)
			expect.Errno(t, "Allows", e, api.OK)
			expect.Equal(t, "what is narrower allows no more", is, true)
		}
	})
}

// C12: calls with the same bounds, and with others.
func TestSame(t *testing.T) {
	back := with(level(), func(c *api.Call) { c.From, c.To, c.Size = 1, 0, -5 })
	for _, x := range []struct {
		name string
		a, b api.Call
		want bool
	}{
		{"level and back", level(), back, true}, {"back and level", back, level(), true},
		{"another error", level(), with(level(), func(c *api.Call) { c.Error = 6 }), false},
		{"another size", level(), with(level(), func(c *api.Call) { c.Size = 6 }), false},
		{"the same end", level(), with(level(), func(c *api.Call) { c.Size, c.Error = 6, 4 }), false},
		{"another limit", level(), with(level(), func(c *api.Call) { c.Limit = 1 }), false},
		{"the other way, not turned", level(), with(level(), func(c *api.Call) { c.From, c.To = 1, 0 }), false},
		{"a course and nearly its level", bearing(), with(level(), func(c *api.Call) { c.Size, c.Error = 500, 20 }), false},
		{"a course and its level", with(bearing(), func(c *api.Call) { c.Course.Chain.Slack = 98 }), with(level(), func(c *api.Call) { c.Size, c.Error = 500, 19 }), true},
		{"courses of two years", bearing(), with(bearing(), func(c *api.Call) { c.Course.Year = 1751 }), true},
		{"chains that make no difference", bearing(), with(bearing(), func(c *api.Call) { c.Course.Chain.Slack = 99 }), true},
		{"a course of other length", bearing(), with(bearing(), func(c *api.Call) { c.Course.Links = 1001 }), false},
		{"a longer walk along", along(), with(along(), func(c *api.Call) { c.To = 2 }), false},
		{"a shorter walk along", with(along(), func(c *api.Call) { c.To = 2 }), along(), false},
		{"along and a width of 0", along(), with(width(), func(c *api.Call) { c.Size, c.Error = 0, 0 }), false},
		{"a width of 0 and along", with(width(), func(c *api.Call) { c.Size, c.Error = 0, 0 }), along(), false},
	} {
		is, e := deed.Same(rich(), x.a, x.b)
		expect.Errno(t, x.name, e, api.OK)
		expect.Equal(t, x.name, is, x.want)
	}
	for i, a := range allKinds() {
		for j, b := range allKinds() {
			is, e := deed.Same(rich(), a, b)
			expect.Errno(t, "Same", e, api.OK)
			expect.Equal(t, "Same", is, i == j)
		}
	}
	for _, x := range wrongChanges() {
		wrong := with(x.call, x.change)
		is, e := deed.Same(rich(), level(), wrong)
		expect.Errno(t, "Same with "+x.name, e, x.want)
		expect.Equal(t, "Same with "+x.name, is, false)
		_, e = deed.Same(rich(), wrong, level())
		expect.Errno(t, "Same of "+x.name, e, x.want)
	}
	early := with(bearing(), func(c *api.Call) { c.Course.Year = 5 })
	_, e := deed.Same(rich(), early, api.Call{})
	expect.Errno(t, "the error of the first call", e, api.ErrCompass)
	_, e = deed.Same(rich(), api.Call{}, early)
	expect.Errno(t, "the error of the first call", e, api.ErrArg)
}

// C12, P3.7: Back says the same, leads the other way, and undoes itself.
func TestBack(t *testing.T) {
	for _, x := range []struct{ call, want api.Call }{
		{stone(), stone()}, {width(), width()}, {along(), along()},
		{level(), with(level(), func(c *api.Call) { c.From, c.To, c.Size = 1, 0, -5 })},
		{bearing(), with(bearing(), func(c *api.Call) { c.From, c.To, c.Course.Bearing = 1, 0, 230 })},
	} {
		c, e := deed.Back(example(), x.call)
		expect.Errno(t, "Back", e, api.OK)
		expect.Equal(t, "Back", c, x.want)
	}
	eachRandom(t, 400, func(r *rand.Rand, f api.Field) {
		c := rightCall(r, f)
		back, e := deed.Back(f, c)
		expect.Errno(t, "Back", e, api.OK)
		same, e := deed.Same(f, c, back)
		expect.Errno(t, "Same", e, api.OK)
		expect.Equal(t, "Back is the same", same, true)
		again, e := deed.Back(f, back)
		expect.Errno(t, "Back of Back", e, api.OK)
		expect.Equal(t, "Back of Back", again, c)
		y := near(r, f, c, make([]int, deed.Points(f)))
		one, e := deed.Allows(f, c, y)
		two, g := deed.Allows(f, back, y)
		expect.Errno(t, "Allows", g, e)
		expect.Equal(t, "Back allows the same", two, one)
	})
}

// The functions that are given a call return the error of CheckCall.
func TestErrorsOfCalls(t *testing.T) {
	for _, x := range wrongChanges() {
		wrong := with(x.call, x.change)
		for _, c := range calls() {
			if c.call == nil {
				continue
			}
			l, e := c.call(rich(), wrong)
			expect.Errno(t, c.name+" with "+x.name, e, x.want)
			expect.Equal(t, c.name+" with "+x.name+" is empty", empty(l), true)
		}
	}
}
