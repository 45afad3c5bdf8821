package course_test

import (
	"math"
	"math/rand/v2"
	"testing"

	"merestone/api"
	"merestone/course"
	"merestone/expect"
)

// B3: chains at both ends of Wear and Slack, and behind them.
func TestCheckChain(t *testing.T) {
	for _, c := range []api.Chain{{}, {Wear: -500}, {Wear: 500}, {Slack: 200}, {Wear: -500, Slack: 200}, {Wear: 500, Slack: 200}} {
		expect.Errno(t, "CheckChain", course.CheckChain(c), api.OK)
	}
	for _, c := range badChains() {
		expect.Errno(t, "CheckChain", course.CheckChain(c), api.ErrArg)
	}
}

// badChains returns chains that are not valid.
func badChains() []api.Chain {
	return []api.Chain{{Wear: -501}, {Wear: 501}, {Slack: -1}, {Slack: 201}, {Wear: math.MinInt}, {Wear: math.MaxInt}, {Slack: math.MinInt}, {Slack: math.MaxInt}}
}

// with returns the course of the examples after a change.
func with(change func(c *api.Course)) api.Course {
	c := example()
	change(&c)
	return c
}

// badCourses returns courses that are not valid.
func badCourses() []api.Course {
	var l []api.Course
	for _, v := range []int{-1, 360, math.MinInt, math.MaxInt} {
		l = append(l, with(func(c *api.Course) { c.Bearing = v }))
	}
	for _, v := range []int{-1, 31, math.MinInt, math.MaxInt} {
		l = append(l, with(func(c *api.Course) { c.Needle = v }))
	}
	for _, v := range []int{0, -1, 100001, math.MinInt, math.MaxInt} {
		l = append(l, with(func(c *api.Course) { c.Links = v }))
	}
	for _, v := range []int{0, -1, 3001, math.MinInt, math.MaxInt} {
		l = append(l, with(func(c *api.Course) { c.Year = v }))
	}
	for _, v := range badChains() {
		l = append(l, with(func(c *api.Course) { c.Chain = v }))
	}
	return append(l, api.Course{})
}

// B3: courses at both ends of each field, and behind them.
func TestCheckCourse(t *testing.T) {
	for _, c := range []api.Course{
		example(),
		{Bearing: 0, Needle: 0, Links: 1, Year: 1, Chain: api.Chain{Wear: -500}},
		{Bearing: 359, Needle: 30, Links: 100000, Year: 3000, Chain: api.Chain{Wear: 500, Slack: 200}},
	} {
		expect.Errno(t, "CheckCourse", course.CheckCourse(c), api.OK)
	}
	for _, c := range badCourses() {
		expect.Errno(t, "CheckCourse", course.CheckCourse(c), api.ErrArg)
	}
}

// years returns some declinations of 0, a year apart.
func years(count int) []api.Variation {
	var l []api.Variation
	for i := range count {
		l = append(l, api.Variation{Year: i + 1})
	}
	return l
}

// badVariations returns variations that are not valid, but no more than 40.
func badVariations() [][]api.Variation {
	return [][]api.Variation{
		{{Year: 0}}, {{Year: -5}}, {{Year: 3001}}, {{Year: 1, East: 61}}, {{Year: 1, East: -61}},
		{{Year: 5}, {Year: 5}}, {{Year: 5}, {Year: 4}}, {{Year: 1}, {Year: 2}, {Year: 2, East: 1}}, {{Year: 3000}, {Year: 3001}},
		{{Year: math.MaxInt}}, {{Year: math.MinInt}}, {{Year: 1, East: math.MaxInt}}, {{Year: 1, East: math.MinInt}},
		{{Year: 10}, {Year: 20, East: 100}},
	}
}

// B3: variations of each count, and which error comes first.
func TestCheckVariations(t *testing.T) {
	for _, l := range [][]api.Variation{nil, {}, needle(), years(40), {{Year: 1, East: -60}, {Year: 2, East: 60}, {Year: 3000}}} {
		expect.Errno(t, "CheckVariations", course.CheckVariations(l), api.OK)
	}
	for _, l := range badVariations() {
		expect.Errno(t, "CheckVariations", course.CheckVariations(l), api.ErrArg)
	}
	expect.Errno(t, "41 variations", course.CheckVariations(years(41)), api.ErrLimit)
	expect.Errno(t, "41 bad variations", course.CheckVariations(make([]api.Variation, 41)), api.ErrLimit)
	expect.Errno(t, "40 bad variations", course.CheckVariations(make([]api.Variation, 40)), api.ErrArg)
}

// B4: fractions in lowest terms, which lie 2 * Slack apart around the middle.
func TestTrue(t *testing.T) {
	for _, x := range []struct {
		c         api.Chain
		links     int
		low, high api.Frac
	}{
		{api.Chain{Wear: 50, Slack: 20}, 1000, api.Frac{Num: 1003, Den: 1}, api.Frac{Num: 1007, Den: 1}},
		{api.Chain{}, 1, api.Frac{Num: 1, Den: 1}, api.Frac{Num: 1, Den: 1}},
		{api.Chain{Wear: 1}, 1, api.Frac{Num: 10001, Den: 10000}, api.Frac{Num: 10001, Den: 10000}},
		{api.Chain{Wear: -500, Slack: 200}, 100000, api.Frac{Num: 93000, Den: 1}, api.Frac{Num: 97000, Den: 1}},
		{api.Chain{Wear: 500, Slack: 200}, 100000, api.Frac{Num: 103000, Den: 1}, api.Frac{Num: 107000, Den: 1}},
		{api.Chain{Wear: 5, Slack: 3}, 3, api.Frac{Num: 15003, Den: 5000}, api.Frac{Num: 3753, Den: 1250}},
	} {
		low, high, e := course.True(x.c, x.links)
		expect.Errno(t, "True", e, api.OK)
		expect.Equal(t, "True low", low, x.low)
		expect.Equal(t, "True high", high, x.high)
	}
}

// B4: the errors.
func TestTrueErrors(t *testing.T) {
	for _, links := range []int{0, -1, 100001, math.MaxInt, math.MinInt} {
		low, high, e := course.True(api.Chain{}, links)
		expect.Errno(t, "True", e, api.ErrArg)
		expect.Equal(t, "True low", low, api.Frac{})
		expect.Equal(t, "True high", high, api.Frac{})
	}
	for _, c := range badChains() {
		low, high, e := course.True(c, 1000)
		expect.Errno(t, "True", e, api.ErrArg)
		expect.Equal(t, "True low", low, api.Frac{})
		expect.Equal(t, "True high", high, api.Frac{})
	}
}

// B4: what the fractions are, by multiplying out.
func TestTrueRandom(t *testing.T) {
	r := rand.New(rand.NewPCG(4, 4))
	for range 3000 {
		c := api.Chain{Wear: r.IntN(1001) - 500, Slack: r.IntN(201)}
		n := 1 + r.IntN(100000)
		low, high, e := course.True(c, n)
		expect.Errno(t, "True", e, api.OK)
		expect.Equal(t, "low", low.Num*10000, low.Den*n*(10000+c.Wear-c.Slack))
		expect.Equal(t, "high", high.Num*10000, high.Den*n*(10000+c.Wear+c.Slack))
		for _, f := range []api.Frac{low, high} {
			if f.Den < 1 || f.Den%2 == 0 && f.Num%2 == 0 || f.Den%5 == 0 && f.Num%5 == 0 || 10000%f.Den != 0 {
				t.Fatalf("True(%v, %d): %v is not in lowest terms", c, n, f)
			}
		}
	}
}

// B5: years before the first variation, on each, between and behind them.
func TestDeclination(t *testing.T) {
	for _, x := range []struct {
		l    []api.Variation
		year int
		east int
		is   bool
	}{
		{needle(), 1699, 0, false}, {needle(), 1700, 10, true}, {needle(), 1701, 10, true}, {needle(), 1799, 10, true},
		{needle(), 1800, 12, true}, {needle(), 1801, 12, true}, {needle(), 3000, 12, true}, {needle(), 0, 0, false},
		{needle(), math.MinInt, 0, false}, {needle(), math.MaxInt, 12, true}, {nil, 1700, 0, false},
		{[]api.Variation{{Year: 5, East: 0}}, 5, 0, true}, {[]api.Variation{{Year: 5, East: -60}}, 9, -60, true},
		{years(41), 5, 0, false}, {[]api.Variation{{Year: 5, East: 7}, {Year: 5, East: 8}}, 9, 0, false},
		{[]api.Variation{{Year: 5, East: 7}, {Year: 6, East: 61}}, 5, 0, false},
	} {
		east, is := course.Declination(x.l, x.year)
		expect.Equal(t, "Declination", east, x.east)
		expect.Equal(t, "Declination known", is, x.is)
	}
}

// B10, P2.4: a course that leads back.
func TestReverse(t *testing.T) {
	for b := range 360 {
		c := with(func(c *api.Course) { c.Bearing = b })
		back, e := course.Reverse(c)
		expect.Errno(t, "Reverse", e, api.OK)
		expect.Equal(t, "Reverse", back, with(func(c *api.Course) { c.Bearing = (b + 180) % 360 }))
		again, e := course.Reverse(back)
		expect.Errno(t, "Reverse", e, api.OK)
		expect.Equal(t, "Reverse of Reverse", again, c)
	}
	for _, c := range badCourses() {
		back, e := course.Reverse(c)
		expect.Errno(t, "Reverse", e, api.ErrArg)
		expect.Equal(t, "Reverse", back, api.Course{})
	}
}

// B11: each of the conditions alone.
func TestNarrower(t *testing.T) {
	a := with(func(c *api.Course) { c.Chain = api.Chain{Wear: 50, Slack: 100} })
	same := func(change func(c *api.Course)) api.Course {
		c := a
		change(&c)
		return c
	}
	for _, x := range []struct {
		name string
		b    api.Course
		is   bool // a is narrower than b
		back bool // b is narrower than a
	}{
		{"itself", a, true, true},
		{"a worse needle", same(func(c *api.Course) { c.Needle = 3 }), true, false},
		{"another bearing", same(func(c *api.Course) { c.Bearing = 51 }), false, false},
		{"other links", same(func(c *api.Course) { c.Links = 999 }), false, false},
		{"another year", same(func(c *api.Course) { c.Year = 1751 }), false, false},
		{"more slack", same(func(c *api.Course) { c.Chain.Slack = 101 }), true, false},
		{"more wear", same(func(c *api.Course) { c.Chain.Wear = 51 }), false, false},
		{"slack at the near end", same(func(c *api.Course) { c.Chain = api.Chain{Wear: 40, Slack: 110} }), true, false},
		{"slack at the far end", same(func(c *api.Course) { c.Chain = api.Chain{Wear: 60, Slack: 110} }), true, false},
		{"behind the far end", same(func(c *api.Course) { c.Chain = api.Chain{Wear: 61, Slack: 110} }), false, false},
		{"before the near end", same(func(c *api.Course) { c.Chain = api.Chain{Wear: 39, Slack: 110} }), false, false},
		{"a better needle, a worse chain", same(func(c *api.Course) { c.Needle, c.Chain.Slack = 1, 101 }), false, false},
	} {
		expect.Equal(t, x.name, course.Narrower(a, x.b), x.is)
		expect.Equal(t, x.name+", back", course.Narrower(x.b, a), x.back)
	}
	for _, c := range badCourses() {
		expect.Equal(t, "Narrower of what is not valid", course.Narrower(c, c), false)
		expect.Equal(t, "Narrower than what is not valid", course.Narrower(example(), c), false)
		expect.Equal(t, "what is not valid", course.Narrower(c, example()), false)
	}
}
