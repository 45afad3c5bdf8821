package plan_test

import (
	"math"
	"math/rand/v2"
	"slices"
	"testing"

	"merestone/api"
	"merestone/expect"
	"merestone/line"
	"merestone/plan"
)

// one is a reading that is right.
func one() api.Reading { return api.Reading{From: 1, To: 2, Size: 5, Slack: 1, Weight: 2} }

// F11: what readings are, with the limits and one beyond each.
func TestCheckReadings(t *testing.T) {
	many := func(count int, r api.Reading) []api.Reading { return slices.Repeat([]api.Reading{r}, count) }
	changed := func(change func(r *api.Reading)) []api.Reading {
		r := one()
		change(&r)
		return many(1, r)
	}
	for _, x := range []struct {
		name string
		n    int
		l    []api.Reading
		want api.Errno
	}{
		{"the chapter's", 3, read(), api.OK},
		{"none", 3, nil, api.OK},
		{"no points", 0, nil, api.ErrArg},
		{"less than no points", -1, nil, api.ErrArg},
		{"far less than no points", math.MinInt, many(1, one()), api.ErrArg},
		{"one point", 1, nil, api.OK},
		{"one point with a reading", 1, many(1, api.Reading{Weight: 1}), api.ErrArg},
		{"40 points", 40, many(1, one()), api.OK},
		{"41 points", 41, nil, api.ErrArg},
		{"far too many points", math.MaxInt, nil, api.ErrArg},
		{"40 readings", 3, many(40, one()), api.OK},
		{"41 readings", 3, many(41, one()), api.ErrLimit},
		{"41 readings of 41 points", 41, many(41, one()), api.ErrArg},
		{"41 wrong readings", 3, many(41, api.Reading{}), api.ErrLimit},
		{"40 wrong readings", 3, many(40, api.Reading{}), api.ErrArg},
		{"a point and itself", 3, changed(func(r *api.Reading) { r.To = 1 }), api.ErrArg},
		{"From the first point", 3, changed(func(r *api.Reading) { r.From = 0 }), api.OK},
		{"From before it", 3, changed(func(r *api.Reading) { r.From = -1 }), api.ErrArg},
		{"From the last point", 4, changed(func(r *api.Reading) { r.From = 3 }), api.OK},
		{"From behind it", 3, changed(func(r *api.Reading) { r.From = 3 }), api.ErrArg},
		{"To the last point", 3, changed(func(r *api.Reading) { r.To = 2 }), api.OK},
		{"To behind it", 3, changed(func(r *api.Reading) { r.To = 3 }), api.ErrArg},
		{"To before the first point", 3, changed(func(r *api.Reading) { r.To = -1 }), api.ErrArg},
		{"Size -100000", 3, changed(func(r *api.Reading) { r.Size = -100000 }), api.OK},
		{"Size -100001", 3, changed(func(r *api.Reading) { r.Size = -100001 }), api.ErrArg},
		{"Size 100000", 3, changed(func(r *api.Reading) { r.Size = 100000 }), api.OK},
		{"Size 100001", 3, changed(func(r *api.Reading) { r.Size = 100001 }), api.ErrArg},
		{"the least Size", 3, changed(func(r *api.Reading) { r.Size = math.MinInt }), api.ErrArg},
		{"Slack 0", 3, changed(func(r *api.Reading) { r.Slack = 0 }), api.OK},
		{"Slack -1", 3, changed(func(r *api.Reading) { r.Slack = -1 }), api.ErrArg},
		{"Slack 100000", 3, changed(func(r *api.Reading) { r.Slack = 100000 }), api.OK},
		{"Slack 100001", 3, changed(func(r *api.Reading) { r.Slack = 100001 }), api.ErrArg},
		{"Weight 0", 3, changed(func(r *api.Reading) { r.Weight = 0 }), api.ErrArg},
		{"Weight 1", 3, changed(func(r *api.Reading) { r.Weight = 1 }), api.OK},
		{"Weight 3", 3, changed(func(r *api.Reading) { r.Weight = 3 }), api.OK},
		{"Weight 4", 3, changed(func(r *api.Reading) { r.Weight = 4 }), api.ErrArg},
		{"a wrong one behind good ones", 3, append(read(), api.Reading{To: 1}), api.ErrArg},
	} {
		expect.Errno(t, x.name, plan.CheckReadings(x.n, x.l), x.want)
	}
}

// F12: the classes are those of flooding.
func TestJoined(t *testing.T) {
	apart := 0
	eachReadings(t, 300, func(r *rand.Rand, n int, l []api.Reading) {
		got, e := plan.Joined(n, l)
		expect.Errno(t, "Joined", e, api.OK)
		lists(t, "Joined", got, joins(n, func(a, b int) bool {
			return slices.ContainsFunc(l, func(r api.Reading) bool { return r.From == a && r.To == b || r.From == b && r.To == a })
		})...)
		again, e := plan.Joined(n, shuffled(r, l))
		expect.Errno(t, "Joined in another order", e, api.OK)
		lists(t, "Joined in another order", again, got...)
		if len(got) > 1 {
			apart++
		}
	})
	enough(t, "points that are not joined", apart, 50)
}

// F13: two bounds for each reading.
func TestLoose(t *testing.T) {
	eachReadings(t, 100, func(r *rand.Rand, n int, l []api.Reading) {
		got, e := plan.Loose(n, l)
		expect.Errno(t, "Loose", e, api.OK)
		expect.Equal(t, "Loose", got.N, n)
		expect.List(t, "Loose", got.Bounds, systemOf(n, l).Bounds...)
		expect.Errno(t, "Loose is valid", line.Check(got), api.OK)
	})
	got, e := plan.Loose(2, []api.Reading{{From: 1, To: 0, Size: -100000, Slack: 100000, Weight: 1}})
	expect.Errno(t, "Loose at its ends", e, api.OK)
	expect.List(t, "Loose at its ends", got.Bounds, bound(1, 0, 0, 1), bound(0, 1, 200000, 1))
}

// misses returns what a circle of readings misses, if it is one: it tries all directions.
func misses(l []api.Reading, circle []int) (int, bool) {
	for i, k := range circle {
		if k < 0 || k >= len(l) || slices.Contains(circle[:i], k) {
			return 0, false
		}
	}
	for turned := range 1 << len(circle) {
		size, slack, at, is := 0, 0, -1, len(circle) > 1
		start := -1
		for i, k := range circle {
			r := l[k]
			if turned>>i&1 == 1 {
				r = api.Reading{From: r.To, To: r.From, Size: -r.Size, Slack: r.Slack}
			}
			is = is && (i == 0 || at == r.From)
			if i == 0 {
				start = r.From
			}
			at = r.To
			size += r.Size
			slack += r.Slack
		}
		if is && at == start {
			return max(size, -size) - slack, true
		}
	}
	return 0, false
}

// F14, P6.6, P6.9: readings agree exactly if there is no misclosure; it is a circle that misses so much, and each suspect is in it.
func TestMisclosure(t *testing.T) {
	against, wide := 0, 0
	eachReadings(t, 1500, func(r *rand.Rand, n int, l []api.Reading) {
		circle, by, is, e := plan.Misclosure(n, l)
		expect.Errno(t, "Misclosure", e, api.OK)
		expect.Equal(t, "Misclosure", is, !agree(n, l))
		_, _, again, _ := plan.Misclosure(n, shuffled(r, l))
		expect.Equal(t, "Misclosure in another order", again, is)
		if !is {
			expect.Equal(t, "no misclosure", len(circle)+by, 0)
			return
		}
		missed, closes := misses(l, circle)
		expect.Equal(t, "a circle", closes, true)
		expect.Equal(t, "what it misses", by, missed)
		expect.Equal(t, "more than 0", by > 0, true)
		bounds, _, _ := line.Circle(systemOf(n, l))
		var want []int
		for _, i := range bounds {
			want = append(want, i/2)
		}
		expect.List(t, "the readings of the bounds of the circle, in their order", circle, want...)
		accepted, e := plan.CheckMisclosure(n, l, circle, by)
		expect.Errno(t, "CheckMisclosure", e, api.OK)
		expect.Equal(t, "CheckMisclosure", accepted, true)
		suspects, _ := plan.Suspects(n, l)
		for _, k := range suspects {
			expect.Equal(t, "each suspect is in it", slices.Contains(circle, k), true)
		}
		if bounds[0]%2 == 1 {
			against++
		}
		if len(circle) > 2 {
			wide++
		}
	})
	enough(t, "a circle that begins against the direction of its first reading", against, 10)
	enough(t, "a circle of more than two readings", wide, 20)
}

// F14, P6.6: CheckMisclosure accepts just the circles that miss so much; if it accepts one, readings do not agree, and each suspect is in it.
func TestCheckMisclosureIsRight(t *testing.T) {
	accepted, backwards := 0, 0
	eachReadings(t, 1500, func(r *rand.Rand, n int, l []api.Reading) {
		for range 20 {
			circle := r.Perm(len(l))
			circle = circle[:min(len(circle), r.IntN(5))]
			by, closes := misses(l, circle)
			if r.IntN(4) == 0 {
				by += r.IntN(3) - 1
			}
			missed, _ := misses(l, circle)
			want := closes && by == missed && by > 0
			is, e := plan.CheckMisclosure(n, l, circle, by)
			expect.Errno(t, "CheckMisclosure", e, api.OK)
			expect.Equal(t, "CheckMisclosure", is, want)
			if !is {
				continue
			}
			accepted++
			expect.Equal(t, "readings with a circle that misses do not agree", agree(n, l), false)
			suspects, _ := plan.Suspects(n, l)
			for _, k := range suspects {
				expect.Equal(t, "each suspect is in it", slices.Contains(circle, k), true)
			}
			if second := l[circle[1]]; l[circle[0]].To != second.From && l[circle[0]].To != second.To {
				backwards++
			}
		}
	})
	enough(t, "a circle that is accepted", accepted, 100)
	enough(t, "a circle that begins against the direction of its first reading", backwards, 30)
}

// F14: circles that are none, and others at their ends.
func TestCheckMisclosure(t *testing.T) {
	eight := append(read(), api.Reading{From: 1, To: 0, Size: 9, Weight: 1}, api.Reading{From: 3, To: 0, Size: 1, Weight: 1}, api.Reading{From: 0, To: 3, Size: 6, Weight: 1})
	for _, x := range []struct {
		name   string
		circle []int
		by     int
		want   bool
	}{
		{"all three", []int{0, 1, 2}, 3, true},
		{"from the second one", []int{1, 2, 0}, 3, true},
		{"the other way round", []int{2, 1, 0}, 3, true},
		{"against the direction of the first one", []int{0, 2, 1}, 3, true},
		{"of two", []int{4, 5}, 7, true},
		{"of two in the other order", []int{5, 4}, 7, true},
		{"of two, one back", []int{0, 3}, 108, true},
		{"more than it misses", []int{0, 1, 2}, 4, false},
		{"less than it misses", []int{0, 1, 2}, 2, false},
		{"with the opposite sign", []int{0, 1, 2}, -3, false},
		{"by 0", []int{0, 1, 2}, 0, false},
		{"by far", []int{0, 1, 2}, math.MinInt, false},
		{"none", nil, 3, false},
		{"none by 0", nil, 0, false},
		{"of one", []int{0}, 99, false},
		{"one twice", []int{0, 0}, 198, false},
		{"one twice, behind others", []int{0, 1, 2, 2}, 3, false},
		{"that does not close", []int{0, 1}, 148, false},
		{"that does not hang together", []int{0, 4, 2}, 3, false},
		{"an index of -1", []int{-1, 1, 2}, 3, false},
		{"an index of the number of readings", []int{0, 1, 6}, 3, false},
		{"an index far away", []int{0, 1, math.MinInt}, 3, false},
		{"twice through the point 0", []int{0, 1, 2, 4, 5}, 10, true},
		{"that closes too early", []int{0, 1, 2, 4}, 5, false},
	} {
		is, e := plan.CheckMisclosure(4, eight, x.circle, x.by)
		expect.Errno(t, x.name, e, api.OK)
		expect.Equal(t, x.name, is, x.want)
	}
	within := []api.Reading{{To: 1, Size: 10, Slack: 1, Weight: 1}, {To: 1, Size: 12, Slack: 1, Weight: 1}}
	is, e := plan.CheckMisclosure(2, within, []int{0, 1}, 0)
	expect.Errno(t, "a circle that misses 0", e, api.OK)
	expect.Equal(t, "a circle that misses 0", is, false)
}

// F15, F16, P6.7: suspects, and what the others say of them.
func TestSuspects(t *testing.T) {
	suspected, left, open := 0, 0, 0
	eachReadings(t, 1500, func(r *rand.Rand, n int, l []api.Reading) {
		got, e := plan.Suspects(n, l)
		expect.Errno(t, "Suspects", e, api.OK)
		var want []int
		for k, x := range l {
			others := slices.Delete(slices.Clone(l), k, k+1)
			d, is := distances(systemOf(n, others))
			span, e := plan.Truth(n, l, k)
			if !is {
				expect.Errno(t, "Truth of what does not agree", e, api.ErrCircle)
				expect.Equal(t, "Truth of what does not agree", span, api.Span{})
				left++
				continue
			}
			expect.Errno(t, "Truth", e, api.OK)
			expect.Equal(t, "Truth", span, spanOf(d, x.From, x.To))
			if !agree(n, l) {
				want = append(want, k)
				expect.Equal(t, "a suspect differs from all numbers of Truth", span.Lowest && x.Size+x.Slack < span.Low || span.Highest && x.Size-x.Slack > span.High, true)
				suspected++
			} else if !span.Lowest {
				open++
			}
		}
		expect.List(t, "Suspects", got, want...)
	})
	enough(t, "a suspect", suspected, 100)
	enough(t, "others that do not agree", left, 100)
	enough(t, "a reading that no others bound", open, 50)
}

// spanOf returns what the difference of two points can be.
func spanOf(d [][]int, a, b int) api.Span {
	var x api.Span
	if d[a][b] < far {
		x.High, x.Highest = d[a][b], true
	}
	if d[b][a] < far {
		x.Low, x.Lowest = -d[b][a], true
	}
	return x
}

// F16: readings that there are not.
func TestTruthErrors(t *testing.T) {
	for k, want := range map[int]api.Errno{-1: api.ErrArg, 0: api.OK, 2: api.OK, 3: api.ErrArg, math.MinInt: api.ErrArg, math.MaxInt: api.ErrArg} {
		_, e := plan.Truth(3, read(), k)
		expect.Errno(t, "Truth", e, want)
	}
	_, e := plan.Truth(3, nil, 0)
	expect.Errno(t, "Truth of none", e, api.ErrArg)
	two := append(read(), api.Reading{From: 0, To: 1, Weight: 1}, api.Reading{From: 0, To: 1, Size: 9, Weight: 1})
	_, e = plan.Truth(3, two, 5)
	expect.Errno(t, "no such reading, and others that do not agree", e, api.ErrArg)
	_, e = plan.Truth(3, two, 0)
	expect.Errno(t, "others that do not agree", e, api.ErrCircle)
}

// F14 to F16: as many readings and points as there may be.
func TestGreatReadings(t *testing.T) {
	var l []api.Reading
	for p := range 40 {
		l = append(l, api.Reading{From: (p + 1) % 40, To: p, Size: -100000, Slack: 99999, Weight: 1})
	}
	circle, by, is, e := plan.Misclosure(40, l)
	expect.Errno(t, "Misclosure", e, api.OK)
	expect.Equal(t, "Misclosure", is, true)
	expect.Equal(t, "Misclosure", by, 40)
	expect.Equal(t, "Misclosure", len(circle), 40)
	is, e = plan.CheckMisclosure(40, l, circle, 40)
	expect.Errno(t, "CheckMisclosure", e, api.OK)
	expect.Equal(t, "CheckMisclosure", is, true)
	suspects, e := plan.Suspects(40, l)
	expect.Errno(t, "Suspects", e, api.OK)
	expect.Equal(t, "Suspects", len(suspects), 40)
	x, e := plan.Truth(40, l, 39)
	expect.Errno(t, "Truth", e, api.OK)
	expect.Equal(t, "Truth", x, api.Span{Low: 39, High: 39 * 199999, Lowest: true, Highest: true})
}
