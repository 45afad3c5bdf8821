package course_test

import (
	"math/rand/v2"
	"testing"

	"merestone/api"
	"merestone/course"
	"merestone/expect"
)

// B6: where the sector lies, for bearings and declinations that lead round the circle.
func TestSector(t *testing.T) {
	for _, x := range []struct{ bearing, needle, east, low, high int }{
		{50, 2, 10, 58, 62}, {0, 0, 0, 0, 0}, {0, 5, 0, -5, 5}, {90, 0, 0, 90, 90}, {180, 30, 0, 150, 210},
		{269, 0, 0, 269, 269}, {270, 0, 0, -90, -90}, {271, 0, 0, -89, -89}, {359, 1, 0, -2, 0}, {269, 3, 1, -93, -87},
		{270, 3, -1, 266, 272}, {359, 0, 1, 0, 0}, {0, 0, -60, -60, -60}, {0, 30, -60, -90, -30}, {330, 0, -60, -90, -90},
		{329, 0, -60, 269, 269}, {210, 0, 60, -90, -90}, {209, 30, 60, 239, 299}, {359, 0, 60, 59, 59},
	} {
		l := []api.Variation{{Year: 1, East: x.east}}
		low, high, e := course.Sector(l, towards(x.bearing, x.needle))
		expect.Errno(t, "Sector", e, api.OK)
		expect.Equal(t, "Sector low", low, x.low)
		expect.Equal(t, "Sector high", high, x.high)
	}
	for b := range 360 {
		for east := -60; east <= 60; east++ {
			l := []api.Variation{{Year: 1, East: -east / 2}, {Year: 1750, East: east}, {Year: 1751, East: -east}}
			low, high, e := course.Sector(l, towards(b, 7))
			if low-high != -14 || low+7 < -90 || low+7 > 269 || (low+7-b-east)%360 != 0 || e != api.OK {
				t.Fatalf("Sector of %d, declination %d: %d to %d", b, east, low, high)
			}
		}
	}
}

// B7: the first of the conditions that a step does not keep, on both sides of each one.
func TestMisfit(t *testing.T) {
	exact := func(bearing, needle, links int) api.Course {
		return api.Course{Bearing: bearing, Needle: needle, Links: links, Year: 1}
	}
	for _, x := range []struct {
		name   string
		c      api.Course
		dx, dy int
		want   uint8
	}{
		{"due west", exact(270, 30, 10), 10, 0, api.FitAway},
		{"ends at north", exact(330, 30, 10), 1, 10, api.FitAway},
		{"ends 1 behind north", exact(331, 30, 10), 1, 1000, api.FitFar},
		{"begins at south", exact(210, 30, 10), 1, -10, api.FitAway},
		{"begins 1 before south", exact(209, 30, 10), 1, -58, api.FitFar},
		{"begins 1 before south, north of it", exact(209, 30, 10), 1, -57, api.FitNorth},
		{"begins at north", exact(20, 20, 1000), 1, 1000, api.FitFar},
		{"begins at north, within", exact(20, 20, 1000), 600, 800, api.FitOk},
		{"due east", exact(90, 0, 10), 10, 0, api.FitOk},
		{"north of due east", exact(90, 0, 10), 10, 1, api.FitNorth},
		{"south of due east", exact(90, 0, 10), 10, -1, api.FitSouth},
		{"farther due east", exact(90, 0, 10), 11, 0, api.FitFar},
		{"nearer due east", exact(90, 0, 10), 9, 0, api.FitNear},
		{"ends at east, at its end", exact(80, 10, 1000), 1000, 0, api.FitOk},
		{"ends at east, too near", exact(80, 10, 1000), 999, 0, api.FitNear},
		{"ends behind east, near", exact(80, 11, 1000), 999, 0, api.FitOk},
		{"begins at east, at its end", exact(100, 10, 1000), 1000, 0, api.FitOk},
		{"begins at east, too near", exact(100, 10, 1000), 999, 0, api.FitNear},
		{"begins before east, near", exact(100, 11, 1000), 999, 0, api.FitOk},
		{"both sides of east, very near", exact(90, 1, 1000), 1, 0, api.FitOk},
		{"both sides of east, too far", exact(90, 1, 1000), 1001, 0, api.FitFar},
		{"north of the sector and too far", exact(60, 1, 10), 100, 100, api.FitNorth},
		{"south of the sector and too far", exact(60, 1, 10), 100, 0, api.FitSouth},
		{"south of the sector and too near", exact(60, 1, 1000), 10, -10, api.FitSouth},
		{"ends at south", exact(150, 30, 1000), 600, -800, api.FitOk},
		{"ends at south, far south", exact(150, 30, 1000), 1, -100000, api.FitFar},
		{"ends before south, far south", exact(150, 29, 1000), 1, -100000, api.FitSouth},
		{"begins behind north, far north", exact(30, 29, 1000), 1, 100000, api.FitNorth},
		{"begins before north, far north", exact(30, 30, 1000), 1, 100000, api.FitFar},
		{"on the edge to the north", exact(45, 0, 20), 14, 14, api.FitNear},
		{"on the edges", api.Course{Bearing: 45, Links: 20, Year: 1, Chain: api.Chain{Slack: 200}}, 14, 14, api.FitOk},
		{"above the edge", api.Course{Bearing: 45, Links: 20, Year: 1, Chain: api.Chain{Slack: 200}}, 14, 15, api.FitNorth},
		{"below the edge", api.Course{Bearing: 45, Links: 20, Year: 1, Chain: api.Chain{Slack: 200}}, 14, 13, api.FitSouth},
		{"back due west", exact(270, 0, 10), -10, 0, api.FitOk},
		{"back, the opposite is north", exact(270, 0, 10), -10, -1, api.FitNorth},
		{"back, the opposite is south", exact(270, 0, 10), -10, 1, api.FitSouth},
		{"back, away", exact(90, 0, 10), -10, 0, api.FitAway},
		{"back, far", exact(270, 0, 10), -11, 0, api.FitFar},
		{"back, near", exact(270, 0, 10), -9, 0, api.FitNear},
	} {
		why, e := course.Misfit(straight(), x.c, x.dx, x.dy)
		expect.Errno(t, x.name, e, api.OK)
		expect.Equal(t, x.name, why, x.want)
		expect.Equal(t, x.name+", Fits", fits(t, straight(), x.c, x.dx, x.dy), x.want == api.FitOk)
	}
}

// B7: the true length at both ends of Wear and Slack.
func TestMisfitOfLength(t *testing.T) {
	for _, x := range []struct {
		c         api.Chain
		near, far int
	}{
		{api.Chain{}, 10000, 10000}, {api.Chain{Wear: -500}, 9500, 9500}, {api.Chain{Wear: 500}, 10500, 10500},
		{api.Chain{Slack: 200}, 9800, 10200}, {api.Chain{Wear: -500, Slack: 200}, 9300, 9700}, {api.Chain{Wear: 500, Slack: 200}, 10300, 10700},
	} {
		c := api.Course{Bearing: 90, Links: 10000, Year: 1, Chain: x.c}
		for dx, want := range map[int]uint8{x.near - 1: api.FitNear, x.near: api.FitOk, x.far: api.FitOk, x.far + 1: api.FitFar} {
			why, e := course.Misfit(straight(), c, dx, 0)
			expect.Errno(t, "Misfit", e, api.OK)
			expect.Equal(t, "Misfit", why, want)
		}
	}
}

// B7: what each of random steps lacks.
func TestMisfitRandom(t *testing.T) {
	seen := map[uint8]int{}
	eachRandom(t, 20000, 3000, func(r *rand.Rand, l []api.Variation, c api.Course, dx int) {
		dy := r.IntN(2*c.Links+1) - c.Links
		if x := between(t, l, c, dx); x.is && r.IntN(2) == 0 {
			dy = []int{x.low - 1, x.low, x.high, x.high + 1}[r.IntN(4)]
		}
		why, e := course.Misfit(l, c, dx, dy)
		expect.Errno(t, "Misfit", e, api.OK)
		if want := broken(l, c, dx, dy); why != want {
			t.Errorf("Misfit(%v, %v, %d, %d) = %d, want %d", l, c, dx, dy, why, want)
		}
		expect.Equal(t, "Fits", fits(t, l, c, dx, dy), why == api.FitOk)
		seen[why]++
	})
	for why := range uint8(6) {
		if seen[why] < 50 {
			t.Errorf("only %d of the steps have %d", seen[why], why)
		}
	}
}

// B8, P2.2: the offsets that fit, and no others, one by one.
func TestInterval(t *testing.T) {
	some := 0
	eachRandom(t, 3000, 400, func(_ *rand.Rand, l []api.Variation, c api.Course, dx int) {
		got := between(t, l, c, dx)
		for dy := -500; dy <= 500; dy++ {
			if within := got.is && got.low <= dy && dy <= got.high; within != (broken(l, c, dx, dy) == 0) {
				t.Fatalf("Interval(%v, %v, %d) = %v, but of %d", l, c, dx, got, dy)
			}
		}
		if !got.is && got != (offsets{}) {
			t.Errorf("no interval, but %v", got)
		}
		if got.is {
			some++
		}
	})
	if some < 500 {
		t.Errorf("only %d intervals", some)
	}
}

// B8, P2.2: sectors whose ends lie at 0, 90 and 180, or one beside, and that lead to both sides of east.
func TestIntervalAtEnds(t *testing.T) {
	for _, low := range []int{-121, -61, -60, -59, -1, 0, 1, 29, 30, 31, 59, 60, 61, 88, 89, 90, 91, 92, 119, 120, 121, 150, 179, 180, 181} {
		for _, needle := range []int{0, 1, 2, 15, 29, 30} {
			for _, slack := range []int{0, 200} {
				c := api.Course{Bearing: course.Norm(low + needle), Needle: needle, Links: 60, Year: 9, Chain: api.Chain{Slack: slack}}
				for _, dx := range []int{1, 2, 7, 42, 52, 58, 59, 60, 61, 62, -1, -30, -60, -61} {
					got := between(t, straight(), c, dx)
					for dy := -80; dy <= 80; dy++ {
						if within := got.is && got.low <= dy && dy <= got.high; within != (broken(straight(), c, dx, dy) == 0) {
							t.Fatalf("Interval(%v, %d) = %v, but of %d", c, dx, got, dy)
						}
					}
				}
			}
		}
	}
}

// B8: the greatest lengths, where the offsets themselves end.
func TestIntervalOfGreatest(t *testing.T) {
	long := api.Course{Links: 100000, Year: 1, Needle: 30, Chain: api.Chain{Wear: 500, Slack: 200}}
	for _, bearing := range []int{0, 15, 30, 45, 60, 75, 90, 105, 120, 135, 150, 165, 180} {
		for _, dx := range []int{1, 100, 1000, 50000, 99999, 100000, -1, -50000, -100000} {
			c := long
			c.Bearing = bearing
			got := between(t, straight(), c, dx)
			for _, dy := range []int{-100000, -99999, got.low - 1, got.low, got.low + 1, 0, got.high - 1, got.high, got.high + 1, 99999, 100000} {
				if dy < -100000 || dy > 100000 {
					continue
				}
				if within := got.is && got.low <= dy && dy <= got.high; within != (broken(straight(), c, dx, dy) == 0) {
					t.Errorf("Interval(%v, %d) = %v, but of %d", c, dx, got, dy)
				}
			}
		}
	}
	north := long
	expect.Equal(t, "as far north as offsets go", between(t, straight(), north, 1), offsets{})
	north.Chain = api.Chain{Slack: 200}
	expect.Equal(t, "up to the greatest offset", between(t, straight(), north, 100), offsets{98000, 100000, true})
	north.Bearing = 180
	expect.Equal(t, "down to the least offset", between(t, straight(), north, 100), offsets{-100000, -98000, true})
}

// B9, P2.3: the least needle, found by trying all of them, and each greater one.
func TestNeeded(t *testing.T) {
	seen := map[int]int{}
	eachRandom(t, 5000, 2000, func(r *rand.Rand, l []api.Variation, c api.Course, dx int) {
		wide := c
		wide.Needle = 30
		dy := r.IntN(2*c.Links+1) - c.Links
		if x := between(t, l, wide, dx); x.is && r.IntN(4) > 0 {
			dy = x.low + r.IntN(x.high-x.low+1)
		}
		got, is, e := course.Needed(l, c, dx, dy)
		expect.Errno(t, "Needed", e, api.OK)
		least := -1
		for n := 30; n >= 0; n-- {
			c.Needle = n
			if broken(l, c, dx, dy) == 0 {
				least = n
			} else if least >= 0 && least <= n {
				t.Errorf("%v fits with a needle of %d, but not of %d", c, least, n)
			}
		}
		if is != (least >= 0) || got != max(least, 0) {
			t.Errorf("Needed(%v, %v, %d, %d) = %d, %v, want %d", l, c, dx, dy, got, is, least)
		}
		for n := max(least, 0); n <= 30; n++ {
			c.Needle = n
			expect.Equal(t, "with a greater needle", fits(t, l, c, dx, dy), is)
		}
		seen[least]++
	})
	if seen[-1] < 50 || seen[1] < 10 || seen[30] < 10 {
		t.Errorf("steps need %v", seen)
	}
}

// B9: needles of 0 and 30, and which Needle the course has does not matter.
func TestNeededAtEnds(t *testing.T) {
	for _, x := range []struct {
		bearing, slack, dx, dy, want int
		is                           bool
	}{
		{90, 0, 1000, 0, 0, true}, {90, 0, 1001, 0, 0, false}, {90, 0, 999, 0, 1, true}, {90, 0, 866, 500, 30, true},
		{90, 0, 866, -500, 30, true}, {91, 0, 866, 500, 0, false}, {89, 0, 866, 500, 29, true}, {60, 0, 866, 500, 0, false},
		{60, 1, 866, 500, 0, true}, {61, 1, 866, 500, 1, true}, {59, 1, 866, 500, 1, true}, {119, 0, 999, 0, 30, true},
		{120, 0, 999, 0, 0, false}, {120, 0, 1000, 0, 30, true}, {121, 0, 1000, 0, 0, false}, {60, 0, 1000, 0, 30, true},
		{270, 0, -1000, 0, 0, true}, {270, 0, 1000, 0, 0, false}, {90, 0, -1000, 0, 0, false}, {240, 1, -866, -500, 0, true},
	} {
		for _, needle := range []int{0, 15, 30} {
			c := towards(x.bearing, needle)
			c.Chain.Slack = x.slack
			n, is, e := course.Needed(straight(), c, x.dx, x.dy)
			expect.Errno(t, "Needed", e, api.OK)
			if n != x.want || is != x.is {
				t.Errorf("Needed(%v, %d, %d) = %d, %v, want %d, %v", c, x.dx, x.dy, n, is, x.want, x.is)
			}
		}
	}
}

// P2.3: what fits a narrower course fits the other one.
func TestNarrowerFits(t *testing.T) {
	pairs := 0
	eachRandom(t, 20000, 2000, func(r *rand.Rand, l []api.Variation, c api.Course, dx int) {
		wide := c
		wide.Needle = min(30, c.Needle+r.IntN(5))
		wide.Chain.Slack = min(200, c.Chain.Slack+r.IntN(60))
		wide.Chain.Wear = max(-500, min(500, c.Chain.Wear+r.IntN(61)-30))
		x := between(t, l, c, dx)
		if !course.Narrower(c, wide) || !x.is {
			return
		}
		y := between(t, l, wide, dx)
		if !y.is || x.low < y.low || x.high > y.high {
			t.Errorf("%v allows %v, and %v, which is narrower, %v", wide, y, c, x)
		}
		pairs++
	})
	if pairs < 500 {
		t.Errorf("only %d pairs", pairs)
	}
}

// P2.4: a step fits exactly if the opposite one fits the reverse.
func TestReverseFits(t *testing.T) {
	eachRandom(t, 5000, 2000, func(r *rand.Rand, l []api.Variation, c api.Course, dx int) {
		back, e := course.Reverse(c)
		expect.Errno(t, "Reverse", e, api.OK)
		x, y := between(t, l, c, dx), between(t, l, back, -dx)
		expect.Equal(t, "the interval of the reverse", y, offsets{-x.high, -x.low, x.is})
		for _, dy := range []int{x.low - 1, x.low, x.high, x.high + 1, r.IntN(2000) - 1000} {
			expect.Equal(t, "Fits of the reverse", fits(t, l, back, -dx, -dy), fits(t, l, c, dx, dy))
			why, _ := course.Misfit(l, c, dx, dy)
			same, _ := course.Misfit(l, back, -dx, -dy)
			expect.Equal(t, "Misfit of the reverse", same, why)
		}
	})
}

// B12, P2.2: what the intervals of up to four courses have in common, offset by offset.
func TestCommon(t *testing.T) {
	some, none := 0, 0
	eachRandom(t, 3000, 200, func(r *rand.Rand, l []api.Variation, c api.Course, dx int) {
		courses := []api.Course{c}
		for range r.IntN(4) {
			d := c
			d.Bearing = course.Norm(c.Bearing + r.IntN(11) - 5)
			d.Needle = r.IntN(31)
			d.Links = max(1, c.Links+r.IntN(11)-5)
			d.Chain.Slack = r.IntN(201)
			courses = append(courses, d)
		}
		low, high, is, e := course.Common(l, courses, dx)
		expect.Errno(t, "Common", e, api.OK)
		for dy := -260; dy <= 260; dy++ {
			all := true
			for _, d := range courses {
				all = all && broken(l, d, dx, dy) == 0
			}
			if within := is && low <= dy && dy <= high; within != all {
				t.Fatalf("Common(%v, %v, %d) = %d, %d, %v, but of %d", l, courses, dx, low, high, is, dy)
			}
		}
		if is {
			some++
		} else {
			none++
			expect.Equal(t, "without an interval", [2]int{low, high}, [2]int{})
		}
	})
	if some < 200 || none < 200 {
		t.Errorf("%d have something in common, %d nothing", some, none)
	}
}

// B12: intervals that fit but have nothing in common.
func TestCommonOfNothing(t *testing.T) {
	far := with(func(c *api.Course) { c.Bearing = 70 })
	for _, courses := range [][]api.Course{{example(), far}, {far, example()}, {example(), far, example()}} {
		low, high, is, e := course.Common(needle(), courses, 866)
		expect.Equal(t, "Common", offsets{low, high, is}, offsets{})
		expect.Errno(t, "Common", e, api.OK)
	}
}

// B13: the bounds, whatever the points and the record are.
func TestBounds(t *testing.T) {
	eachRandom(t, 2000, 2000, func(r *rand.Rand, l []api.Variation, c api.Course, dx int) {
		from, to, record := r.Int()-r.Int(), r.Int()-r.Int(), r.Int()-r.Int()
		x := between(t, l, c, dx)
		bounds, e := course.Bounds(l, c, dx, from, to, record)
		if !x.is {
			expect.Errno(t, "Bounds", e, api.ErrNone)
			expect.Equal(t, "number of bounds", len(bounds), 0)
			return
		}
		expect.Errno(t, "Bounds", e, api.OK)
		if expect.Equal(t, "number of bounds", len(bounds), 2); t.Failed() {
			return
		}
		expect.Equal(t, "the greatest", bounds[0], api.Bound{From: from, To: to, Most: x.high, Record: record})
		expect.Equal(t, "the least", bounds[1], api.Bound{From: to, To: from, Most: -x.low, Record: record})
	})
}
