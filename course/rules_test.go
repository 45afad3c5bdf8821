package course_test

import (
	"math"
	"math/rand/v2"
	"reflect"
	"slices"
	"testing"

	"merestone/api"
	"merestone/course"
	"merestone/expect"
)

// The chapter's table of examples, line by line.
func TestExamples(t *testing.T) {
	v, c := needle(), example()
	expect.Equal(t, "Sin(30)", course.Sin(30), 5000)
	expect.Equal(t, "Sin(210)", course.Sin(210), -5000)
	expect.Equal(t, "Cos(60)", course.Cos(60), 5000)
	expect.Equal(t, "Norm(-30)", course.Norm(-30), 330)
	expect.Equal(t, "Root(24)", course.Root(24), 4)
	expect.Equal(t, "RootUp(24)", course.RootUp(24), 5)
	expect.Equal(t, "Root(25)", course.Root(25), 5)
	for _, x := range [][3]int{{1799, 10, 1}, {1800, 12, 1}, {1699, 0, 0}} {
		east, is := course.Declination(v, x[0])
		expect.Equal(t, "Declination", east, x[1])
		expect.Equal(t, "Declination known", is, x[2] == 1)
	}
	near, far, e := course.True(api.Chain{Wear: 50, Slack: 20}, 1000)
	expect.Equal(t, "True", [2]api.Frac{near, far}, [2]api.Frac{{Num: 1003, Den: 1}, {Num: 1007, Den: 1}})
	expect.Errno(t, "True", e, api.OK)
	low, high, e := course.Sector(v, c)
	expect.Equal(t, "Sector", [2]int{low, high}, [2]int{58, 62})
	expect.Errno(t, "Sector", e, api.OK)
	expect.Equal(t, "Interval", between(t, v, c, 866), offsets{480, 519, true})
	for dy, want := range map[int]uint8{479: api.FitNear, 519: api.FitOk, 560: api.FitNorth} {
		why, e := course.Misfit(v, c, 866, dy)
		expect.Equal(t, "Misfit", why, want)
		expect.Errno(t, "Misfit", e, api.OK)
	}
	n, is, e := course.Needed(v, c, 866, 500)
	expect.Equal(t, "Needed", n, 0)
	expect.Equal(t, "Needed is", is, true)
	expect.Errno(t, "Needed", e, api.OK)
	back, e := course.Reverse(c)
	expect.Equal(t, "Reverse", back.Bearing, 230)
	expect.Errno(t, "Reverse", e, api.OK)
	expect.Equal(t, "Fits", fits(t, v, back, -866, -500), true)
	expect.Equal(t, "Length", course.Length(341), "3 chains 1 pole 16 links")
	n, e = course.Links("1 pole 1 link")
	expect.Equal(t, "Links", n, 26)
	expect.Errno(t, "Links", e, api.OK)
	expect.Equal(t, "Acres", course.Acres(126250), "1 acre 1 rood 2 perches")
	expect.Equal(t, "Quadrant(150)", course.Quadrant(150), "south 30 east")
	expect.Equal(t, "Quadrant(359)", course.Quadrant(359), "north 1 west")
}

// call is a function with the common errors: its results without the error, and the error.
type call struct {
	name string
	dy   bool // the function looks at dy
	run  func(l []api.Variation, c api.Course, dx, dy int) ([]any, api.Errno)
}

// calls returns the functions that look at a course and a step.
func calls() []call {
	type results = []any
	return []call{
		{"Misfit", true, func(l []api.Variation, c api.Course, dx, dy int) (results, api.Errno) {
			return expect.One(course.Misfit(l, c, dx, dy))
		}},
		{"Fits", true, func(l []api.Variation, c api.Course, dx, dy int) (results, api.Errno) {
			return expect.One(course.Fits(l, c, dx, dy))
		}},
		{"Interval", false, func(l []api.Variation, c api.Course, dx, _ int) (results, api.Errno) {
			return expect.Three(course.Interval(l, c, dx))
		}},
		{"Needed", true, func(l []api.Variation, c api.Course, dx, dy int) (results, api.Errno) {
			return expect.Two(course.Needed(l, c, dx, dy))
		}},
		{"Common", false, func(l []api.Variation, c api.Course, dx, _ int) (results, api.Errno) {
			return expect.Three(course.Common(l, []api.Course{example(), c, example()}, dx))
		}},
		{"Bounds", false, func(l []api.Variation, c api.Course, dx, _ int) (results, api.Errno) {
			return expect.One(course.Bounds(l, c, dx, 1, 2, 3))
		}},
	}
}

// empty says whether all results are zero values.
func empty(l []any) bool {
	return !slices.ContainsFunc(l, func(x any) bool { return !reflect.ValueOf(x).IsZero() })
}

// The section Errors: each error, with what comes behind it wrong as well.
func TestErrors(t *testing.T) {
	early := with(func(c *api.Course) { c.Year = 1699 })
	for _, x := range []struct {
		name   string
		l      []api.Variation
		c      api.Course
		dx, dy int
		want   api.Errno
	}{
		{"too many variations", make([]api.Variation, 41), api.Course{}, 0, 0, api.ErrLimit},
		{"too many variations, all else well", years(41), example(), 866, 500, api.ErrLimit},
		{"bad variations", make([]api.Variation, 40), api.Course{}, 0, 100001, api.ErrArg},
		{"bad variations, all else well", []api.Variation{{Year: 1700, East: 61}}, example(), 866, 500, api.ErrArg},
		{"a bad course without a declination", nil, api.Course{}, 0, 100001, api.ErrArg},
		{"a bad course", needle(), with(func(c *api.Course) { c.Needle = 31 }), 866, 500, api.ErrArg},
		{"no declination", needle(), early, 0, 100001, api.ErrCompass},
		{"no declination, all else well", needle(), early, 866, 500, api.ErrCompass},
		{"no declinations", nil, example(), 866, 500, api.ErrCompass},
		{"nowhere", needle(), example(), 0, 500, api.ErrArg},
		{"too far east", needle(), example(), 100001, 500, api.ErrArg},
		{"too far west", needle(), example(), -100001, 500, api.ErrArg},
		{"farthest", needle(), example(), math.MaxInt, 500, api.ErrArg},
		{"farthest west", needle(), example(), math.MinInt, 500, api.ErrArg},
	} {
		for _, f := range calls() {
			got, e := f.run(x.l, x.c, x.dx, x.dy)
			expect.Errno(t, f.name+": "+x.name, e, x.want)
			expect.Equal(t, f.name+": "+x.name+" leaves nothing", empty(got), true)
		}
		low, high, e := course.Sector(x.l, x.c)
		if x.dx == 0 && x.dy == 500 || x.c == example() && x.want == api.ErrArg && x.dx != 866 {
			x.want = api.OK
		}
		expect.Errno(t, "Sector: "+x.name, e, x.want)
		expect.Equal(t, "Sector: "+x.name+" leaves nothing", low == 0 && high == 0, x.want != api.OK)
	}
}

// The section Errors: offsets that are too far, of the functions that look at them.
func TestErrorsOfOffset(t *testing.T) {
	for _, dy := range []int{100001, -100001, math.MaxInt, math.MinInt} {
		for _, f := range calls() {
			got, e := f.run(needle(), example(), 866, dy)
			if !f.dy {
				expect.Errno(t, f.name, e, api.OK)
				continue
			}
			expect.Errno(t, f.name, e, api.ErrArg)
			expect.Equal(t, f.name+" leaves nothing", empty(got), true)
		}
	}
	for _, step := range [][2]int{{100000, 100000}, {-100000, -100000}, {1, 0}, {-1, 0}} {
		for _, f := range calls() {
			if _, e := f.run(needle(), example(), step[0], step[1]); f.name != "Bounds" {
				expect.Errno(t, f.name, e, api.OK)
			}
		}
	}
}

// B12: its own errors come first, and invalid courses before those without a declination.
func TestErrorsOfCommon(t *testing.T) {
	early := with(func(c *api.Course) { c.Year = 1699 })
	for _, x := range []struct {
		name    string
		l       []api.Variation
		courses []api.Course
		dx      int
		want    api.Errno
	}{
		{"too many courses", make([]api.Variation, 40), make([]api.Course, 41), 0, api.ErrLimit},
		{"too many good courses", needle(), slices.Repeat([]api.Course{example()}, 41), 866, api.ErrLimit},
		{"as many courses as may be", needle(), slices.Repeat([]api.Course{example()}, 40), 866, api.OK},
		{"no courses, too many variations", make([]api.Variation, 41), nil, 0, api.ErrNone},
		{"no courses", needle(), []api.Course{}, 866, api.ErrNone},
		{"too many variations", years(41), make([]api.Course, 40), 0, api.ErrLimit},
		{"the first without a declination, the second invalid", needle(), []api.Course{early, {}}, 866, api.ErrArg},
		{"the last without a declination", needle(), []api.Course{example(), example(), early}, 866, api.ErrCompass},
		{"the last without a declination, nowhere", needle(), []api.Course{example(), early}, 0, api.ErrCompass},
		{"the last invalid", needle(), []api.Course{example(), {}}, 866, api.ErrArg},
		{"nothing fits the first, the last is invalid", needle(), []api.Course{towards(270, 0), {}}, 866, api.ErrArg},
		{"nothing fits the first, the last is early", needle(), []api.Course{towards(270, 0), early}, 866, api.ErrCompass},
		{"nowhere", needle(), []api.Course{example()}, 0, api.ErrArg},
	} {
		low, high, is, e := course.Common(x.l, x.courses, x.dx)
		expect.Errno(t, x.name, e, x.want)
		want := offsets{}
		if x.want == api.OK {
			want = offsets{480, 519, true}
		}
		expect.Equal(t, x.name, offsets{low, high, is}, want)
	}
}

// wild returns a number that is often at an end of what is allowed, or of what there is.
func wild(r *rand.Rand) int {
	ends := []int{0, 1, -1, 29, 30, 31, 40, 60, 90, 180, 200, 359, 360, 500, 3000, 3001, 100000, 100001, 1 << 31, 1 << 32, 1 << 62, math.MaxInt, math.MinInt}
	v := ends[r.IntN(len(ends))]
	switch r.IntN(4) {
	case 0:
		return -v
	case 1:
		return v + r.IntN(5) - 2
	case 2:
		return r.IntN(400)
	}
	return v
}

// R1, R2: no argument makes a function panic, and errors leave nothing.
func TestWildArguments(t *testing.T) {
	r := rand.New(rand.NewPCG(9, 9))
	for range 30000 {
		l := needle()
		if r.IntN(3) == 0 {
			l = []api.Variation{{Year: wild(r), East: wild(r)}}
		}
		c := api.Course{Bearing: wild(r), Needle: wild(r), Links: wild(r), Year: wild(r), Chain: api.Chain{Wear: wild(r), Slack: wild(r)}}
		if r.IntN(3) == 0 {
			c = example()
		}
		dx, dy := wild(r), wild(r)
		for _, f := range calls() {
			if got, e := f.run(l, c, dx, dy); e != api.OK && !empty(got) {
				t.Fatalf("%s(%v, %v, %d, %d) has error %d and %v", f.name, l, c, dx, dy, e, got)
			}
		}
		course.Sector(l, c)
		course.True(c.Chain, c.Links)
		course.Narrower(c, c)
		course.Sin(dx)
		course.Cos(dx)
		course.Root(dx)
		course.RootUp(dx)
		course.Length(dx)
		course.Acres(dx)
		course.Quadrant(dx)
	}
}

// R3, R4: arguments stay, results are new memory, and a call says the same again.
func TestMemory(t *testing.T) {
	l, courses := needle(), []api.Course{example(), example()}
	for _, f := range calls() {
		first, _ := f.run(l, courses[0], 866, 500)
		again, _ := f.run(l, courses[0], 866, 500)
		expect.Equal(t, f.name+" says the same again", reflect.DeepEqual(first, again), true)
	}
	course.Common(l, courses, -866)
	expect.Equal(t, "variations stay", slices.Equal(l, needle()), true)
	expect.Equal(t, "courses stay", slices.Equal(courses, []api.Course{example(), example()}), true)
	one, _ := course.Bounds(l, courses[0], 866, 1, 2, 3)
	two, _ := course.Bounds(l, courses[0], 866, 1, 2, 3)
	one[0], one[1] = api.Bound{}, api.Bound{}
	expect.Equal(t, "bounds are new", two[0], api.Bound{From: 1, To: 2, Most: 519, Record: 3})
	one = append(one[:1], api.Bound{})
	expect.Equal(t, "bounds are new", two[1], api.Bound{From: 2, To: 1, Most: -480, Record: 3})
}

// R3: what lies behind a list is not looked at.
func TestBehindLists(t *testing.T) {
	l := append(needle(), api.Variation{Year: 1})
	courses := []api.Course{example(), {}}
	low, high, is, e := course.Common(l[:2], courses[:1], 866)
	expect.Errno(t, "Common", e, api.OK)
	expect.Equal(t, "Common", offsets{low, high, is}, offsets{480, 519, true})
	expect.Errno(t, "CheckVariations", course.CheckVariations(l[:2]), api.OK)
}
