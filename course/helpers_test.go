package course_test

import (
	"math"
	"math/rand/v2"
	"sync"
	"testing"

	"merestone/api"
	"merestone/course"
	"merestone/expect"
)

// needle is the declinations of the chapter's examples.
func needle() []api.Variation { return []api.Variation{{Year: 1700, East: 10}, {Year: 1800, East: 12}} }

// example is the course of the chapter's examples.
func example() api.Course {
	return api.Course{Bearing: 50, Needle: 2, Links: 1000, Year: 1750, Chain: api.Chain{Slack: 100}}
}

// straight is declinations that turn no bearing.
func straight() []api.Variation { return []api.Variation{{Year: 1}} }

// towards returns a course of 1000 exact links whose sector has the ends bearing - n and bearing + n where no needle turns it.
func towards(bearing, n int) api.Course {
	return api.Course{Bearing: bearing, Needle: n, Links: 1000, Year: 1750}
}

// offsets is an interval of offsets, if there are any.
type offsets struct {
	low, high int
	is        bool
}

// between returns Interval, which must find no error.
func between(t *testing.T, l []api.Variation, c api.Course, dx int) offsets {
	t.Helper()
	low, high, is, e := course.Interval(l, c, dx)
	expect.Errno(t, "Interval", e, api.OK)
	return offsets{low, high, is}
}

// fits returns Fits, which must find no error.
func fits(t *testing.T, l []api.Variation, c api.Course, dx, dy int) bool {
	t.Helper()
	is, e := course.Fits(l, c, dx, dy)
	expect.Errno(t, "Fits", e, api.OK)
	return is
}

// rounded returns the true sines, or cosines, of the directions from 0 to 359.
func rounded(of func(float64) float64) func() [360]int {
	return sync.OnceValue(func() [360]int {
		var l [360]int
		for d := range l {
			l[d] = int(math.Round(10000 * of(float64(d)*math.Pi/180)))
		}
		return l
	})
}

var trueSines, trueCosines = rounded(math.Sin), rounded(math.Cos)

// sine and cosine are those of the test's own.
func sine(d int) int   { return trueSines()[(d%360+360)%360] }
func cosine(d int) int { return trueCosines()[(d%360+360)%360] }

// declined returns the declination of a year: that of the latest variation before the next year.
func declined(l []api.Variation, year int) (east int, is bool) {
	latest := 0
	for _, v := range l {
		if v.Year < year+1 && v.Year > latest {
			latest, east, is = v.Year, v.East, true
		}
	}
	return east, is
}

// ends returns the ends of the sector of a course, turned by whole circles until it is where it should be.
func ends(l []api.Variation, c api.Course) (low, high int) {
	m, _ := declined(l, c.Year)
	for m += c.Bearing; m < -90; m += 360 {
	}
	for ; m > 269; m -= 360 {
	}
	return m - c.Needle, m + c.Needle
}

// broken returns the number of the first of the five conditions that a step does not keep, or 0.
func broken(l []api.Variation, c api.Course, dx, dy int) uint8 {
	if dx < 0 {
		c.Bearing += 180
		dx, dy = -dx, -dy
	}
	low, high := ends(l, c)
	far := c.Links * (10000 + c.Chain.Wear + c.Chain.Slack)
	near := c.Links * (10000 + c.Chain.Wear - c.Chain.Slack)
	square := (dx*dx + dy*dy) * 100000000
	if high < 1 || low > 179 {
		return 1
	}
	if low > 0 && dy*sine(low) > dx*cosine(low) {
		return 2
	}
	if high < 180 && dy*sine(high) < dx*cosine(high) {
		return 3
	}
	if square > far*far {
		return 4
	}
	if (high <= 90 || low >= 90) && square < near*near {
		return 5
	}
	return 0
}

// randomVariations returns up to four declinations.
func randomVariations(r *rand.Rand) []api.Variation {
	l := []api.Variation{{Year: 1 + r.IntN(1200), East: r.IntN(121) - 60}}
	for range r.IntN(4) {
		l = append(l, api.Variation{Year: l[len(l)-1].Year + 1 + r.IntN(500), East: r.IntN(121) - 60})
	}
	return l
}

// randomCourse returns a course of a year whose declination is known.
func randomCourse(r *rand.Rand, l []api.Variation, links int) api.Course {
	return api.Course{
		Bearing: r.IntN(360),
		Needle:  r.IntN(31),
		Links:   1 + r.IntN(links),
		Year:    l[0].Year + r.IntN(3001-l[0].Year),
		Chain:   api.Chain{Wear: r.IntN(1001) - 500, Slack: r.IntN(201)},
	}
}

// eachRandom runs a test with courses of up to some links, and how far east a step leads; the numbers always come in the same order.
func eachRandom(t *testing.T, count, links int, test func(r *rand.Rand, l []api.Variation, c api.Course, dx int)) {
	t.Helper()
	r := rand.New(rand.NewPCG(5, 11))
	for range count {
		l := randomVariations(r)
		c := randomCourse(r, l, links)
		dx := 1 + r.IntN(min(api.MaxX, c.Links+c.Links/10+1))
		if r.IntN(2) == 0 {
			dx = -dx
		}
		test(r, l, c, dx)
		if t.Failed() {
			return
		}
	}
}
