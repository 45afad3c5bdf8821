package limits_test

import (
	"math"
	"math/rand/v2"
	"slices"
	"testing"

	"merestone/api"
	"merestone/expect"
	"merestone/limits"
)

// dykeStrip is a strip at the dyke and oak; the region there is 235 to 265.
func dykeStrip(from, to int) api.Strip { return api.Strip{Limit: 0, Station: 1, From: from, To: to} }

// D7: strips wholly north and south, partly open, and such that end exactly at an end of the region.
func TestAwardAndParts(t *testing.T) {
	for _, x := range []struct {
		from, to, south, open, north int
		award                        uint8
	}{
		{265, 300, 0, 0, 35, 1}, {264, 300, 0, 1, 35, 0}, {266, 300, 0, 0, 34, 1}, {265, 266, 0, 0, 1, 1}, {265, 100000, 0, 0, 99735, 1}, {99999, 100000, 0, 0, 1, 1},
		{100, 235, 135, 0, 0, 2}, {100, 236, 135, 1, 0, 0}, {100, 234, 134, 0, 0, 2}, {234, 235, 1, 0, 0, 2}, {0, 235, 235, 0, 0, 2}, {0, 1, 1, 0, 0, 2},
		{200, 300, 35, 30, 35, 0}, {235, 265, 0, 30, 0, 0}, {240, 250, 0, 10, 0, 0}, {250, 251, 0, 1, 0, 0}, {235, 236, 0, 1, 0, 0}, {264, 265, 0, 1, 0, 0},
		{230, 250, 5, 15, 0, 0}, {250, 270, 0, 15, 5, 0}, {0, 100000, 235, 30, 99735, 0}, {234, 265, 1, 30, 0, 0}, {235, 266, 0, 30, 1, 0},
	} {
		s := dykeStrip(x.from, x.to)
		award, e := limits.Award(example(), examples(), s)
		expect.Errno(t, "Award", e, api.OK)
		expect.Equal(t, "Award", award, x.award)
		south, open, north, e := limits.Parts(example(), examples(), s)
		expect.Errno(t, "Parts", e, api.OK)
		expect.Equal(t, "Parts", [3]int{south, open, north}, [3]int{x.south, x.open, x.north})
		one, two, is, e := limits.Shows(example(), examples(), s)
		expect.Errno(t, "Shows", e, api.OK)
		expect.Equal(t, "Shows", is, x.open > 0)
		if is {
			expect.List(t, "Shows the low end", one, 0, 190, 235, 100000, 100000, 535, 100000)
			expect.List(t, "Shows the high end", two, 0, 210, 265, 100000, 100000, 565, 100000)
		} else {
			expect.Equal(t, "Shows nothing", len(one)+len(two), 0)
		}
	}
}

// D7: a limit that lies where it lies leaves nothing open; a strip may go to both sides for certain.
func TestPartsOfOneOffset(t *testing.T) {
	l := examples("stone dyke oak 250 0")
	for _, x := range []struct {
		from, to, south, north int
		award                  uint8
	}{{249, 250, 1, 0, 2}, {250, 251, 0, 1, 1}, {249, 251, 1, 1, 0}, {0, 100000, 250, 99750, 0}} {
		award, e := limits.Award(example(), l, dykeStrip(x.from, x.to))
		expect.Errno(t, "Award", e, api.OK)
		expect.Equal(t, "Award", award, x.award)
		south, open, north, e := limits.Parts(example(), l, dykeStrip(x.from, x.to))
		expect.Errno(t, "Parts", e, api.OK)
		expect.Equal(t, "Parts", [3]int{south, open, north}, [3]int{x.south, 0, x.north})
		_, _, is, e := limits.Shows(example(), l, dykeStrip(x.from, x.to))
		expect.Errno(t, "Shows", e, api.OK)
		expect.Equal(t, "Shows", is, false)
	}
}

// D8: what one drawing gives of strips.
func TestAwarded(t *testing.T) {
	y := []int{0, 200, 250, 300, 400, 550, 300}
	for _, x := range []struct{ from, to, south, north int }{
		{200, 300, 50, 50}, {250, 300, 0, 50}, {251, 300, 0, 49}, {200, 250, 50, 0}, {200, 249, 49, 0}, {249, 251, 1, 1}, {0, 100000, 250, 99750}, {0, 1, 1, 0}, {99999, 100000, 0, 1}, {249, 250, 1, 0}, {250, 251, 0, 1},
	} {
		south, north, e := limits.Awarded(example(), examples(), y, dykeStrip(x.from, x.to))
		expect.Errno(t, "Awarded", e, api.OK)
		expect.Equal(t, "Awarded", [2]int{south, north}, [2]int{x.south, x.north})
	}
	// The strip's own corner counts.
	south, north, e := limits.Awarded(example(), examples(), y, api.Strip{Limit: 1, Station: 2, From: 200, To: 1000})
	expect.Errno(t, "Awarded", e, api.OK)
	expect.Equal(t, "Awarded", [2]int{south, north}, [2]int{100, 700})
	for _, y := range [][]int{nil, {0}, y[:6], append(slices.Clone(y), 0), {1, 200, 250, 300, 400, 550, 300}, {0, 200, 250, 300, 400, 551, 300}, {0, 200, 256, 300, 400, 556, 300}, {0, 200, math.MinInt, 300, 400, math.MaxInt, 300}} {
		south, north, e := limits.Awarded(example(), examples(), y, dykeStrip(0, 100))
		expect.Errno(t, "Awarded by no drawing", e, api.ErrNone)
		expect.Equal(t, "Awarded by no drawing", [2]int{south, north}, [2]int{0, 0})
	}
	_, _, e = limits.Awarded(example(), examples("stone dyke oak 100 0"), y, dykeStrip(0, 100))
	expect.Errno(t, "Awarded where there is no drawing", e, api.ErrNone)
	_, _, e = limits.Awarded(example(), examples("stone dyke oak 100 0"), y, dykeStrip(100, 100))
	expect.Errno(t, "ErrArg before ErrNone", e, api.ErrArg)
}

// given is how much of a strip a drawing gives to the south, link by link.
func given(f api.Field, y []int, s api.Strip) int {
	south := 0
	for u := s.From; u < s.To; u++ {
		if u < y[at(f, s.Limit, s.Station)] {
			south++
		}
	}
	return south
}

// randomStrip returns a strip at one of the first offsets.
func randomStrip(r *rand.Rand, f api.Field) api.Strip {
	from := r.IntN(8)
	return api.Strip{Limit: r.IntN(len(f.Limits)), Station: r.IntN(len(f.Stations)), From: from, To: from + 1 + r.IntN(5)}
}

// D7, D8, P4.4: what all drawings give of a strip.
func TestStripsOfAllDrawings(t *testing.T) {
	awards := [3]int{}
	eachAgreed(t, 150, func(r *rand.Rand, x scene) {
		for range 4 {
			s := randomStrip(r, x.f)
			whole := s.To - s.From
			leastSouth, leastNorth := whole, whole
			for _, y := range x.all {
				south := given(x.f, y, s)
				leastSouth, leastNorth = min(leastSouth, south), min(leastNorth, whole-south)
			}
			want := uint8(0)
			if leastNorth == whole {
				want = 1
			} else if leastSouth == whole {
				want = 2
			}
			award, e := limits.Award(x.f, x.l, s)
			expect.Errno(t, "Award", e, api.OK)
			expect.Equal(t, "Award", award, want)
			awards[award]++
			south, open, north, e := limits.Parts(x.f, x.l, s)
			expect.Errno(t, "Parts", e, api.OK)
			expect.Equal(t, "Parts", [3]int{south, open, north}, [3]int{leastSouth, whole - leastSouth - leastNorth, leastNorth})
			partsOfEnds(t, x, s, south, north)
			shown(t, x, s, open)
			y := x.all[r.IntN(len(x.all))]
			a, b, e := limits.Awarded(x.f, x.l, y, s)
			expect.Errno(t, "Awarded", e, api.OK)
			expect.Equal(t, "Awarded", [2]int{a, b}, [2]int{given(x.f, y, s), whole - given(x.f, y, s)})
		}
	})
	if slices.Min(awards[:]) < 20 {
		t.Errorf("awards: %v", awards)
	}
}

// P4.4: First gives to the south, and Last to the north, what Parts says.
func partsOfEnds(t *testing.T, x scene, s api.Strip, south, north int) {
	t.Helper()
	first, _ := limits.First(x.f, x.l)
	last, _ := limits.Last(x.f, x.l)
	a, _, e := limits.Awarded(x.f, x.l, first, s)
	expect.Errno(t, "Awarded by First", e, api.OK)
	_, b, e := limits.Awarded(x.f, x.l, last, s)
	expect.Errno(t, "Awarded by Last", e, api.OK)
	expect.Equal(t, "Parts are what First and Last give", [2]int{a, b}, [2]int{south, north})
}

// D8, P4.4: if some of a strip is open, two drawings give it differently; they are those of Through.
func shown(t *testing.T, x scene, s api.Strip, open int) {
	t.Helper()
	one, two, is, e := limits.Shows(x.f, x.l, s)
	expect.Errno(t, "Shows", e, api.OK)
	expect.Equal(t, "Shows", is, open > 0)
	if !is {
		expect.Equal(t, "Shows nothing", len(one)+len(two), 0)
		return
	}
	expect.Equal(t, "Shows drawings", isOneOf(x.all, one) && isOneOf(x.all, two), true)
	expect.Equal(t, "they give it differently", given(x.f, one, s) != given(x.f, two, s), true)
	c := api.Corner{Limit: s.Limit, Station: s.Station}
	ends := region(t, x.f, x.l, c)
	for i, y := range [][]int{one, two} {
		want, _, _ := limits.Through(x.f, x.l, c, ends[i])
		expect.List(t, "Shows Through", y, want...)
	}
}

// P4.5: with one more record what was awarded stays awarded, and no part becomes less.
func TestAwardsStay(t *testing.T) {
	eachField(t, 200, func(r *rand.Rand, f api.Field, l []api.Record) {
		if len(l) == 0 || !agree(f, l) {
			return
		}
		for range 4 {
			s := randomStrip(r, f)
			before, _ := limits.Award(f, l[:len(l)-1], s)
			after, e := limits.Award(f, l, s)
			expect.Errno(t, "Award", e, api.OK)
			expect.Equal(t, "it stays awarded", before == 0 || before == after, true)
			south, open, north, _ := limits.Parts(f, l[:len(l)-1], s)
			more, less, other, _ := limits.Parts(f, l, s)
			expect.Equal(t, "no part becomes less", south <= more && north <= other && less <= open, true)
		}
	})
}
