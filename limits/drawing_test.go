package limits_test

import (
	"math"
	"math/rand/v2"
	"slices"
	"testing"

	"merestone/api"
	"merestone/expect"
	"merestone/limits"
	"merestone/line"
)

// D6: the drawings with the ends of all regions.
func TestFirstAndLast(t *testing.T) {
	y, e := limits.First(example(), examples())
	expect.Errno(t, "First", e, api.OK)
	expect.List(t, "First", y, 0, 190, 235, 0, 190, 535, 0)
	y, e = limits.Last(example(), examples())
	expect.Errno(t, "Last", e, api.OK)
	expect.List(t, "Last", y, 0, 210, 265, 100000, 100000, 565, 100000)
	y, e = limits.First(example(), nil)
	expect.Errno(t, "First of no records", e, api.OK)
	expect.List(t, "First of no records", y, make([]int, 7)...)
	y, e = limits.Last(example(), nil)
	expect.Errno(t, "Last of no records", e, api.OK)
	expect.List(t, "Last of no records", y, 0, 100000, 100000, 100000, 100000, 100000, 100000)
}

// D6: First and Last are drawings, and lie at the ends of the regions.
func TestFirstAndLastAreDrawings(t *testing.T) {
	eachAgreed(t, 100, func(r *rand.Rand, s scene) {
		first, e := limits.First(s.f, s.l)
		expect.Errno(t, "First", e, api.OK)
		last, e := limits.Last(s.f, s.l)
		expect.Errno(t, "Last", e, api.OK)
		for p := range first {
			expect.Equal(t, "First", first[p], slices.Min(values(s.all, p)))
			expect.Equal(t, "Last", last[p], slices.Max(values(s.all, p)))
		}
		expect.Equal(t, "First is a drawing", isOneOf(s.all, first), true)
		expect.Equal(t, "Last is a drawing", isOneOf(s.all, last), true)
	})
}

// D6: offsets of the region and beyond, at both ends of what offsets there are.
func TestThrough(t *testing.T) {
	f := example()
	for _, x := range []struct {
		c    api.Corner
		y    int
		want []int
	}{
		{dyke(0), 190, []int{0, 190, 245, 100000, 100000, 545, 100000}},
		{dyke(0), 210, []int{0, 210, 265, 100000, 100000, 565, 100000}},
		{dyke(0), 189, nil}, {dyke(0), 211, nil},
		{burn(1), 540, []int{0, 195, 240, 100000, 100000, 540, 100000}},
		{burn(1), 534, nil}, {burn(1), 566, nil},
		{burn(2), 0, []int{0, 210, 265, 0, 100000, 565, 0}},
		{burn(2), 100000, []int{0, 210, 265, 100000, 100000, 565, 100000}},
		{burn(2), -1, nil}, {burn(2), 100001, nil}, {burn(2), math.MinInt, nil}, {burn(2), math.MaxInt, nil}, {burn(2), 1000001, nil}, {burn(2), -1000001, nil},
	} {
		y, is, e := limits.Through(f, examples(), x.c, x.y)
		expect.Errno(t, "Through", e, api.OK)
		expect.Equal(t, "Through", is, x.want != nil)
		expect.List(t, "Through", y, x.want...)
	}
	for _, y := range []int{-1, 0, 200, 100000, 100001, math.MinInt, math.MaxInt} {
		l, is, e := limits.Through(f, examples("stone dyke oak 100 0"), dyke(0), y)
		expect.Errno(t, "Through of a contradiction", e, api.ErrConflict)
		expect.Equal(t, "Through of a contradiction", is, false)
		expect.List(t, "Through of a contradiction", l)
	}
}

// D6: what Through finds is a drawing with this offset, the one of layer 1.
func TestThroughIsADrawing(t *testing.T) {
	eachAgreed(t, 100, func(r *rand.Rand, s scene) {
		p := 1 + r.IntN(len(s.all[0])-1)
		system := bounded(s.f, s.l)
		for y := range 14 {
			got, is, e := limits.Through(s.f, s.l, corners(s.f)[p-1], y)
			expect.Errno(t, "Through", e, api.OK)
			want, found, _ := line.Through(system, p, y)
			expect.Equal(t, "Through", is, found)
			expect.List(t, "Through", got, want...)
			if is {
				expect.Equal(t, "Through gives the offset", got[p], y)
				expect.Equal(t, "Through is a drawing", isOneOf(s.all, got), true)
			}
		}
	})
}

// checkDrawing fails unless CheckDrawing says what it should.
func checkDrawing(t *testing.T, l []api.Record, want bool, y ...int) {
	t.Helper()
	is, e := limits.CheckDrawing(example(), l, y)
	expect.Errno(t, "CheckDrawing", e, api.OK)
	if is != want {
		t.Errorf("CheckDrawing of %v: %v", y, is)
	}
}

// D6: drawings, values that are none, and lists that are no values.
func TestCheckDrawing(t *testing.T) {
	l := examples()
	for _, y := range [][]int{{0, 200, 250, 300, 400, 550, 300}, {0, 190, 245, 0, 190, 545, 0}, {0, 210, 265, 100000, 100000, 565, 100000}} {
		checkDrawing(t, l, true, y...)
		checkDrawing(t, nil, true, y...)
		checkDrawing(t, examples("stone dyke oak 100 0"), false, y...)
	}
	for _, y := range [][]int{{0, 189, 240, 300, 400, 540, 300}, {0, 200, 256, 300, 400, 556, 300}, {0, 200, 250, 300, 400, 551, 300}, {0, 200, 250, 300, 400, 549, 300}} {
		checkDrawing(t, l, false, y...)
		checkDrawing(t, nil, true, y...)
	}
	for _, y := range [][]int{
		nil, {}, {0}, {0, 200, 250, 300, 400, 550}, {0, 200, 250, 300, 400, 550, 300, 300}, // too few, too many
		{1, 200, 250, 300, 400, 550, 300}, {-1, 200, 250, 300, 400, 550, 300}, {1, 201, 251, 301, 401, 551, 301}, // not 0 at the baseline
		{0, 200, 250, 300, 400, 550, 299}, {0, 200, 250, 300, 199, 550, 300}, // limits that cross
		{0, 200, 250, -1, 400, 550, 300}, {0, 200, 250, 300, 400, 550, 100001}, {0, 200, 250, math.MinInt, 400, 550, 300}, {0, 200, 250, 300, math.MaxInt, 550, 300}, // out of range
	} {
		checkDrawing(t, l, false, y...)
		checkDrawing(t, nil, false, y...)
	}
}

// D6: exactly the drawings that nature and all records allow.
func TestCheckDrawingIsExact(t *testing.T) {
	yes, no := 0, 0
	eachScene(t, 150, func(r *rand.Rand, s scene) {
		var list [][]int
		if len(s.all) > 0 {
			list = append(list, s.all[r.IntN(len(s.all))], s.all[r.IntN(len(s.all))])
		}
		for range 4 {
			y := truth(r, s.f, 6)
			if len(s.all) > 0 {
				y = slices.Clone(s.all[r.IntN(len(s.all))])
				y[1+r.IntN(len(y)-1)] += r.IntN(5) - 2
			}
			list = append(list, y)
		}
		for _, y := range list {
			is, e := limits.CheckDrawing(s.f, s.l, y)
			expect.Errno(t, "CheckDrawing", e, api.OK)
			expect.Equal(t, "CheckDrawing", is, isOneOf(s.all, y))
			if is {
				yes++
			} else {
				no++
			}
		}
	})
	if yes < 100 || no < 100 {
		t.Errorf("%d are drawings, %d are not", yes, no)
	}
}
