package deed_test

import (
	"math"
	"math/rand/v2"
	"slices"
	"testing"

	"merestone/api"
	"merestone/deed"
	"merestone/expect"
)

// C3, P3.5: points and corners.
func TestPoints(t *testing.T) {
	for _, f := range []api.Field{example(), rich(), greatest()} {
		next := 1
		for limit := range f.Limits {
			for station := range f.Stations {
				p, e := deed.Point(f, limit, station)
				expect.Errno(t, "Point", e, api.OK)
				expect.Equal(t, "Point", p, next)
				l, s, e := deed.Corner(f, p)
				expect.Errno(t, "Corner", e, api.OK)
				expect.Equal(t, "Corner", [2]int{l, s}, [2]int{limit, station})
				next++
			}
		}
		expect.Equal(t, "Points", deed.Points(f), next)
		for _, p := range []int{0, -1, next, math.MinInt, math.MaxInt} {
			l, s, e := deed.Corner(f, p)
			expect.Errno(t, "Corner of no point", e, api.ErrArg)
			expect.Equal(t, "Corner of no point", [2]int{l, s}, [2]int{})
		}
		for _, c := range [][2]int{{-1, 1}, {1, -1}, {len(f.Limits), 0}, {0, len(f.Stations)}, {math.MinInt, 0}, {0, math.MinInt}, {math.MaxInt, 0}, {0, math.MaxInt}} {
			p, e := deed.Point(f, c[0], c[1])
			expect.Errno(t, "Point of no corner", e, api.ErrArg)
			expect.Equal(t, "Point of no corner", p, 0)
		}
	}
	expect.Equal(t, "Points of the greatest field", deed.Points(greatest()), 121)
	for _, d := range slices.Concat(defects()...) {
		expect.Equal(t, "Points with "+d.name, deed.Points(changed(rich(), d.change)), 0)
	}
}

// C4: the bounds by nature, one by one.
func TestNature(t *testing.T) {
	l, e := deed.Nature(example())
	expect.Errno(t, "Nature", e, api.OK)
	expect.List(t, "Nature", l,
		api.Bound{From: 0, To: 1, Most: 100000}, api.Bound{From: 1, To: 0},
		api.Bound{From: 0, To: 2, Most: 100000}, api.Bound{From: 2, To: 0},
		api.Bound{From: 0, To: 3, Most: 100000}, api.Bound{From: 3, To: 0},
		api.Bound{From: 0, To: 4, Most: 100000}, api.Bound{From: 4, To: 0},
		api.Bound{From: 3, To: 1}, api.Bound{From: 4, To: 2},
	)
	l, e = deed.Nature(changed(example(), func(f *api.Field) { f.Limits, f.Parcels = f.Limits[:1], nil }))
	expect.Errno(t, "Nature", e, api.OK)
	expect.Equal(t, "Nature of one limit", len(l), 4)
	l, e = deed.Nature(greatest())
	expect.Errno(t, "Nature", e, api.OK)
	expect.Equal(t, "Nature of the greatest field", len(l), 240+108)
	expect.Equal(t, "its first bound between limits", l[240], api.Bound{From: 13, To: 1})
	expect.Equal(t, "its last bound", l[347], api.Bound{From: 120, To: 108})
}

// notDrawn returns lists that are no drawings of the example's field.
func notDrawn() [][]int {
	return [][]int{
		nil, {}, {0}, {0, 5, 5, 6}, {0, 5, 5, 6, 6, 6}, {1, 5, 5, 6, 6}, {-1, 5, 5, 6, 6}, {0, -1, 5, 6, 6}, {0, 5, 5, 6, 100001},
		{0, 5, 5, 4, 6}, {0, 5, 7, 6, 6}, {0, math.MinInt, 5, 6, 6}, {0, 5, 5, 6, math.MaxInt}, {0, 5, 5, math.MinInt, 6}, {math.MaxInt, 5, 5, 6, 6},
	}
}

// C5, P3.2: drawings are what nature allows, and what keeps its bounds.
func TestDrawn(t *testing.T) {
	for _, y := range [][]int{{0, 5, 5, 6, 6}, {0, 0, 0, 0, 0}, {0, 100000, 100000, 100000, 100000}, {0, 0, 100000, 7, 100000}} {
		is, e := deed.Drawn(example(), y)
		expect.Errno(t, "Drawn", e, api.OK)
		expect.Equal(t, "Drawn", is, true)
	}
	for _, y := range notDrawn() {
		is, e := deed.Drawn(example(), y)
		expect.Errno(t, "Drawn", e, api.OK)
		expect.Equal(t, "Drawn", is, false)
	}
	eachRandom(t, 300, func(r *rand.Rand, f api.Field) {
		y := randomDrawing(r, f, []int{0, 5, 100000}[r.IntN(3)])
		for range 4 {
			bounds, _ := deed.Nature(f)
			is, e := deed.Drawn(f, y)
			expect.Errno(t, "Drawn", e, api.OK)
			expect.Equal(t, "Drawn", is, natural(f, y))
			expect.Equal(t, "Nature is kept", kept(bounds, y), natural(f, y))
			p := 1 + r.IntN(len(y)-1)
			y[p] += []int{-1, 1, -100001, 100001, 3}[r.IntN(5)]
		}
	})
}
