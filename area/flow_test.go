package area_test

import (
	"math/rand/v2"
	"slices"
	"testing"

	"merestone/api"
	"merestone/area"
	"merestone/expect"
)

// nothing fails unless a form, values and a flow are zero values.
func nothing(t *testing.T, name string, form int, y, flow []int) {
	t.Helper()
	expect.Equal(t, name+": the form", form, 0)
	expect.List(t, name+": the values", y)
	expect.List(t, name+": the flow", flow)
}

// greatest fails unless Greatest, and Least of the opposite weights, find a form, or have an error.
func greatest(t *testing.T, name string, s api.System, w []int, want int, e api.Errno) {
	t.Helper()
	form, y, flow, got := area.Greatest(s, w)
	expect.Errno(t, name, got, e)
	low, values, back, got := area.Least(s, negative(w))
	expect.Errno(t, name+", below", got, e)
	if e != api.OK {
		nothing(t, name, form, y, flow)
		nothing(t, name+", below", low, values, back)
		return
	}
	expect.Equal(t, name, form, want)
	proved(t, name, s, w, form, y, flow)
	expect.Equal(t, name+", below", low, -want)
	proved(t, name+", below", s, w, -low, values, back)
	is, e := area.CheckBest(s, w, y, flow)
	expect.Errno(t, name+": CheckBest", e, api.OK)
	expect.Equal(t, name+": CheckBest", is, true)
	for most, want := range map[int]bool{form: true, form - 1: false} {
		is, e = area.CheckFlow(s, w, flow, most)
		expect.Errno(t, name+": CheckFlow", e, api.OK)
		expect.Equal(t, name+": CheckFlow", is, want)
	}
}

// E2: forms with and without an end.
func TestGreatest(t *testing.T) {
	tower := api.System{N: 4, Bounds: []api.Bound{bound(0, 1, 2, 1), bound(1, 2, 3, 1), bound(2, 3, 4, 1)}}
	for _, x := range []struct {
		name string
		s    api.System
		w    []int
		want int
		e    api.Errno
	}{
		{"one value", fork(), []int{0, 0, 2}, 16, api.OK},
		{"one value by the other way", api.System{N: 3, Bounds: []api.Bound{bound(0, 1, 7, 1), bound(1, 2, 3, 2), bound(0, 2, 9, 3)}}, []int{0, 0, 2}, 18, api.OK},
		{"two values", fork(), []int{0, 1, 2}, 21, api.OK},
		{"a difference", fork(), []int{0, -2, 2}, 6, api.OK},
		{"a difference the other way", fork(), []int{0, 2, -2}, -2, api.OK},
		{"no weights", fork(), []int{0, 0, 0}, 0, api.OK},
		{"a weight of 0 alone", fork(), []int{-5, 0, 0}, 0, api.OK},
		{"without end below", fork(), []int{0, -1, 0}, 0, api.ErrOpen},
		{"without end together", fork(), []int{0, 1, -2}, 0, api.ErrOpen},
		{"three on each other", tower, []int{0, 1, 1, 1}, 16, api.OK},
		{"the last less those below", tower, []int{0, -1, -1, 2}, 11, api.OK},
		{"the last less one more", tower, []int{0, -1, -1, 1}, 0, api.ErrOpen},
		{"the weight of 0 does not make it good", tower, []int{1, -1, -1, 1}, 0, api.ErrOpen},
		{"one point", api.System{N: 1}, []int{3}, 0, api.OK},
		{"no bounds, no weights", api.System{N: 3}, []int{3, 0, 0}, 0, api.OK},
		{"no bounds", api.System{N: 3}, []int{0, 0, 1}, 0, api.ErrOpen},
		{"two points alone", api.System{N: 3, Bounds: []api.Bound{bound(1, 2, -4, 1)}}, []int{0, -3, 3}, -12, api.OK},
		{"two points alone, the other way", api.System{N: 3, Bounds: []api.Bound{bound(1, 2, -4, 1)}}, []int{0, 3, -3}, 0, api.ErrOpen},
		{"two points alone, one more", api.System{N: 3, Bounds: []api.Bound{bound(1, 2, -4, 1)}}, []int{0, -3, 4}, 0, api.ErrOpen},
		{"two points alone, one less", api.System{N: 3, Bounds: []api.Bound{bound(1, 2, -4, 1)}}, []int{0, -3, 2}, 0, api.ErrOpen},
		{"a contradiction", contradiction(), weightsOfExample(), 0, api.ErrCircle},
		{"a contradiction without weights", contradiction(), make([]int, 7), 0, api.ErrCircle},
		{"a contradiction without end", api.System{N: 4, Bounds: []api.Bound{bound(1, 2, -1, 1), bound(2, 1, 0, 1)}}, []int{0, 0, 0, 1}, 0, api.ErrCircle},
		{"bounds that say the same", plus(fork(), fork().Bounds...), []int{0, 0, 2}, 16, api.OK},
	} {
		greatest(t, x.name, x.s, x.w, x.want, x.e)
	}
}

// E2: amounts that are taken back where a later one needs the way.
func TestGreatestTakesBack(t *testing.T) {
	s := api.System{N: 5, Bounds: []api.Bound{bound(0, 1, 0, 1), bound(0, 2, 10, 1), bound(1, 3, 0, 1), bound(1, 4, 100, 1), bound(2, 3, 1, 1), bound(3, 4, 2, 1)}}
	greatest(t, "both", s, []int{0, 0, 0, 1, 1}, 2, api.OK)
	greatest(t, "one each", s, []int{0, -1, -1, 1, 1}, 3, api.OK)
	greatest(t, "many", s, []int{0, -1000000, -999999, 999999, 1000000}, 2999999, api.OK)
}

// E2: sums as great as they can be.
func TestGreatestAtItsEnds(t *testing.T) {
	chain := api.System{N: 128}
	for p := 1; p < 128; p++ {
		chain.Bounds = append(chain.Bounds, bound(p-1, p, 1000000, p))
	}
	want := 0
	for p := 68; p < 128; p++ {
		want += p * 1000000 * 1000000
	}
	greatest(t, "a chain upwards", chain, many(128, 60, 1000000), want, api.OK)
	for i := range chain.Bounds {
		chain.Bounds[i].Most = -1000000
	}
	greatest(t, "a chain downwards", chain, many(128, 60, 1000000), -want, api.OK)
	greatest(t, "without end", chain, many(128, 60, -1000000), 0, api.ErrOpen)
	slices.Reverse(chain.Bounds)
	greatest(t, "the last bound first", chain, many(128, 60, 1000000), -want, api.OK)
	y := make([]int, 128)
	for p := range y {
		y[p] = -1000000 * p
	}
	form, got, _, _ := area.Greatest(chain, many(128, 60, 1000000))
	expect.Equal(t, "the form", form, -want)
	expect.List(t, "values that are tied", got, y...)
}

// E2, P5.1: against all values of small systems.
func TestGreatestOfAllValues(t *testing.T) {
	ends, opens, circles := 0, 0, 0
	eachSystem(t, 3000, func(r *rand.Rand, s api.System, w []int) {
		switch {
		case !consistent(s):
			circles++
			greatest(t, "not consistent", s, w, 0, api.ErrCircle)
		case open(s, w):
			opens++
			greatest(t, "without end", s, w, 0, api.ErrOpen)
		default:
			ends++
			most, is := 0, false
			eachValues(s, 9, func(y []int) {
				if form := formOf(w, y); !is || form > most {
					most, is = form, true
				}
			})
			expect.Equal(t, "there are values", is, true)
			greatest(t, "with an end", s, w, most, api.OK)
		}
	})
	if ends < 300 || opens < 300 || circles < 300 {
		t.Errorf("%d with an end, %d without, %d not consistent", ends, opens, circles)
	}
}

// P5.1: the form of values is at most the cost of each flow that carries the weights, and CheckBest accepts what is best alone.
func TestDuality(t *testing.T) {
	accepted := 0
	eachSystem(t, 1500, func(r *rand.Rand, s api.System, _ []int) {
		flow := make([]int, len(s.Bounds))
		for i := range flow {
			flow[i] = max(0, r.IntN(6)-2)
		}
		w := make([]int, s.N)
		for p := 1; p < s.N; p++ {
			w[p] = brought(s, flow, p)
		}
		cost := costOf(s, flow)
		is, e := area.CheckFlow(s, w, flow, cost)
		expect.Errno(t, "CheckFlow", e, api.OK)
		expect.Equal(t, "CheckFlow", is, true)
		form, _, _, e := area.Greatest(s, w)
		expect.Equal(t, "a flow that carries the weights bounds the form", e, map[bool]api.Errno{true: api.OK, false: api.ErrCircle}[consistent(s)])
		eachValues(s, 3, func(y []int) {
			expect.Equal(t, "no form is greater than the cost", formOf(w, y) <= cost, true)
			expect.Equal(t, "nor than the greatest form", formOf(w, y) <= form, true)
			is, e := area.CheckBest(s, w, y, flow)
			expect.Errno(t, "CheckBest", e, api.OK)
			expect.Equal(t, "CheckBest", is, formOf(w, y) == cost)
			if is {
				accepted++
				expect.Equal(t, "what is accepted is the greatest form", cost, form)
			}
		})
	})
	if accepted < 300 {
		t.Errorf("%d are accepted", accepted)
	}
}

// P5.3: with more bounds the greatest form is not greater, and the least one not less.
func TestMoreBounds(t *testing.T) {
	narrower := 0
	eachSystem(t, 2000, func(r *rand.Rand, s api.System, w []int) {
		high, _, _, e := area.Greatest(s, w)
		low, _, _, f := area.Least(s, w)
		if s.N == 1 || e != api.OK && f != api.OK {
			return
		}
		more := plus(s, randomBound(r, s.N, -3, 3))
		if !consistent(more) {
			greatest(t, "a contradiction", more, w, 0, api.ErrCircle)
			return
		}
		if e == api.OK {
			after, _, _, g := area.Greatest(more, w)
			expect.Errno(t, "Greatest", g, api.OK)
			expect.Equal(t, "not greater", after <= high, true)
			if after < high {
				narrower++
			}
		}
		if f == api.OK {
			after, _, _, g := area.Least(more, w)
			expect.Errno(t, "Least", g, api.OK)
			expect.Equal(t, "not less", after >= low, true)
		}
	})
	if narrower < 50 {
		t.Errorf("%d are narrower", narrower)
	}
}

// crowd returns a system of 128 points and 2000 bounds that some values keep, with up to spare between each bound and what they need.
func crowd(r *rand.Rand, spare int) api.System {
	y := make([]int, 128)
	for p := 1; p < 128; p++ {
		y[p] = r.IntN(900001)
	}
	s := api.System{N: 128}
	for p := 1; p < 128; p++ {
		s.Bounds = append(s.Bounds, bound(0, p, y[p]+r.IntN(spare), 1), bound(p, 0, r.IntN(spare)-y[p], 2))
	}
	for len(s.Bounds) < 2000 {
		b := randomBound(r, 128, 0, 0)
		b.Most = y[b.To] - y[b.From] + r.IntN(spare)
		s.Bounds = append(s.Bounds, b)
	}
	return s
}

// R1, P5.1: the greatest systems, with as many and as great weights as there may be.
func TestGreatSystems(t *testing.T) {
	r := rand.New(rand.NewPCG(7, 15))
	for _, spare := range []int{1, 2, 100, 50000} {
		s := crowd(r, spare)
		w := make([]int, 128)
		for i := range 60 {
			w[1+2*i] = r.IntN(2000001) - 1000000
		}
		form, _, _, e := area.Greatest(s, w)
		expect.Errno(t, "Greatest", e, api.OK)
		greatest(t, name("spare", spare), s, w, form, api.OK)
	}
}
