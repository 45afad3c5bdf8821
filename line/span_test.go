package line_test

import (
	"math/rand/v2"
	"slices"
	"testing"

	"merestone/api"
	"merestone/expect"
	"merestone/line"
)

// A7: ranges with both ends, one end, and none.
func TestRange(t *testing.T) {
	s := chapter()
	half := plus(s, api.Bound{From: 2, To: 3, Most: -4})
	for _, x := range []struct {
		name string
		s    api.System
		a, b int
		want api.Span
	}{
		{"the chapter's 1", s, 0, 1, api.Span{Low: 2, High: 5, Lowest: true, Highest: true}},
		{"the chapter's 2", s, 0, 2, api.Span{Low: 3, High: 8, Lowest: true, Highest: true}},
		{"no ends", s, 0, 3, api.Span{}},
		{"between 1 and 2", s, 1, 2, api.Span{Low: 1, High: 3, Lowest: true, Highest: true}},
		{"between 2 and 1", s, 2, 1, api.Span{Low: -3, High: -1, Lowest: true, Highest: true}},
		{"back to the point 0", s, 2, 0, api.Span{Low: -8, High: -3, Lowest: true, Highest: true}},
		{"the point 0", s, 0, 0, api.Span{Lowest: true, Highest: true}},
		{"a point itself", s, 3, 3, api.Span{Lowest: true, Highest: true}},
		{"a high end alone", half, 0, 3, api.Span{High: 4, Highest: true}},
		{"a low end alone", half, 3, 1, api.Span{Low: 1, Lowest: true}},
		{"one point", api.System{N: 1}, 0, 0, api.Span{Lowest: true, Highest: true}},
		{"the document's first example", api.System{N: 3, Bounds: []api.Bound{{From: 0, To: 1, Most: 5}, {From: 1, To: 2, Most: 3}, {From: 0, To: 2, Most: 9}}}, 0, 2, api.Span{High: 8, Highest: true}},
	} {
		got, e := line.Between(x.s, x.a, x.b)
		expect.Equal(t, x.name, got, x.want)
		expect.Errno(t, x.name, e, api.OK)
		if x.a == 0 {
			got, e := line.Range(x.s, x.b)
			expect.Equal(t, x.name, got, x.want)
			expect.Errno(t, x.name, e, api.OK)
		}
	}
}

// P1.2: whatever values keep a system lie in its ranges, and the ends of ranges that have them are attained.
func TestRangesAreSharp(t *testing.T) {
	const most = 8
	checked := 0
	eachConsistent(t, 1500, func(t *testing.T, r *rand.Rand, s api.System, d table) {
		if s.N > 4 {
			return
		}
		seen := make([]map[int]bool, s.N*s.N)
		for k := range seen {
			seen[k] = map[int]bool{}
		}
		eachValues(s, most, func(y []int) {
			for k := range seen {
				seen[k][y[k%s.N]-y[k/s.N]] = true
			}
		})
		for k := range seen {
			x, e := line.Between(s, k/s.N, k%s.N)
			expect.Errno(t, "Between", e, api.OK)
			for v := range seen[k] {
				if x.Highest && v > x.High || x.Lowest && v < x.Low {
					t.Errorf("%v: a difference of %d beyond %v", s, v, x)
				}
			}
			if bounded(d, most) {
				checked++
				for v := x.Low; v <= x.High; v++ {
					expect.Equal(t, "a difference in the range", seen[k][v], true)
				}
			}
		}
	})
	if checked < 100 {
		t.Errorf("only %d ranges", checked)
	}
}

// bounded says whether all points have values from -most to most alone.
func bounded(d table, most int) bool {
	for p := range d {
		if !d[0][p].is || !d[p][0].is || d[0][p].most > most || d[p][0].most > most {
			return false
		}
	}
	return true
}

// A7: ranges are those of the distances.
func TestRangesAreDistances(t *testing.T) {
	eachConsistent(t, 1500, func(t *testing.T, r *rand.Rand, s api.System, d table) {
		for a := range s.N {
			for b := range s.N {
				want := api.Span{Low: -d[b][a].most, High: d[a][b].most, Lowest: d[b][a].is, Highest: d[a][b].is}
				got, e := line.Between(s, a, b)
				expect.Equal(t, "Between", got, want)
				expect.Errno(t, "Between", e, api.OK)
				if a == 0 {
					got, e := line.Range(s, b)
					expect.Equal(t, "Range", got, want)
					expect.Errno(t, "Range", e, api.OK)
				}
			}
		}
	})
}

// A10: classes, and their order.
func TestRigid(t *testing.T) {
	tie := func(a, b, size int) []api.Bound {
		return []api.Bound{{From: a, To: b, Most: size}, {From: b, To: a, Most: -size}}
	}
	for _, x := range []struct {
		name string
		s    api.System
		want [][]int
	}{
		{"the chapter's", plus(chapter(), api.Bound{From: 1, To: 0, Most: -5, Record: 6}), [][]int{{0, 1}, {2}, {3}}},
		{"none joined", chapter(), [][]int{{0}, {1}, {2}, {3}}},
		{"one point", api.System{N: 1}, [][]int{{0}}},
		{"away from the point 0", plus(api.System{N: 5}, slices.Concat(tie(4, 2, -3), tie(3, 1, 7))...), [][]int{{0}, {1, 3}, {2, 4}}},
		{"all in one", plus(api.System{N: 4}, slices.Concat(tie(3, 1, 2), tie(2, 0, -2), tie(1, 2, 0))...), [][]int{{0, 1, 2, 3}}},
		{"by a circle of 0", api.System{N: 4, Bounds: []api.Bound{{From: 1, To: 2, Most: 3}, {From: 2, To: 3, Most: 4}, {From: 3, To: 1, Most: -7}}}, [][]int{{0}, {1, 2, 3}}},
		{"almost", api.System{N: 2, Bounds: []api.Bound{{From: 0, To: 1, Most: 3}, {From: 1, To: 0, Most: -2}}}, [][]int{{0}, {1}}},
		{"one end alone", api.System{N: 2, Bounds: []api.Bound{{From: 0, To: 1}}}, [][]int{{0}, {1}}},
	} {
		l, e := line.Rigid(x.s)
		expect.Errno(t, x.name, e, api.OK)
		if !slices.EqualFunc(l, x.want, slices.Equal[[]int]) {
			t.Errorf("%s: %v, want %v", x.name, l, x.want)
		}
	}
}

// A10, P1.5: two points are in one class exactly if their difference has one value.
func TestRigidIsExact(t *testing.T) {
	joined := 0
	eachConsistent(t, 4000, func(t *testing.T, r *rand.Rand, s api.System, d table) {
		l, e := line.Rigid(s)
		expect.Errno(t, "Rigid", e, api.OK)
		if all := slices.Sorted(slices.Values(slices.Concat(l...))); len(all) != s.N || all[0] != 0 || all[s.N-1] != s.N-1 || len(slices.Compact(all)) != s.N {
			t.Errorf("Rigid: %v of %d points", l, s.N)
			return
		}
		class := make([]int, s.N)
		for k, x := range l {
			if !slices.IsSorted(x) || k > 0 && l[k-1][0] > x[0] {
				t.Errorf("Rigid: %v is not in order", l)
			}
			for _, p := range x {
				class[p] = k
			}
		}
		for a := range s.N {
			for b := range a {
				one := d[a][b].is && d[b][a].is && d[a][b].most == -d[b][a].most
				expect.Equal(t, "in one class", class[a] == class[b], one)
				if one {
					joined++
				}
			}
		}
	})
	if joined < 100 {
		t.Errorf("only %d pairs in one class", joined)
	}
}
