package limits_test

import (
	"math"
	"math/rand/v2"
	"slices"
	"testing"

	"merestone/api"
	"merestone/expect"
	"merestone/limits"
	"merestone/line"
)

// conflict fails unless Conflict says what it should.
func conflict(t *testing.T, name string, f api.Field, l []api.Record, want ...int) {
	t.Helper()
	ids, is, e := limits.Conflict(f, l)
	expect.Errno(t, name, e, api.OK)
	expect.Equal(t, name, is, len(want) > 0)
	expect.List(t, name, ids, want...)
}

// D3: records that contradict each other, two at a time and only all together.
func TestConflict(t *testing.T) {
	f := example()
	for _, x := range []struct {
		name  string
		lines []string
		want  []int
	}{
		{"no records", nil, nil},
		{"two that agree", []string{"stone dyke ash 100 5", "stone dyke ash 110 5"}, nil},
		{"two that do not", []string{"stone dyke ash 100 5", "stone dyke ash 111 5"}, []int{1, 2}},
		{"two, with others between", []string{"stone burn elm 5 5", "stone dyke ash 100 5", "level dyke ash oak 5 5", "stone dyke ash 111 5"}, []int{2, 4}},
		{"limits that would cross", []string{"stone dyke oak 200 10", "stone burn oak 179 10"}, []int{1, 2}},
		{"limits that meet", []string{"stone dyke oak 200 10", "stone burn oak 180 10"}, nil},
		{"three together", []string{"stone dyke ash 100 0", "level dyke ash oak 50 5", "stone dyke oak 144 0"}, []int{1, 2, 3}},
		{"three that agree", []string{"stone dyke ash 100 0", "level dyke ash oak 50 5", "stone dyke oak 145 0"}, nil},
		{"a ring of levels", []string{"level dyke ash oak 10 1", "level dyke oak elm 10 1", "level dyke elm ash -17 0"}, []int{1, 2, 3}},
		{"a ring of levels that closes", []string{"level dyke ash oak 10 1", "level dyke oak elm 10 1", "level dyke elm ash -18 0"}, nil},
		{"too far from the baseline", []string{"stone dyke ash 100 0", "level dyke ash oak -101 0"}, []int{1, 2}},
		{"just at the baseline", []string{"stone dyke ash 100 0", "level dyke ash oak -100 0"}, nil},
		{"too far north", []string{"level dyke ash oak 60000 0", "level burn oak elm 40001 0"}, []int{1, 2}},
		{"just not too far north", []string{"level dyke ash oak 60000 0", "level burn oak elm 40000 0"}, nil},
		{"a shorter circle comes first", []string{"stone dyke ash 100 0", "level dyke ash oak 50 5", "stone dyke oak 144 0", "stone dyke ash 90 5"}, []int{1, 4}},
	} {
		conflict(t, x.name, f, read(f, x.lines...), x.want...)
	}
}

// checkConflict fails unless CheckConflict says what it should.
func checkConflict(t *testing.T, l []api.Record, want bool, ids ...int) {
	t.Helper()
	is, e := limits.CheckConflict(example(), l, ids)
	expect.Errno(t, "CheckConflict", e, api.OK)
	if is != want {
		t.Errorf("CheckConflict of %v: %v", ids, is)
	}
}

// D3: lists of Ids that show a contradiction, and others.
func TestCheckConflict(t *testing.T) {
	l := read(example(), "stone dyke ash 100 0", "stone burn ash 300 0", "level dyke ash oak 50 5", "stone dyke oak 144 0", "stone burn ash 310 9")
	for i, id := range []int{3, 8, 9, 70, 1000000} {
		l[i].Id = id
	}
	for _, ids := range [][]int{{3, 9, 70}, {8, 1000000}, {3, 8, 9, 70}, {3, 8, 1000000}, {3, 9, 70, 1000000}, {3, 8, 9, 70, 1000000}} {
		checkConflict(t, l, true, ids...)
	}
	for _, ids := range [][]int{
		nil, {}, {3}, {8}, {1000000}, {3, 9}, {3, 70}, {9, 70}, {3, 8, 9}, {3, 1000000}, {9, 70, 1000000}, // these agree
		{9, 3, 70}, {3, 70, 9}, {70, 9, 3}, {1000000, 8}, // another order
		{8, 8, 1000000}, {8, 1000000, 1000000}, {3, 3, 9, 70}, {3, 9, 9, 70}, {3, 9, 70, 70}, // twice
		{3, 9, 70, 71}, {0, 8, 1000000}, {1, 8, 1000000}, {8, 10, 1000000}, {8, 1000000, 1000001}, {-1, 8, 1000000}, {math.MinInt, 8, 1000000}, {8, 1000000, math.MaxInt}, {5}, // unknown
	} {
		checkConflict(t, l, false, ids...)
	}
	checkConflict(t, nil, false)
	checkConflict(t, nil, false, 1)
	checkConflict(t, examples(), false, 1, 2, 3)
}

// ascending returns some of the Ids of records, in their order.
func ascending(r *rand.Rand, l []api.Record) []int {
	most := 1 + r.IntN(4)
	return slices.DeleteFunc(idsOf(l), func(int) bool { return r.IntN(most) > 0 })
}

// D3, P4.3: a contradiction is found exactly if no drawing is allowed, by whatever records.
func TestConflictOrDrawings(t *testing.T) {
	count := [2]int{}
	eachField(t, 400, func(r *rand.Rand, f api.Field, l []api.Record) {
		ids, is, e := limits.Conflict(f, l)
		expect.Errno(t, "Conflict", e, api.OK)
		expect.Equal(t, "Conflict", is, !agree(f, l))
		expect.Equal(t, "the Ids of Conflict", len(ids) > 0, is)
		shown, e := limits.CheckConflict(f, l, ids)
		expect.Errno(t, "CheckConflict", e, api.OK)
		expect.Equal(t, "CheckConflict", shown, is)
		s := bounded(f, l)
		circle, _, _ := line.Circle(s)
		want, _ := line.Records(s, circle)
		expect.List(t, "Conflict", ids, want...)
		for range 5 {
			some := ascending(r, l)
			shown, _ := limits.CheckConflict(f, l, some)
			expect.Equal(t, "CheckConflict of some", shown, !agree(f, chosen(l, some)))
		}
		for _, end := range []func(api.Field, []api.Record) ([]int, api.Errno){limits.First, limits.Last} {
			y, e := end(f, l)
			drawn, _ := limits.CheckDrawing(f, l, y)
			expect.Equal(t, "First and Last are drawings", drawn, !is)
			expect.Equal(t, "First and Last have no error", e == api.OK, !is)
		}
		if is {
			count[0]++
		} else {
			count[1]++
		}
	})
	if count[0] < 60 || count[1] < 60 {
		t.Errorf("%d contradictions, %d not", count[0], count[1])
	}
}

// P4.3: a contradiction is found exactly if there is none of all drawings.
func TestConflictOrAll(t *testing.T) {
	none := 0
	eachScene(t, 150, func(r *rand.Rand, s scene) {
		_, is, e := limits.Conflict(s.f, s.l)
		expect.Errno(t, "Conflict", e, api.OK)
		expect.Equal(t, "Conflict", is, len(s.all) == 0)
		if is {
			none++
		}
	})
	if none < 15 || none > 135 {
		t.Errorf("%d without a drawing", none)
	}
}

// why fails unless Why says what it should.
func why(t *testing.T, l []api.Record, c api.Corner, upper bool, want ...int) {
	t.Helper()
	ids, e := limits.Why(example(), l, c, upper)
	expect.Errno(t, "Why", e, api.OK)
	expect.List(t, "Why", ids, want...)
}

// D5: both ends, those that nature alone shows, and the first of several proofs.
func TestWhy(t *testing.T) {
	l := examples()
	why(t, l, dyke(0), true, 1)
	why(t, l, dyke(0), false, 1)
	why(t, l, dyke(1), false, 1, 2)
	why(t, l, burn(1), false, 1, 2, 3)
	why(t, l, burn(0), false, 1) // it is not south of the dyke
	why(t, l, burn(0), true)
	why(t, l, dyke(2), true)
	why(t, nil, dyke(0), true)
	why(t, nil, dyke(0), false)
	short := examples("stone dyke oak 200 65")
	why(t, short, dyke(1), true, 4)
	why(t, short, dyke(1), false, 1, 2)
	first := examples("stone dyke ash 205 5")
	why(t, first, dyke(0), true, 1)
	why(t, first, dyke(0), false, 4)
}

// D5, P4.2: whatever Why returns, CheckWhy accepts with the end of the region, and with no narrower one that these records do not show.
func TestWhyShows(t *testing.T) {
	eachField(t, 300, func(r *rand.Rand, f api.Field, l []api.Record) {
		if !agree(f, l) {
			return
		}
		s := bounded(f, l)
		for p, c := range corners(f) {
			ends := region(t, f, l, c)
			for i, upper := range []bool{false, true} {
				ids, e := limits.Why(f, l, c, upper)
				expect.Errno(t, "Why", e, api.OK)
				from, to := p+1, 0
				if upper {
					from, to = 0, p+1
				}
				path, _ := line.Path(s, from, to)
				want, _ := line.Records(s, path)
				expect.List(t, "Why", ids, want...)
				for _, x := range []struct {
					end  int
					want bool
				}{{ends[i], true}, {ends[i] - 1, !upper}, {ends[i] + 1, upper}} {
					is, e := limits.CheckWhy(f, l, c, upper, x.end, ids)
					expect.Errno(t, "CheckWhy", e, api.OK)
					expect.Equal(t, "CheckWhy of Why", is, x.want)
				}
			}
		}
	})
}

// checkWhy fails unless CheckWhy says what it should of the dyke at oak.
func checkWhy(t *testing.T, l []api.Record, upper bool, end int, want bool, ids ...int) {
	t.Helper()
	is, e := limits.CheckWhy(example(), l, dyke(1), upper, end, ids)
	expect.Errno(t, "CheckWhy", e, api.OK)
	if is != want {
		t.Errorf("CheckWhy of %v, %v, %d: %v", ids, upper, end, is)
	}
}

// D5: ends and lists of Ids that show them, and others.
func TestCheckWhy(t *testing.T) {
	l := examples("stone dyke oak 100 0", "stone dyke oak 240 10")
	for i, id := range []int{3, 8, 9, 70, 1000000} {
		l[i].Id = id
	}
	for _, end := range []int{265, 266, 300, math.MaxInt} {
		checkWhy(t, l, true, end, true, 3, 8)
		checkWhy(t, l, true, end, true, 3, 8, 9)
	}
	for _, end := range []int{264, 235, 0, -1, math.MinInt} {
		checkWhy(t, l, true, end, false, 3, 8)
	}
	for _, end := range []int{235, 234, 0, -1, math.MinInt} {
		checkWhy(t, l, false, end, true, 3, 8)
	}
	for _, end := range []int{236, 265, math.MaxInt} {
		checkWhy(t, l, false, end, false, 3, 8)
	}
	checkWhy(t, l, true, 250, true, 3, 8, 1000000)
	checkWhy(t, l, true, 249, false, 3, 8, 1000000)
	checkWhy(t, l, false, 235, true, 3, 8, 1000000)
	checkWhy(t, l, true, 100, true, 70)
	checkWhy(t, l, false, 100, true, 70)
	checkWhy(t, l, true, 99700, true, 9) // the burn lies 300 north of it
	checkWhy(t, l, true, 99699, false, 9)
	for _, ids := range [][]int{nil, {}, {3}, {8}} {
		checkWhy(t, l, true, 100000, true, ids...)
		checkWhy(t, l, false, 0, true, ids...)
		checkWhy(t, l, true, 99954, false, ids...)
		checkWhy(t, l, false, 46, false, ids...)
	}
	for _, ids := range [][]int{
		{3, 8, 70}, {3, 8, 9, 70}, {70, 1000000}, {3, 8, 9, 70, 1000000}, // these contradict each other
		{8, 3}, {9, 8, 3}, {1000000, 3}, // another order
		{3, 3}, {3, 3, 8}, {3, 8, 8}, // twice
		{0}, {1}, {3, 4}, {2, 3, 8}, {3, 8, 10}, {3, 8, 1000001}, {-1}, {math.MinInt, 3}, {3, math.MaxInt}, // unknown
	} {
		checkWhy(t, l, true, math.MaxInt, false, ids...)
		checkWhy(t, l, false, math.MinInt, false, ids...)
	}
	checkWhy(t, nil, true, 100000, true)
	checkWhy(t, nil, true, 99999, false)
	checkWhy(t, nil, false, 0, true)
	checkWhy(t, nil, false, 1, false)
}

// D5: some records by themselves, also where all together contradict each other.
func TestCheckWhyOfSome(t *testing.T) {
	count := [2]int{}
	eachField(t, 300, func(r *rand.Rand, f api.Field, l []api.Record) {
		for range 10 {
			ids := ascending(r, l)
			p := 1 + r.IntN(len(f.Limits)*len(f.Stations))
			c := corners(f)[p-1]
			d, agrees := distances(f, chosen(l, ids))
			for _, upper := range []bool{true, false} {
				end := r.IntN(30)
				want := false
				if agrees && r.IntN(2) == 0 {
					end = map[bool]int{true: d[0][p], false: -d[p][0]}[upper] + r.IntN(3) - 1
				}
				if agrees {
					want = upper && d[0][p] <= end || !upper && -d[p][0] >= end
				}
				is, e := limits.CheckWhy(f, l, c, upper, end, ids)
				expect.Errno(t, "CheckWhy", e, api.OK)
				expect.Equal(t, "CheckWhy", is, want)
				if is {
					count[0]++
				} else {
					count[1]++
				}
			}
		}
	})
	if count[0] < 500 || count[1] < 500 {
		t.Errorf("%d are accepted, %d not", count[0], count[1])
	}
}

// P4.2: whatever CheckWhy accepts of records that agree, each drawing keeps.
func TestWhatIsShownIsKept(t *testing.T) {
	accepted := 0
	eachAgreed(t, 150, func(r *rand.Rand, s scene) {
		for range 20 {
			p := 1 + r.IntN(len(s.all[0])-1)
			c := corners(s.f)[p-1]
			ids, upper, end := ascending(r, s.l), r.IntN(2) == 0, r.IntN(12)-2
			is, e := limits.CheckWhy(s.f, s.l, c, upper, end, ids)
			expect.Errno(t, "CheckWhy", e, api.OK)
			if !is {
				continue
			}
			accepted++
			for _, v := range values(s.all, p) {
				expect.Equal(t, "the end is kept", upper && v <= end || !upper && v >= end, true)
			}
		}
	})
	if accepted < 300 {
		t.Errorf("%d are accepted", accepted)
	}
}
