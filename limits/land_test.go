package limits_test

import (
	"math"
	"math/rand/v2"
	"slices"
	"testing"

	"merestone/api"
	"merestone/deed"
	"merestone/expect"
	"merestone/limits"
)

// valley is a field with three limits and parcels that meet at stations, with records that leave little open.
func valley() (api.Field, []api.Record) {
	f, _ := deed.ParseField(`
station a 0
station b 100
station c 200
station d 300
limit wall
limit hedge
limit burn
parcel east wall b d
parcel west wall a b
parcel mead hedge a c
`)
	return f, read(f, "stone wall a 100 5", "stone wall b 100 5", "stone hedge a 200 5", "stone hedge b 200 5", "stone burn b 300 5", "width hedge burn a 0 40")
}

// sure fails unless Sure says what it should.
func sure(t *testing.T, f api.Field, l []api.Record, parcel, station int, want [2]int, e api.Errno) {
	t.Helper()
	from, to, got := limits.Sure(f, l, parcel, station)
	expect.Errno(t, "Sure", got, e)
	expect.Equal(t, "Sure", [2]int{from, to}, want)
}

// D9: parcels at their first station, at their last one, and beyond.
func TestSure(t *testing.T) {
	f, l := valley()
	sure(t, f, l, 1, 0, [2]int{105, 195}, api.OK)
	sure(t, f, l, 1, 1, [2]int{}, api.ErrNone)
	sure(t, f, l, 1, 2, [2]int{}, api.ErrNone)
	sure(t, f, l, 0, 0, [2]int{}, api.ErrNone)
	sure(t, f, l, 0, 1, [2]int{105, 195}, api.OK)
	sure(t, f, l, 0, 2, [2]int{}, api.OK) // nothing is known of the limits there
	sure(t, f, l, 0, 3, [2]int{}, api.ErrNone)
	sure(t, f, l, 2, 0, [2]int{}, api.OK)
	sure(t, f, l, 2, 1, [2]int{205, 295}, api.OK)
	sure(t, f, l, 2, 2, [2]int{}, api.ErrNone)
	sure(t, f, l, 2, 3, [2]int{}, api.ErrNone)
	for _, x := range [][2]int{{-1, 0}, {3, 0}, {0, -1}, {0, 4}, {-1, -1}, {3, 4}, {math.MinInt, 0}, {0, math.MaxInt}} {
		sure(t, f, l, x[0], x[1], [2]int{}, api.ErrArg)
	}
	f = example()
	for _, x := range []struct {
		line string
		want [2]int
	}{
		{"stone burn ash 211 0", [2]int{210, 211}},
		{"stone burn ash 210 0", [2]int{}}, // the high end of the dyke
		{"stone burn ash 250 40", [2]int{}},
		{"stone burn ash 250 39", [2]int{210, 211}},
		{"stone burn ash 100000 0", [2]int{210, 100000}},
	} {
		sure(t, f, examples(x.line), 0, 0, x.want, api.OK)
	}
	sure(t, f, nil, 0, 0, [2]int{}, api.OK)
	sure(t, f, read(f, "stone dyke ash 0 0", "stone burn ash 100000 0"), 0, 0, [2]int{0, 100000}, api.OK)
}

// D9: ErrNone comes behind ErrConflict, and ErrArg before it.
func TestSureErrors(t *testing.T) {
	l := examples("stone dyke oak 100 0")
	sure(t, example(), l, 0, 2, [2]int{}, api.ErrConflict)
	sure(t, example(), l, 0, 0, [2]int{}, api.ErrConflict)
	sure(t, example(), l, 0, 3, [2]int{}, api.ErrArg)
	sure(t, example(), l, 1, 2, [2]int{}, api.ErrArg)
}

// whose fails unless Whose and May say what they should.
func whose(t *testing.T, f api.Field, l []api.Record, station, unit int, owner int, may ...int) {
	t.Helper()
	i, is, e := limits.Whose(f, l, station, unit)
	expect.Errno(t, "Whose", e, api.OK)
	expect.Equal(t, "Whose", is, owner >= 0)
	expect.Equal(t, "Whose", i, max(0, owner))
	list, e := limits.May(f, l, station, unit)
	expect.Errno(t, "May", e, api.OK)
	expect.List(t, "May", list, may...)
}

// D10: units at the ends of regions, at the stations of the parcels.
func TestWhose(t *testing.T) {
	f, l := valley()
	for _, x := range []struct {
		unit, owner int
		may         []int
	}{
		{0, -1, nil}, {94, -1, nil}, {95, -1, []int{0}}, {104, -1, []int{0}}, {105, 0, []int{0}}, {150, 0, []int{0}}, {194, 0, []int{0}},
		{195, -1, []int{0, 2}}, {204, -1, []int{0, 2}}, {205, 2, []int{2}}, {294, 2, []int{2}}, {295, -1, []int{2}}, {304, -1, []int{2}}, {305, -1, nil}, {99999, -1, nil},
	} {
		whose(t, f, l, 1, x.unit, x.owner, x.may...)
	}
	whose(t, f, l, 0, 150, 1, 1)
	whose(t, f, l, 0, 205, -1, 2) // the burn may meet the hedge
	whose(t, f, l, 0, 244, -1, 2)
	whose(t, f, l, 0, 245, -1)
	whose(t, f, l, 2, 150, -1, 0)
	whose(t, f, l, 3, 150, -1) // all parcels end there
	for _, unit := range []int{0, 1, 50000, 99999} {
		whose(t, example(), nil, 0, unit, -1, 0)
		whose(t, example(), read(example(), "stone dyke ash 0 0", "stone burn ash 100000 0"), 0, unit, 0, 0)
		whose(t, example(), nil, 2, unit, -1)
	}
}

// D10: limits that meet wherever they lie leave nothing between them.
func TestMayBetweenLimitsThatMeet(t *testing.T) {
	f := example()
	whose(t, f, read(f, "along dyke burn ash oak"), 0, 500, -1)
	whose(t, f, read(f, "along dyke burn ash oak"), 1, 500, -1)
	whose(t, f, read(f, "along dyke burn oak elm"), 0, 500, -1, 0)
	whose(t, f, read(f, "width dyke burn ash 1 0"), 0, 500, -1, 0)
	whose(t, f, read(f, "stone dyke ash 500 10", "width dyke burn ash 1 0"), 0, 490, -1, 0)
	whose(t, f, read(f, "stone dyke ash 500 10", "width dyke burn ash 1 0"), 0, 510, -1, 0)
	whose(t, f, read(f, "stone dyke ash 500 10", "width dyke burn ash 1 0"), 0, 489, -1)
	whose(t, f, read(f, "stone dyke ash 500 10", "width dyke burn ash 1 0"), 0, 511, -1)
	whose(t, f, read(f, "stone dyke ash 500 0", "width dyke burn ash 1 0"), 0, 500, 0, 0)
}

// D10: what is no unit or no station is ErrArg, before ErrConflict.
func TestWhoseErrors(t *testing.T) {
	f := example()
	for _, x := range []struct {
		station, unit int
		want          api.Errno
	}{
		{0, -1, api.ErrArg}, {0, 0, api.OK}, {0, 99999, api.OK}, {0, 100000, api.ErrArg}, {0, math.MinInt, api.ErrArg}, {0, math.MaxInt, api.ErrArg},
		{-1, 5, api.ErrArg}, {2, 5, api.OK}, {3, 5, api.ErrArg}, {-1, -1, api.ErrArg}, {math.MinInt, 5, api.ErrArg}, {math.MaxInt, 5, api.ErrArg},
	} {
		for _, l := range [][]api.Record{examples(), examples("stone dyke oak 100 0")} {
			want := x.want
			if want == api.OK && len(l) > 3 {
				want = api.ErrConflict
			}
			i, is, e := limits.Whose(f, l, x.station, x.unit)
			expect.Errno(t, "Whose", e, want)
			expect.Equal(t, "Whose", is || i != 0, false)
			list, e := limits.May(f, l, x.station, x.unit)
			expect.Errno(t, "May", e, want)
			expect.Equal(t, "May", len(list) > 0, want == api.OK && x.unit == 99999) // the others lie south of the dyke, or where no parcel is
		}
	}
}

// owners returns the parcels to which a drawing gives a unit.
func owners(f api.Field, y []int, station, unit int) []int {
	var l []int
	for i, p := range f.Parcels {
		if p.From <= station && station < p.To && y[at(f, p.South, station)] <= unit && y[at(f, p.South+1, station)] >= unit+1 {
			l = append(l, i)
		}
	}
	return l
}

// D9, D10, P4.6: what all drawings give of the land.
func TestLandOfAllDrawings(t *testing.T) {
	surely, perhaps := 0, 0
	eachAgreed(t, 150, func(r *rand.Rand, s scene) {
		for station := range s.f.Stations {
			for unit := range 13 {
				all := owners(s.f, s.all[0], station, unit)
				var some []int
				for _, y := range s.all {
					l := owners(s.f, y, station, unit)
					all = slices.DeleteFunc(all, func(i int) bool { return !slices.Contains(l, i) })
					some = append(some, l...)
				}
				slices.Sort(some)
				some = slices.Compact(some)
				owner := -1
				if len(all) > 0 {
					owner = all[0]
					surely++
				}
				expect.Equal(t, "one owner at most", len(all) <= 1, true)
				expect.Equal(t, "if it is one's no other one may have it", owner < 0 || len(some) == 1, true)
				whose(t, s.f, s.l, station, unit, owner, some...)
				perhaps += len(some)
			}
			sureOfAll(t, s, station)
		}
	})
	if surely < 50 || perhaps < surely+100 {
		t.Errorf("%d units are surely, %d perhaps somebody's", surely, perhaps)
	}
}

// sureOfAll fails unless Sure says of each parcel what all drawings give it at a station.
func sureOfAll(t *testing.T, s scene, station int) {
	t.Helper()
	for i, p := range s.f.Parcels {
		if station < p.From || station >= p.To {
			sure(t, s.f, s.l, i, station, [2]int{}, api.ErrNone)
			continue
		}
		from := slices.Max(values(s.all, at(s.f, p.South, station)))
		to := slices.Min(values(s.all, at(s.f, p.South+1, station)))
		if from >= to {
			from, to = 0, 0
		}
		sure(t, s.f, s.l, i, station, [2]int{from, to}, api.OK)
		for unit := from; unit < to; unit++ {
			whose(t, s.f, s.l, station, unit, i, i)
		}
	}
}

// P4.5: with one more record what was surely a parcel's stays so, and no parcel more may have a unit.
func TestLandStays(t *testing.T) {
	eachField(t, 150, func(r *rand.Rand, f api.Field, l []api.Record) {
		if len(l) == 0 || !agree(f, l) {
			return
		}
		fewer := l[:len(l)-1]
		for station := range f.Stations {
			unit := r.IntN(14)
			before, was, _ := limits.Whose(f, fewer, station, unit)
			after, is, e := limits.Whose(f, l, station, unit)
			expect.Errno(t, "Whose", e, api.OK)
			expect.Equal(t, "it stays", !was || is && before == after, true)
			could, _ := limits.May(f, fewer, station, unit)
			can, e := limits.May(f, l, station, unit)
			expect.Errno(t, "May", e, api.OK)
			expect.Equal(t, "no parcel more", slices.ContainsFunc(can, func(i int) bool { return !slices.Contains(could, i) }), false)
			for i := range f.Parcels {
				from, to, _ := limits.Sure(f, fewer, i, station)
				low, high, _ := limits.Sure(f, l, i, station)
				expect.Equal(t, "what is sure stays", from == to || low <= from && to <= high, true)
			}
		}
	})
}
