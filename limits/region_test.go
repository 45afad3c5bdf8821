package limits_test

import (
	"math/rand/v2"
	"slices"
	"testing"

	"merestone/api"
	"merestone/expect"
	"merestone/limits"
)

// width is Width, which has no error.
func width(t *testing.T, f api.Field, l []api.Record, a, b api.Corner) [2]int {
	t.Helper()
	low, high, e := limits.Width(f, l, a, b)
	expect.Errno(t, "Width", e, api.OK)
	return [2]int{low, high}
}

// D4: what nature alone allows.
func TestRegionByNature(t *testing.T) {
	for _, f := range []api.Field{example(), fieldOf(2, 1), fieldOf(12, 10)} {
		for _, c := range corners(f) {
			expect.Equal(t, "Region", region(t, f, nil, c), [2]int{0, 100000})
			expect.Equal(t, "Width of a corner", width(t, f, nil, c, c), [2]int{0, 0})
		}
	}
	f := example()
	expect.Equal(t, "to the limit north of it", width(t, f, nil, dyke(1), burn(1)), [2]int{0, 100000})
	expect.Equal(t, "to the limit south of it", width(t, f, nil, burn(1), dyke(1)), [2]int{-100000, 0})
	expect.Equal(t, "to the next station", width(t, f, nil, dyke(1), dyke(2)), [2]int{-100000, 100000})
	expect.Equal(t, "the greatest offset", region(t, f, read(f, "stone dyke ash 100000 0"), burn(0)), [2]int{100000, 100000})
	expect.Equal(t, "the least offset", region(t, f, read(f, "stone burn elm 0 0"), dyke(2)), [2]int{0, 0})
	expect.Equal(t, "cut off in the south", region(t, f, read(f, "stone dyke ash 3 10"), dyke(0)), [2]int{0, 13})
	expect.Equal(t, "cut off in the north", region(t, f, read(f, "stone dyke ash 99990 20"), dyke(0)), [2]int{99970, 100000})
}

// D4, P4.2: regions and widths are what all drawings have, and each offset of a region is that of one.
func TestRegionsAreSharp(t *testing.T) {
	eachAgreed(t, 120, func(r *rand.Rand, s scene) {
		all := corners(s.f)
		for p, c := range all {
			offsets := values(s.all, p+1)
			low, high := slices.Min(offsets), slices.Max(offsets)
			expect.Equal(t, "Region", region(t, s.f, s.l, c), [2]int{low, high})
			for y := low - 2; y <= high+2; y++ {
				_, is, e := limits.Through(s.f, s.l, c, y)
				expect.Errno(t, "Through", e, api.OK)
				expect.Equal(t, "Through", is, low <= y && y <= high)
				expect.Equal(t, "an offset of a drawing", slices.Contains(offsets, y), is)
			}
			q := r.IntN(len(all))
			var differences []int
			for _, y := range s.all {
				differences = append(differences, y[q+1]-y[p+1])
			}
			want := [2]int{slices.Min(differences), slices.Max(differences)}
			expect.Equal(t, "Width", width(t, s.f, s.l, c, all[q]), want)
			expect.Equal(t, "Width the other way", width(t, s.f, s.l, all[q], c), [2]int{-want[1], -want[0]})
		}
	})
}

// D4, P4.6: regions and widths by distances; the ends of a station's corners do not fall from south to north.
func TestRegions(t *testing.T) {
	eachField(t, 150, func(r *rand.Rand, f api.Field, l []api.Record) {
		d, is := distances(f, l)
		if !is {
			return
		}
		all := corners(f)
		for p, c := range all {
			got := region(t, f, l, c)
			expect.Equal(t, "Region", got, [2]int{-d[p+1][0], d[0][p+1]})
			if c.Limit > 0 {
				south := region(t, f, l, api.Corner{Limit: c.Limit - 1, Station: c.Station})
				expect.Equal(t, "the ends do not fall", south[0] <= got[0] && south[1] <= got[1], true)
			}
			for q := range all {
				expect.Equal(t, "Width", width(t, f, l, c, all[q]), [2]int{-d[q+1][p+1], d[p+1][q+1]})
			}
		}
	})
}

// renumbered returns records in another order, with other Ids.
func renumbered(r *rand.Rand, l []api.Record) []api.Record {
	l = slices.Clone(l)
	r.Shuffle(len(l), func(i, j int) { l[i], l[j] = l[j], l[i] })
	id := 0
	for i := range l {
		id += 1 + r.IntN(1000)
		l[i].Id = id
	}
	return l
}

// P4.5: records in another order, with other Ids, of other days, deeds and ranks, have the same regions and widths.
func TestOrderOfRecords(t *testing.T) {
	eachField(t, 100, func(r *rand.Rand, f api.Field, l []api.Record) {
		if !agree(f, l) {
			_, is, _ := limits.Conflict(f, renumbered(r, l))
			expect.Equal(t, "a contradiction in another order", is, true)
			return
		}
		m := renumbered(r, l)
		for i := range m {
			m[i].Day, m[i].Deed, m[i].Rank = r.IntN(100001), "other", r.IntN(1001)
		}
		all := corners(f)
		for _, c := range all {
			expect.Equal(t, "Region in another order", region(t, f, m, c), region(t, f, l, c))
			o := all[r.IntN(len(all))]
			expect.Equal(t, "Width in another order", width(t, f, m, c, o), width(t, f, l, c, o))
		}
	})
}

// within says whether a range lies in another one.
func within(a, b [2]int) bool { return b[0] <= a[0] && a[1] <= b[1] }

// P4.5, D11: one more record narrows regions and widths or leaves them; Narrows has the corners whose regions change.
func TestNarrows(t *testing.T) {
	narrowed, left := 0, 0
	eachField(t, 250, func(r *rand.Rand, f api.Field, l []api.Record) {
		id := 1
		if len(l) > 0 {
			id += l[len(l)-1].Id
		}
		one := recordOf(r, f, truth(r, f, 12), id)
		more := append(slices.Clone(l), one)
		got, e := limits.Narrows(f, l, one)
		if !agree(f, more) {
			expect.Errno(t, "Narrows", e, api.ErrConflict)
			expect.List(t, "Narrows", got)
			return
		}
		expect.Errno(t, "Narrows", e, api.OK)
		var want []api.Corner
		all := corners(f)
		for _, c := range all {
			before, after := region(t, f, l, c), region(t, f, more, c)
			expect.Equal(t, "a region is narrowed", within(after, before), true)
			if before != after {
				want = append(want, c)
			}
			o := all[r.IntN(len(all))]
			expect.Equal(t, "a width is narrowed", within(width(t, f, more, c, o), width(t, f, l, c, o)), true)
		}
		expect.List(t, "Narrows", got, want...)
		narrowed += len(want)
		left += len(all) - len(want)
	})
	if narrowed < 100 || left < 100 {
		t.Errorf("%d regions are narrowed, %d are not", narrowed, left)
	}
}

// D11: corners in the order of their points; a record that changes nothing, and one that changes widths alone.
func TestNarrowsExamples(t *testing.T) {
	f := example()
	for _, x := range []struct {
		line string
		want []api.Corner
	}{
		{"stone dyke ash 200 10", nil},
		{"stone dyke oak 250 15", nil},
		{"stone dyke oak 250 14", []api.Corner{dyke(1), burn(1)}},
		{"stone dyke ash 200 9", []api.Corner{dyke(0), dyke(1), burn(0), burn(1)}},
		{"stone burn elm 500 9", []api.Corner{dyke(2), burn(2)}},
		{"width dyke burn elm 0 100000", nil},
		{"level dyke ash oak 50 3", []api.Corner{dyke(1), burn(1)}},
		{"level burn oak elm 0 100000", nil},
		{"width dyke burn elm 0 99999", nil}, // the width changes, and no region
	} {
		l := examples(x.line)
		got, e := limits.Narrows(f, l[:3], l[3])
		expect.Errno(t, x.line, e, api.OK)
		expect.List(t, x.line, got, x.want...)
	}
	got, e := limits.Narrows(f, nil, examples()[0])
	expect.Errno(t, "the first record", e, api.OK)
	expect.List(t, "the first record", got, dyke(0), burn(0))
}

// D11: the error of Check of all records comes first of all, then ErrConflict.
func TestNarrowsErrors(t *testing.T) {
	f := example()
	l := examples("stone dyke oak 100 0")
	narrows := func(name string, f api.Field, l []api.Record, r api.Record, want api.Errno) {
		got, e := limits.Narrows(f, l, r)
		expect.Errno(t, name, e, want)
		expect.List(t, name, got)
	}
	narrows("a contradiction", f, l[:3], l[3], api.ErrConflict)
	last := l[2]
	last.Id = 5
	narrows("one that was there", f, []api.Record{l[0], l[1], l[3]}, last, api.ErrConflict)
	for _, x := range wrongChanges() {
		r := with(l, 1, x.change)[1]
		if r.Id <= 1 || r.Id > 1000000 {
			continue
		}
		narrows(x.name, f, l[:1], r, x.want)
		r.Id = 9
		if x.want != api.OK && limitsRefuse(f, r) {
			narrows(x.name+" and a contradiction", f, l, r, x.want)
		}
	}
	for _, id := range []int{-1, 0, 1, 2, 3, 1000001} {
		r := l[3]
		r.Id = id
		narrows("the Id", f, l[:3], r, api.ErrArg)
	}
	for _, x := range faults() {
		narrows(x.name, x.f, l[:3], l[3], x.want)
	}
	var many []api.Record
	for i := range 300 {
		many = append(many, record(i+1, l[0].Call))
	}
	narrows("a record too many", f, many, record(301, l[0].Call), api.ErrLimit)
	got, e := limits.Narrows(f, many[:299], many[299])
	expect.Errno(t, "the last record that there may be", e, api.OK)
	expect.List(t, "the last record that there may be", got)
	narrows("a wrong one before", f, with(many, 3, func(r *api.Record) { r.Rank = -1 }), record(301, l[0].Call), api.ErrArg)
}

// limitsRefuse says whether a record is refused by itself.
func limitsRefuse(f api.Field, r api.Record) bool {
	_, e := limits.Check(f, []api.Record{r})
	return e != api.OK
}

// idle fails unless Idle says what it should.
func idle(t *testing.T, f api.Field, l []api.Record, want ...int) {
	t.Helper()
	ids, e := limits.Idle(f, l)
	expect.Errno(t, "Idle", e, api.OK)
	expect.List(t, "Idle", ids, want...)
}

// D12: records that others imply, twice the same, and one that changes a width alone.
func TestIdle(t *testing.T) {
	f := example()
	idle(t, f, nil)
	idle(t, f, examples())
	idle(t, f, examples("stone dyke oak 250 40"), 4)
	idle(t, f, examples("stone dyke oak 250 15"), 4)
	idle(t, f, examples("stone dyke oak 250 14"))
	idle(t, f, examples("stone dyke ash 200 10"), 1, 4)
	idle(t, f, examples("stone dyke ash 200 0"), 1)
	idle(t, f, examples("stone dyke ash 205 5", "stone dyke ash 195 5"), 1)
	idle(t, f, examples("width dyke burn elm 50000 50000"), 4)
	idle(t, f, examples("width dyke burn elm 0 99999"))
	idle(t, f, examples("level dyke ash oak 50 100", "level dyke oak elm 0 100000"), 4, 5)
	idle(t, f, read(f, "along dyke burn ash elm", "along dyke burn ash oak"), 2)
	idle(t, f, read(f, "along dyke burn ash elm", "width dyke burn elm 0 0"), 2)
	idle(t, f, read(f, "along dyke burn ash oak", "along dyke burn oak elm", "along dyke burn ash elm"), 1, 2, 3)
	_, e := limits.Idle(f, examples("stone dyke oak 100 0"))
	expect.Errno(t, "Idle of a contradiction", e, api.ErrConflict)
}

// D12, P4.7: a record is idle exactly if all regions and widths stay without it.
func TestIdleIsExact(t *testing.T) {
	idles, needed := 0, 0
	eachField(t, 250, func(r *rand.Rand, f api.Field, l []api.Record) {
		d, is := distances(f, l)
		if !is {
			return
		}
		var want []int
		for _, id := range idsOf(l) {
			without, _ := distances(f, others(l, id))
			if slices.EqualFunc(d, without, slices.Equal[[]int]) {
				want = append(want, id)
			}
		}
		idle(t, f, l, want...)
		idles += len(want)
		needed += len(l) - len(want)
		for _, id := range want {
			for _, end := range []func(api.Field, []api.Record) ([]int, api.Errno){limits.First, limits.Last} {
				y, _ := end(f, l)
				z, e := end(f, others(l, id))
				expect.Errno(t, "without an idle record", e, api.OK)
				expect.List(t, "without an idle record", z, y...)
			}
		}
	})
	if idles < 50 || needed < 50 {
		t.Errorf("%d are idle, %d are not", idles, needed)
	}
}
