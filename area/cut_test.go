package area_test

import (
	"math"
	"math/big"
	"math/rand/v2"
	"testing"

	"merestone/api"
	"merestone/area"
	"merestone/deed"
	"merestone/expect"
)

// drawn is the drawing of the chapter's examples of cutting: the parcel is 10 links wide at a, and 20 at b and c.
func drawn() []int { return []int{0, 0, 0, 0, 10, 20, 20} }

// west fails unless West returns a fraction.
func west(t *testing.T, name string, f api.Field, y []int, parcel, x int, want api.Frac) {
	t.Helper()
	got, e := area.West(f, y, parcel, x)
	expect.Errno(t, name, e, api.OK)
	expect.Equal(t, name, got, want)
}

// cut fails unless Cut returns an X.
func cut(t *testing.T, name string, f api.Field, y []int, parcel, area2, want int) {
	t.Helper()
	got, e := area.Cut(f, y, parcel, area2)
	expect.Errno(t, name, e, api.OK)
	expect.Equal(t, name, got, want)
}

// E9: X at, between and beyond stations.
func TestWest(t *testing.T) {
	f := example()
	for x, want := range map[int]api.Frac{
		0: {Num: 0, Den: 1}, 1: {Num: 21, Den: 1}, 5: {Num: 125, Den: 1}, 9: {Num: 261, Den: 1}, 10: {Num: 300, Den: 1},
		11: {Num: 340, Den: 1}, 20: {Num: 700, Den: 1}, 29: {Num: 1060, Den: 1}, 30: {Num: 1100, Den: 1},
	} {
		west(t, name("West", x), f, drawn(), 0, x, want)
	}
	west(t, "a fraction", f, []int{0, 0, 0, 0, 10, 15, 15}, 0, 1, api.Frac{Num: 41, Den: 2})
	west(t, "in lowest terms", f, []int{0, 0, 0, 0, 10, 15, 15}, 0, 2, api.Frac{Num: 42, Den: 1})
	west(t, "falling", f, []int{0, 0, 0, 0, 10, 15, 8}, 0, 13, api.Frac{Num: 250*20 + 3*(30*20-7*3), Den: 20})
	west(t, "no width", f, make([]int, 7), 0, 17, api.Frac{Num: 0, Den: 1})
	for _, x := range []int{-1, 31, 32, math.MinInt, math.MaxInt} {
		got, e := area.West(f, drawn(), 0, x)
		expect.Errno(t, "West", e, api.ErrArg)
		expect.Equal(t, "West", got, api.Frac{})
	}
}

// E9: a parcel that does not begin, and does not end, with the field; its ends are those of its own stations.
func TestWestOfAnInnerParcel(t *testing.T) {
	f := valley()
	for x, want := range map[int]api.Frac{15: {Num: 0, Den: 1}, 16: {Num: 220*25 + 10, Den: 25}, 40: {Num: 5750, Den: 1}, 47: {Num: 7500, Den: 1}} {
		got, e := area.West(f, valleyDrawing(), 0, x)
		expect.Errno(t, "West", e, api.OK)
		expect.Equal(t, "West", float64(got.Num)*float64(want.Den), float64(want.Num)*float64(got.Den))
	}
	for i, ends := range [][2]int{{15, 47}, {5, 15}, {15, 40}, {40, 47}} {
		for _, x := range []int{ends[0] - 1, ends[1] + 1} {
			_, e := area.West(f, valleyDrawing(), i, x)
			expect.Errno(t, "beyond", e, api.ErrArg)
		}
		for _, x := range ends {
			_, e := area.West(f, valleyDrawing(), i, x)
			expect.Errno(t, "at an end", e, api.OK)
		}
		cut(t, "nothing", f, valleyDrawing(), i, 0, ends[0])
		whole, _ := area.Area2(f, i, valleyDrawing())
		cut(t, "all", f, valleyDrawing(), i, whole, ends[1])
	}
}

// E10: areas at, and next to, what lies west of an X; what cannot be cut off.
func TestCut(t *testing.T) {
	f := example()
	for area2, want := range map[int]int{0: 0, 20: 0, 21: 1, 124: 4, 125: 5, 126: 5, 299: 9, 300: 10, 339: 10, 340: 11, 1060: 29, 1099: 29, 1100: 30} {
		cut(t, name("Cut", area2), f, drawn(), 0, area2, want)
	}
	for _, area2 := range []int{-1, 1101, math.MinInt, math.MaxInt} {
		got, e := area.Cut(f, drawn(), 0, area2)
		expect.Errno(t, "Cut", e, api.ErrShare)
		expect.Equal(t, "Cut", got, 0)
	}
}

// E10: where a parcel has no width, the cut lies at the east end of this.
func TestCutWithoutWidth(t *testing.T) {
	f := example()
	cut(t, "no width at all", f, make([]int, 7), 0, 0, 30)
	_, e := area.Cut(f, make([]int, 7), 0, 1)
	expect.Errno(t, "more than nothing", e, api.ErrShare)
	cut(t, "no width in the east", f, []int{0, 0, 0, 0, 5, 0, 0}, 0, 50, 30)
	cut(t, "no width in the east, one less", f, []int{0, 0, 0, 0, 5, 0, 0}, 0, 49, 8) // 8 * (10 - 4) is 48, 9 * (10 - 4.5) more than 49
	cut(t, "no width in the west", f, []int{0, 0, 0, 0, 0, 0, 5}, 0, 0, 10)
	cut(t, "no width in the west, some area", f, []int{0, 0, 0, 0, 0, 0, 5}, 0, 1, 12)
}

// E11: cuts by parts, those of 0 too.
func TestDivide(t *testing.T) {
	for _, x := range []struct {
		name  string
		y     []int
		parts []int
		want  []int
	}{
		{"the chapter's", drawn(), []int{1, 1}, []int{16}},
		{"one part", drawn(), []int{7}, nil},
		{"three parts", drawn(), []int{1, 1, 1}, []int{11, 20}}, // 367, 734, of which 340 and 700 lie at most to the west
		{"parts of nothing", drawn(), []int{0, 1, 0, 1, 0}, []int{0, 16, 16, 30}},
		{"all to the last one", drawn(), []int{0, 5}, []int{0}},
		{"all to the first one", drawn(), []int{5, 0}, []int{30}},
		{"great parts", drawn(), []int{1000000, 1000000}, []int{16}},
		{"nothing to divide", make([]int, 7), []int{3, 4}, []int{30}},
		{"nothing to divide, by nothing", make([]int, 7), []int{0, 0}, []int{30}},
		{"nothing to divide, no parts", make([]int, 7), nil, nil},
		{"nothing to divide, an empty list", make([]int, 7), []int{}, nil},
	} {
		got, e := area.Divide(example(), x.y, 0, x.parts)
		expect.Errno(t, x.name, e, api.OK)
		expect.List(t, x.name, got, x.want...)
	}
}

// E11: the errors of Shares, behind all others.
func TestErrorsOfDivide(t *testing.T) {
	fifty := many(50, 50, 1)
	for _, x := range []struct {
		name   string
		y      []int
		parcel int
		parts  []int
		want   api.Errno
	}{
		{"50 parts", drawn(), 0, fifty, api.OK},
		{"51 parts", drawn(), 0, append(fifty, 1), api.ErrLimit},
		{"51 parts of no parcel", drawn(), 1, append(fifty, 1), api.ErrArg},
		{"51 parts of no values", nil, 0, append(fifty, 1), api.ErrArg},
		{"51 parts of what is not upright", []int{0, 1, 0, 0, 0, 0, 0}, 0, append(fifty, 1), api.ErrArg},
		{"a part of -1", drawn(), 0, []int{1, -1}, api.ErrArg},
		{"a part of 1000000", drawn(), 0, []int{1, 1000000}, api.OK},
		{"a part of 1000001", drawn(), 0, []int{1, 1000001}, api.ErrArg},
		{"parts of nothing", drawn(), 0, []int{0, 0}, api.ErrShare},
		{"no parts", drawn(), 0, nil, api.ErrShare},
		{"parts of nothing, of no parcel", drawn(), -1, []int{0, 0}, api.ErrArg},
	} {
		got, e := area.Divide(example(), x.y, x.parcel, x.parts)
		expect.Errno(t, x.name, e, x.want)
		expect.Equal(t, x.name, len(got) > 0, x.want == api.OK)
	}
}

// E9 to E11: what is no parcel, no values, or not upright; the wide ends of what is.
func TestUpright(t *testing.T) {
	try := func(name string, f api.Field, y []int, parcel int, want api.Errno) {
		t.Helper()
		x := 0
		if want == api.OK {
			x = f.Stations[f.Parcels[parcel].From].X
		}
		_, e := area.West(f, y, parcel, x)
		expect.Errno(t, "West: "+name, e, want)
		_, e = area.Cut(f, y, parcel, 0)
		expect.Errno(t, "Cut: "+name, e, want)
		_, e = area.Divide(f, y, parcel, []int{1, 1})
		expect.Errno(t, "Divide: "+name, e, want)
		if want != api.OK {
			_, e = area.Cut(f, y, parcel, -1)
			expect.Errno(t, "Cut of too little: "+name, e, want)
			_, e = area.West(f, y, parcel, -1)
			expect.Errno(t, "West of too little: "+name, e, want)
		}
	}
	for name, y := range wrongValues() {
		try(name, example(), y, 0, api.ErrArg)
	}
	for _, i := range noParcels(1) {
		try("no parcel", example(), drawn(), i, api.ErrArg)
	}
	for station := range 3 {
		for width, want := range map[int]api.Errno{-1: api.ErrArg, 0: api.OK, 1000000: api.OK, 1000001: api.ErrArg, 400000000: api.ErrArg, -400000000: api.ErrArg} {
			try("a width", example(), list(7, 4+station, width), 0, want)
		}
		try("far north", example(), []int{0, 399000000, 399000000, 399000000, 400000000, 400000000, 400000000}, 0, api.OK)
		try("far south", example(), []int{0, -400000000, -400000000, -400000000, -399000000, -399000000, -399000000}, 0, api.OK)
		try("from one end to the other", example(), with(list(7, 4+station, 400000000), 1+station, -400000000), 0, api.ErrArg)
	}
	crossed := with(valleyDrawing(), at(valley(), 0, 0), 500) // the wall lies north of the hedge at a
	try("crossed at a station of its own", valley(), crossed, 1, api.ErrArg)
	try("crossed west of it", valley(), crossed, 0, api.OK)
	try("crossed elsewhere", valley(), crossed, 2, api.OK)
	crossed = with(valleyDrawing(), at(valley(), 1, 1), 5)
	try("crossed at its last station", valley(), crossed, 1, api.ErrArg)
	try("crossed at its first station", valley(), crossed, 0, api.ErrArg)
}

// long returns a field as long, and a drawing as wide, as they can be.
func long(widths ...int) (api.Field, []int) {
	f, _ := deed.ParseField("station a 0\nstation b 50001\nstation c 100000\nlimit south\nlimit north\nparcel land south a c\n")
	return f, append([]int{0, 0, 0, 0}, widths...)
}

// E9 to E11: great areas; Divide refuses totals that Shares refuses.
func TestGreatParcels(t *testing.T) {
	f, y := long(1000000, 1000000, 1000000)
	west(t, "all", f, y, 0, 100000, api.Frac{Num: 200000000000, Den: 1})
	west(t, "a part", f, y, 0, 77777, api.Frac{Num: 155554000000, Den: 1})
	cut(t, "all", f, y, 0, 200000000000, 100000)
	cut(t, "one less", f, y, 0, 199999999999, 99999)
	_, e := area.Cut(f, y, 0, 200000000001)
	expect.Errno(t, "one more", e, api.ErrShare)
	got, e := area.Divide(f, y, 0, []int{1, 1})
	expect.Errno(t, "more than can be shared", e, api.ErrArg)
	expect.List(t, "more than can be shared", got)
	_, e = area.Divide(f, y, 0, many(51, 51, 1))
	expect.Errno(t, "too many parts of more than can be shared", e, api.ErrLimit)
	f, y = long(500000, 500000, 500000)
	got, e = area.Divide(f, y, 0, []int{1, 1})
	expect.Errno(t, "just what can be shared", e, api.OK)
	expect.List(t, "just what can be shared", got, 50000)
	f, y = long(500000, 500000, 500001)
	_, e = area.Divide(f, y, 0, []int{1, 1})
	expect.Errno(t, "a little more", e, api.ErrArg)
	f, y = long(0, 1000000, 0)
	west(t, "a slope", f, y, 0, 50000, api.Frac{Num: 2500000000000000, Den: 50001})
	west(t, "a slope down", f, y, 0, 99999, api.Frac{Num: 100000*1000000*49999 - 1000000, Den: 49999})
	f, y = long(999999, 1000000, 999999)
	west(t, "a gentle slope", f, y, 0, 49999, api.Frac{Num: 49999 * (2*999999*50001 + 49999), Den: 50001})
}

// westOf returns the doubled area west of x, added up from the pieces with fractions.
func westOf(f api.Field, p api.Parcel, y []int, x int) *big.Rat {
	total := new(big.Rat)
	width := func(i int) *big.Rat {
		return big.NewRat(int64(y[at(f, p.South+1, i)]-y[at(f, p.South, i)]), 1)
	}
	for i := p.From; i < p.To && f.Stations[i].X < x; i++ {
		from, to := f.Stations[i].X, f.Stations[i+1].X
		end := min(x, to)
		here := new(big.Rat).Sub(width(i+1), width(i))
		here.Mul(here, big.NewRat(int64(end-from), int64(to-from)))
		here.Add(here, width(i))
		here.Add(here, width(i))
		total.Add(total, here.Mul(here, big.NewRat(int64(end-from), 1)))
	}
	return total
}

// E9, E10, P5.5: West is the area of the pieces, never falls, and Cut is the last X that it allows.
func TestCuts(t *testing.T) {
	eachField(t, 150, func(r *rand.Rand, f api.Field, s api.System, y []int) {
		for i, p := range f.Parcels {
			first, last := f.Stations[p.From].X, f.Stations[p.To].X
			whole := doubled(f, p, y)
			west(t, "at the first station", f, y, i, first, api.Frac{Num: 0, Den: 1})
			west(t, "at the last station", f, y, i, last, api.Frac{Num: whole, Den: 1})
			before := new(big.Rat)
			for x := first; x <= last; x++ {
				want := westOf(f, p, y, x)
				west(t, "West", f, y, i, x, api.Frac{Num: int(want.Num().Int64()), Den: int(want.Denom().Int64())})
				expect.Equal(t, "it never falls", want.Cmp(before) >= 0, true)
				before = want
			}
			for range 5 {
				area2 := r.IntN(whole + 1)
				x := last
				for westOf(f, p, y, x).Cmp(big.NewRat(int64(area2), 1)) > 0 {
					x--
				}
				cut(t, "Cut", f, y, i, area2, x)
			}
			_, e := area.Cut(f, y, i, whole+1)
			expect.Errno(t, "more than all", e, api.ErrShare)
		}
	})
}

// E11, P5.6: Divide cuts at the shares, never falls, and has at most the shares before each cut to its west.
func TestDivisions(t *testing.T) {
	eachField(t, 150, func(r *rand.Rand, f api.Field, s api.System, y []int) {
		for i, p := range f.Parcels {
			parts := make([]int, 1+r.IntN(5))
			for k := range parts {
				parts[k] = r.IntN(4)
			}
			got, e := area.Divide(f, y, i, parts)
			shares, wrong := area.Shares(doubled(f, p, y), parts)
			expect.Errno(t, "Divide", e, wrong)
			if e != api.OK {
				expect.List(t, "Divide", got)
				continue
			}
			expect.Equal(t, "cuts", len(got), len(parts)-1)
			before, x := 0, f.Stations[p.From].X
			for k, next := range got {
				before += shares[k]
				expect.Equal(t, "it never falls", next >= x, true)
				x = next
				cut(t, "Cut", f, y, i, before, x)
				expect.Equal(t, "at most the shares before it", westOf(f, p, y, x).Cmp(big.NewRat(int64(before), 1)) <= 0, true)
			}
		}
	})
}
