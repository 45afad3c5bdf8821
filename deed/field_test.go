package deed_test

import (
	"math"
	"math/rand/v2"
	"slices"
	"strings"
	"testing"

	"merestone/api"
	"merestone/deed"
	"merestone/expect"
)

// C1: fields at both ends of each number.
func TestCheckField(t *testing.T) {
	least := api.Field{Stations: []api.Station{{Name: "a", X: 0}, {Name: "b", X: 100000}}, Limits: []string{"a"}}
	for _, f := range []api.Field{example(), rich(), greatest(), least} {
		expect.Errno(t, "CheckField", deed.CheckField(f), api.OK)
	}
	expect.Errno(t, "names of different kinds may be equal", deed.CheckField(changed(example(), func(f *api.Field) {
		f.Limits = []string{"ash", "oak"}
		f.Parcels = []api.Parcel{{Name: "ash", To: 1}}
	})), api.OK)
	for _, name := range goodNames() {
		for i := range 3 {
			expect.Errno(t, "the name "+name, deed.CheckField(renamed(example(), i, name)), api.OK)
		}
	}
	for _, name := range append(badNames(), "", " ", "a b", "a ", " a", "a\n", "a#") {
		for i := range 3 {
			expect.Errno(t, "the name "+name, deed.CheckField(renamed(example(), i, name)), api.ErrForm)
		}
	}
}

// renamed returns a field in which the last station, limit or parcel has another name.
func renamed(f api.Field, kind int, name string) api.Field {
	switch kind {
	case 0:
		f.Stations = slices.Clone(f.Stations)
		f.Stations[len(f.Stations)-1].Name = name
	case 1:
		f.Limits = slices.Clone(f.Limits)
		f.Limits[len(f.Limits)-1] = name
	case 2:
		f.Parcels = slices.Clone(f.Parcels)
		f.Parcels[len(f.Parcels)-1].Name = name
	}
	return f
}

// defect is what makes a field invalid, and its error.
type defect struct {
	name   string
	change func(f *api.Field)
	want   api.Errno
}

// atX returns a change of the X of a station.
func atX(i, x int) func(f *api.Field) {
	return func(f *api.Field) {
		f.Stations = slices.Clone(f.Stations)
		f.Stations[min(i, len(f.Stations)-1)].X = x
	}
}

// parcels returns a change that appends some parcels.
func parcels(l ...api.Parcel) func(f *api.Field) {
	return func(f *api.Field) { f.Parcels = slices.Concat(f.Parcels, l) }
}

// defects returns, class by class, what can be wrong with the rich field, in the order in which the chapter names it.
func defects() [][]defect {
	many := func(n int) func(f *api.Field) {
		return func(f *api.Field) { f.Variations = make([]api.Variation, n) }
	}
	rename := func(kind int, name string) func(f *api.Field) {
		return func(f *api.Field) { *f = renamed(*f, kind, name) }
	}
	return [][]defect{
		{
			{"13 stations", func(f *api.Field) { f.Stations = slices.Concat(f.Stations, make([]api.Station, 13-len(f.Stations))) }, api.ErrLimit},
			{"13 good stations", func(f *api.Field) {
				f.Stations = append(slices.Clone(greatest().Stations), api.Station{Name: "more", X: 100001})
			}, api.ErrLimit},
			{"11 limits", func(f *api.Field) { f.Limits = append(slices.Clone(greatest().Limits), "more") }, api.ErrLimit},
			{"41 parcels", func(f *api.Field) {
				f.Parcels = slices.Concat(f.Parcels, make([]api.Parcel, max(0, 41-len(f.Parcels))))
			}, api.ErrLimit},
		}, {
			{"no station", func(f *api.Field) { f.Stations = nil }, api.ErrNone},
			{"one station", func(f *api.Field) { f.Stations = f.Stations[:1] }, api.ErrNone},
			{"no limit", func(f *api.Field) { f.Limits = nil }, api.ErrNone},
		}, {
			{"41 variations", many(41), api.ErrLimit},
			{"40 bad variations", many(40), api.ErrArg},
			{"equal years", func(f *api.Field) { f.Variations = []api.Variation{{Year: 5}, {Year: 5}} }, api.ErrArg},
			{"far east", func(f *api.Field) { f.Variations = []api.Variation{{Year: 5, East: 61}} }, api.ErrArg},
		}, {
			{"a station's name", rename(0, "Yew"), api.ErrForm},
			{"a limit's name", rename(1, "1st"), api.ErrForm},
			{"a parcel's name", rename(2, ""), api.ErrForm},
		}, {
			{"two stations with a name", rename(0, "ash"), api.ErrTwice},
			{"two limits with a name", rename(1, "hedge"), api.ErrTwice},
			{"two parcels with a name", rename(2, "croft"), api.ErrTwice},
		}, {
			{"X below 0", atX(0, -1), api.ErrArg},
			{"X far below 0", atX(0, math.MinInt), api.ErrArg},
			{"X too great", atX(3, 100001), api.ErrArg},
			{"X far too great", atX(3, math.MaxInt), api.ErrArg},
			{"South below 0", parcels(api.Parcel{Name: "n", South: -1, To: 1}), api.ErrArg},
			{"the last limit as South", parcels(api.Parcel{Name: "n", South: 3, To: 1}), api.ErrArg},
			{"South behind the last limit", parcels(api.Parcel{Name: "n", South: 4, To: 1}), api.ErrArg},
			{"South far away", parcels(api.Parcel{Name: "n", South: math.MaxInt, To: 1}), api.ErrArg},
			{"South far below", parcels(api.Parcel{Name: "n", South: math.MinInt, To: 1}), api.ErrArg},
			{"From below 0", parcels(api.Parcel{Name: "n", South: 2, From: -1, To: 3}), api.ErrArg},
			{"From behind the last", parcels(api.Parcel{Name: "n", South: 2, From: 4, To: 5}), api.ErrArg},
			{"To behind the last", parcels(api.Parcel{Name: "n", South: 2, From: 2, To: 4}), api.ErrArg},
			{"To below 0", parcels(api.Parcel{Name: "n", South: 2, From: 2, To: -1}), api.ErrArg},
		}, {
			{"equal X", atX(1, 100), api.ErrOrder},
			{"X falls", atX(1, 99), api.ErrOrder},
			{"X falls at the end", atX(3, 1999), api.ErrOrder},
			{"From is To", parcels(api.Parcel{Name: "o", South: 2, From: 3, To: 3}), api.ErrOrder},
			{"From behind To", parcels(api.Parcel{Name: "o", South: 2, From: 3, To: 2}), api.ErrOrder},
			{"the same place", parcels(api.Parcel{Name: "o", South: 2, From: 0, To: 2}), api.ErrOrder},
			{"a part of it", parcels(api.Parcel{Name: "o", South: 2, From: 1, To: 2}), api.ErrOrder},
			{"two stations in common", parcels(api.Parcel{Name: "o", South: 2, From: 1, To: 3}), api.ErrOrder},
			{"more than it", parcels(api.Parcel{Name: "o", South: 2, From: 0, To: 3}), api.ErrOrder},
			{"two new ones overlap", parcels(api.Parcel{Name: "o", South: 2, From: 2, To: 3}, api.Parcel{Name: "m", South: 2, From: 2, To: 3}), api.ErrOrder},
		},
	}
}

// C1: each error alone, and before all that come behind it.
func TestCheckFieldOrder(t *testing.T) {
	classes := defects()
	for i, class := range classes {
		for _, d := range class {
			expect.Errno(t, d.name, deed.CheckField(changed(rich(), d.change)), d.want)
			for _, later := range slices.Concat(classes[i+1:]...) {
				f := changed(changed(rich(), later.change), d.change)
				expect.Errno(t, d.name+" and "+later.name, deed.CheckField(f), d.want)
			}
		}
	}
	expect.Errno(t, "no field", deed.CheckField(api.Field{}), api.ErrNone)
	expect.Errno(t, "one station in common", deed.CheckField(changed(rich(), parcels(api.Parcel{Name: "n", South: 2, From: 2, To: 3}))), api.OK)
	expect.Errno(t, "a parcel where there is one limit", deed.CheckField(changed(example(), func(f *api.Field) { f.Limits = f.Limits[:1] })), api.ErrArg)
	expect.Errno(t, "a name that is none, twice", deed.CheckField(changed(example(), func(f *api.Field) { f.Limits = []string{"A", "A"} })), api.ErrForm)
}

// C1, P3.6: two parcels overlap exactly if they have two stations in common, one by one.
func TestOverlaps(t *testing.T) {
	f := greatest()
	for a := range 5 {
		for b := a + 1; b < 6; b++ {
			for c := range 5 {
				for d := c + 1; d < 6; d++ {
					common := 0
					for s := range 6 {
						if a <= s && s <= b && c <= s && s <= d {
							common++
						}
					}
					for south := range 2 {
						f.Parcels = []api.Parcel{{Name: "one", From: a, To: b}, {Name: "two", South: south, From: c, To: d}}
						want := api.OK
						if south == 0 && common > 1 {
							want = api.ErrOrder
						}
						expect.Errno(t, "two parcels", deed.CheckField(f), want)
					}
				}
			}
		}
	}
}

// adjoining returns the parcels that touch one, by the stations that they have in common.
func adjoining(f api.Field, parcel int) []int {
	var l []int
	p := f.Parcels[parcel]
	for i, q := range f.Parcels {
		common := 0
		for s := range f.Stations {
			if p.From <= s && s <= p.To && q.From <= s && s <= q.To {
				common++
			}
		}
		switch {
		case i == parcel:
		case p.South == q.South && common == 1, (p.South == q.South+1 || p.South == q.South-1) && common > 1:
			l = append(l, i)
		}
	}
	return l
}

// C7, P3.6: parcels that touch, which are not in one place.
func TestAdjoining(t *testing.T) {
	for i, want := range [][]int{{1}, {0, 3, 4}, {3}, {1, 2, 4}, {1, 3}} {
		l, e := deed.Adjoining(rich(), i)
		expect.Errno(t, "Adjoining", e, api.OK)
		expect.List(t, "Adjoining", l, want...)
	}
	eachRandom(t, 300, func(_ *rand.Rand, f api.Field) {
		for i := range f.Parcels {
			l, e := deed.Adjoining(f, i)
			expect.Errno(t, "Adjoining", e, api.OK)
			expect.List(t, "Adjoining", l, adjoining(f, i)...)
			for _, j := range l {
				back, _ := deed.Adjoining(f, j)
				expect.Equal(t, "Adjoining is symmetric", slices.Contains(back, i), true)
			}
		}
	})
	for _, i := range []int{-1, 5, math.MinInt, math.MaxInt} {
		l, e := deed.Adjoining(rich(), i)
		expect.Errno(t, "no such parcel", e, api.ErrArg)
		expect.List(t, "no such parcel", l)
	}
	_, e := deed.Adjoining(changed(rich(), func(f *api.Field) { f.Parcels = nil }), 0)
	expect.Errno(t, "no parcels", e, api.ErrArg)
}

// C6, P3.6: at most one parcel has a place.
func TestAt(t *testing.T) {
	eachRandom(t, 60, func(r *rand.Rand, f api.Field) {
		y := randomDrawing(r, f, 12)
		n := len(f.Stations)
		for station := range n {
			for offset := range 14 {
				var has []int
				for i, p := range f.Parcels {
					south := 1 + p.South*n + station
					if p.From <= station && station < p.To && y[south] <= offset && offset < y[south+n] {
						has = append(has, i)
					}
				}
				i, e := deed.At(f, station, offset, y)
				if len(has) == 0 {
					expect.Errno(t, "nobody's", e, api.ErrNone)
					expect.Equal(t, "nobody's", i, 0)
					continue
				}
				expect.Errno(t, "At", e, api.OK)
				expect.List(t, "At", has, i)
			}
		}
	})
	whole := []int{0, 0, 0, 100000, 100000}
	for offset, want := range map[int]api.Errno{0: api.OK, 99999: api.OK, 100000: api.ErrNone, -1: api.ErrArg, 100001: api.ErrArg, math.MinInt: api.ErrArg, math.MaxInt: api.ErrArg} {
		_, e := deed.At(example(), 0, offset, whole)
		expect.Errno(t, "At", e, want)
	}
	for station, want := range map[int]api.Errno{0: api.OK, 1: api.ErrNone, -1: api.ErrArg, 2: api.ErrArg, math.MinInt: api.ErrArg, math.MaxInt: api.ErrArg} {
		_, e := deed.At(example(), station, 5, whole)
		expect.Errno(t, "At", e, want)
	}
	for _, y := range notDrawn() {
		i, e := deed.At(example(), 0, 5, y)
		expect.Errno(t, "At", e, api.ErrArg)
		expect.Equal(t, "At", i, 0)
	}
}

// P3.8: only how far stations lie from each other matters.
func TestMoved(t *testing.T) {
	eachRandom(t, 200, func(r *rand.Rand, f api.Field) {
		room := 100000 - f.Stations[len(f.Stations)-1].X
		by := []int{room, -f.Stations[0].X, r.IntN(room + 1)}[r.IntN(3)]
		moved := changed(f, func(f *api.Field) {
			f.Stations = slices.Clone(f.Stations)
			for i := range f.Stations {
				f.Stations[i].X += by
			}
		})
		expect.Errno(t, "CheckField", deed.CheckField(moved), api.OK)
		one, _ := deed.Nature(f)
		two, e := deed.Nature(moved)
		expect.Errno(t, "Nature", e, api.OK)
		expect.List(t, "Nature", two, one...)
		for range 10 {
			c := randomCall(r, f)
			one, e := deed.Bounds(f, c, 9)
			two, g := deed.Bounds(moved, c, 9)
			expect.Errno(t, "Bounds", g, e)
			expect.List(t, "Bounds", two, one...)
		}
	})
	f := changed(example(), atX(0, 1))
	expect.Errno(t, "a step that is shorter", deed.CheckCall(changed(f, atX(1, 5)), bearing()), api.ErrNone)
}

// C2: the source of a field.
func TestPrintField(t *testing.T) {
	expect.Equal(t, "PrintField", deed.PrintField(example()), exampleSource)
	expect.Equal(t, "PrintField", deed.PrintField(changed(example(), func(f *api.Field) {
		f.Limits, f.Parcels = f.Limits[:1], nil
		f.Variations = []api.Variation{{Year: 1, East: -60}, {Year: 3000, East: 0}}
	})), "station ash 0\nstation oak 866\nlimit wall\nvariation 1 -60\nvariation 3000 0\n")
	want := strings.Join([]string{
		"station ash 100", "station oak 966", "station elm 2000", "station yew 5000", "limit wall", "limit hedge", "limit burn", "limit dyke",
		"parcel home wall ash oak", "parcel croft wall oak yew", "parcel mead burn ash elm", "parcel glebe hedge oak elm", "parcel toft hedge elm yew",
		"variation 1700 10", "variation 1800 -12", "",
	}, "\n")
	expect.Equal(t, "PrintField", deed.PrintField(rich()), want)
	for _, d := range slices.Concat(defects()...) {
		expect.Equal(t, "PrintField with "+d.name, deed.PrintField(changed(rich(), d.change)), "")
	}
}
