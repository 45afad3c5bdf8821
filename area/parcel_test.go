package area_test

import (
	"math"
	"math/rand/v2"
	"slices"
	"testing"

	"merestone/api"
	"merestone/area"
	"merestone/deed"
	"merestone/expect"
)

// valley is a field with three limits (points 1 to 4, 5 to 8, 9 to 12), and parcels that do not all begin, or end, with it.
func valley() api.Field {
	f, _ := deed.ParseField(`
station a 5
station b 15
station c 40
station d 47
limit wall
limit hedge
limit burn
parcel east wall b d
parcel west wall a b
parcel mead hedge b c
parcel whole hedge c d
`)
	return f
}

// valleyDrawing is a drawing of the valley.
func valleyDrawing() []int { return []int{0, 0, 10, 20, 30, 100, 120, 140, 160, 200, 150, 150, 160} }

// noParcels returns numbers that are no index of n parcels.
func noParcels(n int) []int { return []int{-1, n, n + 1, math.MinInt, math.MaxInt} }

// E5: the weights of parcels at the ends of the field, and within it.
func TestWeights(t *testing.T) {
	f := valley()
	for i, want := range [][]int{
		{0, 0, -25, -32, -7, 0, 25, 32, 7, 0, 0, 0, 0},
		{0, -10, -10, 0, 0, 10, 10, 0, 0, 0, 0, 0, 0},
		{0, 0, 0, 0, 0, 0, -25, -25, 0, 0, 25, 25, 0},
		{0, 0, 0, 0, 0, 0, 0, -7, -7, 0, 0, 7, 7},
	} {
		got, e := area.Weights(f, i)
		expect.Errno(t, "Weights", e, api.OK)
		expect.List(t, "Weights", got, want...)
	}
	for _, i := range noParcels(4) {
		got, e := area.Weights(f, i)
		expect.Errno(t, "Weights", e, api.ErrArg)
		expect.List(t, "Weights", got)
	}
}

// E5: doubled areas, of values that are no drawings, too, and their sum.
func TestArea2(t *testing.T) {
	f := valley()
	for i, want := range []int{25*(110+120) + 7*(120+130), 10 * (100 + 110), 25 * (30 + 10), 7 * (10 + 0)} {
		got, e := area.Area2(f, i, valleyDrawing())
		expect.Errno(t, "Area2", e, api.OK)
		expect.Equal(t, "Area2", got, want)
	}
	total, e := area.Total(f, valleyDrawing())
	expect.Errno(t, "Total", e, api.OK)
	expect.Equal(t, "Total", total, 7500+2100+1000+70)
	low, high := -400000000, 400000000
	crossed := []int{0, high, high, high, high, low, low, low, low, high, high, high, high}
	for i, want := range []int{-32 * 2 * 800000000, -10 * 2 * 800000000, 25 * 2 * 800000000, 7 * 2 * 800000000} {
		got, e := area.Area2(f, i, crossed)
		expect.Errno(t, "Area2", e, api.OK)
		expect.Equal(t, "Area2", got, want)
	}
	total, _ = area.Total(f, crossed)
	expect.Equal(t, "Total", total, -10*2*800000000)
	f.Parcels = nil
	total, e = area.Total(f, valleyDrawing())
	expect.Errno(t, "Total without parcels", e, api.OK)
	expect.Equal(t, "Total without parcels", total, 0)
}

// E5: what is no parcel, or no values.
func TestErrorsOfArea2(t *testing.T) {
	for _, i := range noParcels(1) {
		for _, y := range [][]int{make([]int, 7), nil} {
			got, e := area.Area2(example(), i, y)
			expect.Errno(t, "Area2", e, api.ErrArg)
			expect.Equal(t, "Area2", got, 0)
		}
	}
	for name, y := range wrongValues() {
		got, e := area.Area2(example(), 0, y)
		expect.Errno(t, "Area2: "+name, e, api.ErrArg)
		expect.Equal(t, "Area2: "+name, got, 0)
		got, e = area.Total(example(), y)
		expect.Errno(t, "Total: "+name, e, api.ErrArg)
		expect.Equal(t, "Total: "+name, got, 0)
	}
	for _, v := range []int{-400000000, 400000000} {
		_, e := area.Area2(example(), 0, list(7, 3, v))
		expect.Errno(t, "Area2", e, api.OK)
		_, e = area.Total(example(), list(7, 3, v))
		expect.Errno(t, "Total", e, api.OK)
	}
}

// E5, P5.2: against areas by corners; the weights have the doubled area as their form, and the pieces make up the parcel.
func TestAreasOfDrawings(t *testing.T) {
	eachField(t, 300, func(r *rand.Rand, f api.Field, s api.System, y []int) {
		for _, y := range [][]int{y, wildValues(r, s.N)} {
			total := 0
			for i, p := range f.Parcels {
				got, e := area.Area2(f, i, y)
				expect.Errno(t, "Area2", e, api.OK)
				expect.Equal(t, "Area2", got, doubled(f, p, y))
				w, e := area.Weights(f, i)
				expect.Errno(t, "Weights", e, api.OK)
				form, e := area.Form(s, w, y)
				expect.Errno(t, "Form", e, api.OK)
				expect.Equal(t, "Form", form, got)
				expect.Equal(t, "the weight of 0", w[0], 0)
				total += got
				whole := 0
				g := pieced(f, i)
				for k := range g.Parcels {
					piece, _ := area.Area2(g, k, y)
					whole += piece
				}
				expect.Equal(t, "the pieces", whole, got)
			}
			got, e := area.Total(f, y)
			expect.Errno(t, "Total", e, api.OK)
			expect.Equal(t, "Total", got, total)
		}
	})
}

// wildValues returns values of any size.
func wildValues(r *rand.Rand, n int) []int {
	y := make([]int, n)
	for p := 1; p < n; p++ {
		y[p] = r.IntN(800000001) - 400000000
	}
	return y
}

// pieced returns a field with the pieces of a parcel as its parcels.
func pieced(f api.Field, parcel int) api.Field {
	f.Parcels, _ = area.Pieces(f, parcel)
	for i := range f.Parcels {
		f.Parcels[i].Name = name("piece", i)
	}
	return f
}

// E8: pieces from west to east.
func TestPieces(t *testing.T) {
	f := valley()
	for i, want := range [][]api.Parcel{
		{{Name: "east", South: 0, From: 1, To: 2}, {Name: "east", South: 0, From: 2, To: 3}},
		{{Name: "west", South: 0, From: 0, To: 1}},
		{{Name: "mead", South: 1, From: 1, To: 2}},
		{{Name: "whole", South: 1, From: 2, To: 3}},
	} {
		got, e := area.Pieces(f, i)
		expect.Errno(t, "Pieces", e, api.OK)
		expect.List(t, "Pieces", got, want...)
	}
	for _, i := range noParcels(4) {
		got, e := area.Pieces(f, i)
		expect.Errno(t, "Pieces", e, api.ErrArg)
		expect.List(t, "Pieces", got)
	}
}

// E6: both ends, with what proves them.
func TestBounds(t *testing.T) {
	x, e := area.Bounds(example(), bounded(), 0)
	expect.Errno(t, "Bounds", e, api.OK)
	expect.Equal(t, "Low", x.Low, 600)
	expect.Equal(t, "High", x.High, 1200)
	proved(t, "High", bounded(), weightsOfExample(), x.High, x.Greatest, x.Upper)
	proved(t, "Low", bounded(), negative(weightsOfExample()), -x.Low, x.Least, x.Lower)
	for name, l := range map[string][]int{"Upper": x.Upper, "Lower": x.Lower} {
		records, e := area.Records(bounded(), l)
		expect.Errno(t, name, e, api.OK)
		expect.List(t, name, records, 2)
	}
}

// half returns the chapter's system without the bounds that hold the widths from above, or from below.
func half(above bool) api.System {
	s := bounded()
	s.Bounds = slices.DeleteFunc(s.Bounds, func(b api.Bound) bool { return b.Record == 2 && b.Most > 0 == above })
	return s
}

// E6, E7: parcels whose areas have no greatest, or no least, value, and systems that contradict themselves.
func TestMissingEnds(t *testing.T) {
	for name, x := range map[string]struct {
		s    api.System
		want api.Errno
	}{
		"no bounds":                     {api.System{N: 7}, api.ErrOpen},
		"no greatest":                   {half(true), api.ErrOpen},
		"no least":                      {half(false), api.ErrOpen},
		"a contradiction":               {contradiction(), api.ErrCircle},
		"a contradiction and no ends":   {api.System{N: 7, Bounds: []api.Bound{bound(0, 1, -1, 1), bound(1, 0, 0, 1)}}, api.ErrCircle},
		"a contradiction and no least":  {plus(half(false), bound(0, 1, -1, 1)), api.ErrCircle},
		"a contradiction and no end up": {plus(half(true), bound(0, 1, -1, 1)), api.ErrCircle},
	} {
		got, e := area.Bounds(example(), x.s, 0)
		expect.Errno(t, name, e, x.want)
		expect.Equal(t, name, got.Low == 0 && got.High == 0 && len(got.Least)+len(got.Greatest)+len(got.Lower)+len(got.Upper) == 0, true)
	}
}

// E6: systems that do not fit the field, and parcels that there are not.
func TestErrorsOfBounds(t *testing.T) {
	good, _ := area.Bounds(example(), bounded(), 0)
	try := func(name string, f api.Field, s api.System, parcel int, want api.Errno) {
		t.Helper()
		_, e := area.Bounds(f, s, parcel)
		expect.Errno(t, "Bounds: "+name, e, want)
		_, e = area.CheckExtent(f, s, parcel, good)
		expect.Errno(t, "CheckExtent: "+name, e, want)
		_, e = area.Surely(f, s, parcel, 5)
		expect.Errno(t, "Surely: "+name, e, want)
		_, _, e = area.Difference(f, s, parcel, 0)
		expect.Errno(t, "Difference of it: "+name, e, want)
		_, _, e = area.Difference(f, s, 0, parcel)
		expect.Errno(t, "Difference from it: "+name, e, want)
	}
	try("good", example(), bounded(), 0, api.OK)
	for _, n := range []int{1, 6, 8, 128} {
		try("another number of points", example(), api.System{N: n}, 0, api.ErrArg)
	}
	try("one point more", example(), api.System{N: 8, Bounds: bounded().Bounds}, 0, api.ErrArg)
	try("one point more, a contradiction", example(), api.System{N: 8, Bounds: contradiction().Bounds}, 0, api.ErrArg)
	for _, i := range noParcels(1) {
		try("no such parcel", example(), bounded(), i, api.ErrArg)
		_, e := area.Bounds(example(), contradiction(), i)
		expect.Errno(t, "Bounds: no such parcel in a contradiction", e, api.ErrArg)
		_, _, e = area.Difference(example(), contradiction(), i, i)
		expect.Errno(t, "Difference: no such parcel in a contradiction", e, api.ErrArg)
		_, e = area.Surely(example(), contradiction(), i, 5)
		expect.Errno(t, "Surely: no such parcel in a contradiction", e, api.ErrArg)
	}
	f := example()
	f.Parcels = nil
	try("no parcels", f, bounded(), 0, api.ErrArg)
	f.Limits = nil
	try("no limits, and a bad system", f, api.System{N: 129}, 0, api.ErrNone)
	try("a bad system", example(), api.System{N: 129}, 0, api.ErrLimit)
	try("a bad system, and no such parcel", example(), api.System{}, -1, api.ErrArg)
}

// E6: extents with one thing changed.
func TestCheckExtent(t *testing.T) {
	f, s := example(), plus(bounded(), bound(4, 0, 500, 3))
	good, _ := area.Bounds(f, s, 0)
	check := func(name string, x api.Extent, want bool) {
		t.Helper()
		got, e := area.CheckExtent(f, s, 0, x)
		expect.Errno(t, name, e, api.OK)
		expect.Equal(t, name, got, want)
	}
	changed := func(change func(x *api.Extent)) api.Extent {
		x := good
		change(&x)
		return x
	}
	check("what Bounds returns", good, true)
	check("High one more", changed(func(x *api.Extent) { x.High++ }), false)
	check("High one less", changed(func(x *api.Extent) { x.High-- }), false)
	check("Low one more", changed(func(x *api.Extent) { x.Low++ }), false)
	check("Low one less", changed(func(x *api.Extent) { x.Low-- }), false)
	check("Low with the other sign", changed(func(x *api.Extent) { x.Low = -x.Low }), false)
	check("no flow", changed(func(x *api.Extent) { x.Upper = nil }), false)
	check("no flow below", changed(func(x *api.Extent) { x.Lower = nil }), false)
	check("flows exchanged", changed(func(x *api.Extent) { x.Upper, x.Lower = x.Lower, x.Upper }), false)
	check("values exchanged", changed(func(x *api.Extent) { x.Greatest, x.Least = x.Least, x.Greatest }), false)
	check("an amount of -1", changed(func(x *api.Extent) { x.Upper = with(x.Upper, 12, -1) }), false)
	check("an amount more", changed(func(x *api.Extent) { x.Upper = with(x.Upper, 12, 1) }), false)
	check("an amount more below", changed(func(x *api.Extent) { x.Lower = with(x.Lower, 12, 1) }), false)
	check("other values with the area", changed(func(x *api.Extent) { x.Greatest = []int{0, 1, 2, 3, 21, 22, 23} }), true)
	check("other values with the area below", changed(func(x *api.Extent) { x.Least = []int{0, 5, 0, 5, 15, 10, 15} }), true)
	check("less above", changed(func(x *api.Extent) { x.Greatest, x.High = []int{0, 1, 2, 3, 20, 22, 23}, 1190 }), false)
	check("more below", changed(func(x *api.Extent) { x.Least, x.Low = []int{0, 5, 0, 5, 16, 10, 15}, 610 }), false)
	check("values that are not kept", changed(func(x *api.Extent) { x.Greatest = []int{0, 6, 6, 6, 26, 26, 26} }), false)
	check("nothing but values", api.Extent{Least: make([]int, 7), Greatest: make([]int, 7)}, false)
	for name, y := range wrongValues() {
		for _, x := range []api.Extent{
			changed(func(x *api.Extent) { x.Greatest = y }),
			changed(func(x *api.Extent) { x.Least = y }),
			changed(func(x *api.Extent) { x.Least, x.Upper = y, nil }),
			changed(func(x *api.Extent) { x.Greatest, x.Lower, x.Low = y, nil, 5 }),
		} {
			got, e := area.CheckExtent(f, s, 0, x)
			expect.Errno(t, name, e, api.ErrArg)
			expect.Equal(t, name, got, false)
		}
	}
	got, e := area.CheckExtent(f, contradiction(), 0, good)
	expect.Errno(t, "a contradiction", e, api.OK)
	expect.Equal(t, "a contradiction", got, false)
}

// E7: areas at, and next to, both ends, and without them.
func TestSurely(t *testing.T) {
	for _, x := range []struct {
		name  string
		s     api.System
		least int
		want  uint8
		e     api.Errno
	}{
		{"the least", bounded(), 600, api.SureAll, api.OK},
		{"one more", bounded(), 601, api.SureOpen, api.OK},
		{"the greatest", bounded(), 1200, api.SureOpen, api.OK},
		{"one more than the greatest", bounded(), 1201, api.SureNone, api.OK},
		{"nothing", bounded(), 0, api.SureAll, api.OK},
		{"less than nothing", bounded(), -1, api.SureAll, api.OK},
		{"anything", bounded(), math.MinInt, api.SureAll, api.OK},
		{"too much", bounded(), math.MaxInt, api.SureNone, api.OK},
		{"no greatest, at the least", half(true), 600, api.SureAll, api.OK},
		{"no greatest, one more", half(true), 601, api.SureOpen, api.OK},
		{"no greatest, too much", half(true), math.MaxInt, api.SureOpen, api.OK},
		{"no least, at the greatest", half(false), 1200, api.SureOpen, api.OK},
		{"no least, one more", half(false), 1201, api.SureNone, api.OK},
		{"no least, anything", half(false), math.MinInt, api.SureOpen, api.OK},
		{"no ends, anything", api.System{N: 7}, math.MinInt, api.SureOpen, api.OK},
		{"no ends, too much", api.System{N: 7}, math.MaxInt, api.SureOpen, api.OK},
		{"a contradiction", contradiction(), 600, 0, api.ErrCircle},
		{"a contradiction, anything", contradiction(), math.MinInt, 0, api.ErrCircle},
		{"a contradiction, too much", contradiction(), math.MaxInt, 0, api.ErrCircle},
		{"a contradiction without ends", api.System{N: 7, Bounds: []api.Bound{bound(0, 1, -1, 1), bound(1, 0, 0, 1)}}, 600, 0, api.ErrCircle},
	} {
		got, e := area.Surely(example(), x.s, 0, x.least)
		expect.Errno(t, x.name, e, x.e)
		expect.Equal(t, x.name, got, x.want)
	}
}

// E7: differences of parcels, of one and itself, and without ends.
func TestDifference(t *testing.T) {
	f, _ := deed.ParseField("station a 0\nstation b 10\nstation c 30\nlimit south\nlimit mid\nlimit north\nparcel one south a b\nparcel two south b c\nparcel three mid a b\n")
	s := api.System{N: 10}
	for i := 1; i <= 3; i++ {
		s.Bounds = append(s.Bounds, bound(i, i+3, 20, 2), bound(i+3, i, -10, 2), bound(i, i+6, 50, 3), bound(i+6, i, -50, 3))
	}
	for _, x := range []struct {
		name      string
		s         api.System
		a, b      int
		low, high int
		e         api.Errno
	}{
		{"neighbours on a limit", s, 0, 1, -500, -100, api.OK},      // 10 * (h1 + h2) - 20 * (h2 + h3)
		{"neighbours the other way", s, 1, 0, 100, 500, api.OK},     // its opposite
		{"across a limit", s, 0, 2, -600, -200, api.OK},             // 10 * (2 * h1 + 2 * h2 - 100)
		{"across a limit the other way", s, 2, 0, 200, 600, api.OK}, // its opposite
		{"one and itself", s, 1, 1, 0, 0, api.OK},
		{"one and itself without ends", api.System{N: 10}, 1, 1, 0, 0, api.OK},
		{"one and itself in a contradiction", plus(s, bound(1, 4, 9, 4)), 2, 2, 0, 0, api.ErrCircle},
		{"without ends", api.System{N: 10}, 0, 1, 0, 0, api.ErrOpen},
		{"without ends the other way", api.System{N: 10}, 1, 0, 0, 0, api.ErrOpen},
		{"a contradiction", plus(s, bound(1, 4, 9, 4)), 0, 1, 0, 0, api.ErrCircle},
		{"without a least value", api.System{N: 10, Bounds: []api.Bound{bound(1, 4, 3, 1), bound(2, 5, 3, 1), bound(4, 7, 3, 1), bound(7, 4, -3, 1), bound(5, 8, 3, 1), bound(8, 5, -3, 1)}}, 0, 2, 0, 0, api.ErrOpen},
		{"without a greatest value", api.System{N: 10, Bounds: []api.Bound{bound(1, 4, 3, 1), bound(2, 5, 3, 1), bound(4, 7, 3, 1), bound(7, 4, -3, 1), bound(5, 8, 3, 1), bound(8, 5, -3, 1)}}, 2, 0, 0, 0, api.ErrOpen},
	} {
		low, high, e := area.Difference(f, x.s, x.a, x.b)
		expect.Errno(t, x.name, e, x.e)
		expect.Equal(t, x.name, [2]int{low, high}, [2]int{x.low, x.high})
	}
}

// E6, E7, P5.2, P5.4: what holds of extents, of the drawing that the system was made for, and of those that Bounds shows.
func TestExtents(t *testing.T) {
	eachField(t, 200, func(r *rand.Rand, f api.Field, s api.System, y []int) {
		for i, p := range f.Parcels {
			x, e := area.Bounds(f, s, i)
			expect.Errno(t, "Bounds", e, api.OK)
			w, _ := area.Weights(f, i)
			proved(t, "High", s, w, x.High, x.Greatest, x.Upper)
			proved(t, "Low", s, negative(w), -x.Low, x.Least, x.Lower)
			is, e := area.CheckExtent(f, s, i, x)
			expect.Errno(t, "CheckExtent", e, api.OK)
			expect.Equal(t, "CheckExtent", is, true)
			expect.Equal(t, "the drawing's area", x.Low <= doubled(f, p, y) && doubled(f, p, y) <= x.High, true)
			for least, want := range map[int]uint8{x.Low - 1: api.SureAll, x.Low: api.SureAll, x.High + 1: api.SureNone, x.High + 9: api.SureNone} {
				surely(t, f, s, i, least, want)
			}
			if x.Low < x.High {
				surely(t, f, s, i, x.Low+1, api.SureOpen)
				surely(t, f, s, i, x.High, api.SureOpen)
			}
			j := r.IntN(len(f.Parcels))
			low, high, e := area.Difference(f, s, i, j)
			expect.Errno(t, "Difference", e, api.OK)
			is = low <= doubled(f, p, y)-doubled(f, f.Parcels[j], y) && doubled(f, p, y)-doubled(f, f.Parcels[j], y) <= high
			expect.Equal(t, "the drawing's difference", is, true)
			other, _ := area.Bounds(f, s, j)
			expect.Equal(t, "no more than the extents allow", i == j || low >= x.Low-other.High && high <= x.High-other.Low, true)
			expect.Equal(t, "one and itself", i != j || low == 0 && high == 0, true)
		}
	})
}

// surely fails unless Surely says what it should.
func surely(t *testing.T, f api.Field, s api.System, parcel, least int, want uint8) {
	t.Helper()
	got, e := area.Surely(f, s, parcel, least)
	expect.Errno(t, "Surely", e, api.OK)
	expect.Equal(t, "Surely", got, want)
}

// P5.2: the Lows of the pieces add up to at most that of the parcel, the Highs to at least its own.
func TestExtentsOfPieces(t *testing.T) {
	apart := 0
	eachField(t, 200, func(r *rand.Rand, f api.Field, s api.System, y []int) {
		for i := range f.Parcels {
			x, _ := area.Bounds(f, s, i)
			g := pieced(f, i)
			low, high := 0, 0
			for k := range g.Parcels {
				piece, e := area.Bounds(g, s, k)
				expect.Errno(t, "Bounds of a piece", e, api.OK)
				low += piece.Low
				high += piece.High
			}
			expect.Equal(t, "the Lows", low <= x.Low, true)
			expect.Equal(t, "the Highs", high >= x.High, true)
			if high > x.High {
				apart++
			}
		}
	})
	if apart < 20 {
		t.Errorf("%d parcels have less than their pieces", apart)
	}
}

// P5.3: with more bounds Low is not less, High not greater, and what is sure stays so.
func TestExtentsOfMoreBounds(t *testing.T) {
	narrower := 0
	eachField(t, 200, func(r *rand.Rand, f api.Field, s api.System, y []int) {
		i, p, q := r.IntN(len(f.Parcels)), r.IntN(s.N), r.IntN(s.N)
		if p == q {
			return
		}
		before, _ := area.Bounds(f, s, i)
		more := plus(s, bound(p, q, y[q]-y[p]+r.IntN(3), 7))
		after, e := area.Bounds(f, more, i)
		expect.Errno(t, "Bounds", e, api.OK)
		expect.Equal(t, "it narrows", before.Low <= after.Low && after.High <= before.High, true)
		surely(t, f, more, i, before.Low, api.SureAll)
		surely(t, f, more, i, before.High+1, api.SureNone)
		if before.Low < after.Low || after.High < before.High {
			narrower++
		}
	})
	if narrower < 20 {
		t.Errorf("%d are narrower", narrower)
	}
}

// E6, E7: against all values of a field with five points.
func TestExtentsOfAllValues(t *testing.T) {
	f, _ := deed.ParseField("station a 0\nstation b 3\nlimit south\nlimit north\nparcel land south a b\n")
	r := rand.New(rand.NewPCG(4, 15))
	for range 60 {
		s := api.System{N: 5}
		for p := 1; p < 5; p++ {
			s.Bounds = append(s.Bounds, bound(0, p, r.IntN(4), 1), bound(p, 0, r.IntN(4), 1), randomBound(r, 5, -1, 4))
		}
		if !consistent(s) {
			continue
		}
		var areas []int
		eachValues(s, 3, func(y []int) { areas = append(areas, doubled(f, f.Parcels[0], y)) })
		x, e := area.Bounds(f, s, 0)
		expect.Errno(t, "Bounds", e, api.OK)
		expect.Equal(t, "Bounds", [2]int{x.Low, x.High}, [2]int{slices.Min(areas), slices.Max(areas)})
		for least := -50; least <= 50; least++ {
			want := api.SureOpen
			if least <= slices.Min(areas) {
				want = api.SureAll
			} else if least > slices.Max(areas) {
				want = api.SureNone
			}
			surely(t, f, s, 0, least, want)
		}
	}
}
