package area

import (
	"sort"

	"merestone/api"
	"merestone/deed"
)

// maxWidth is the greatest width of a parcel that is upright.
const maxWidth = 1000000

// tract is a parcel in a drawing: the X of its stations, and its widths there.
type tract struct{ xs, widths []int }

// tractOf returns the tract of a parcel. Its errors: that of the field, and ErrArg for other arguments that are not valid, or a drawing that is not upright.
func tractOf(f api.Field, y []int, parcel int) (tract, api.Errno) {
	if e := checkParcel(f, parcel); e != api.OK {
		return tract{}, e
	}
	if !areValues(deed.Points(f), y) {
		return tract{}, api.ErrArg
	}
	var t tract
	p := f.Parcels[parcel]
	south, north := sides(f, p)
	for station := p.From; station <= p.To; station++ {
		t.xs = append(t.xs, f.Stations[station].X)
		t.widths = append(t.widths, y[north+station]-y[south+station])
	}
	if !allBetween(0, t.widths, maxWidth) {
		return tract{}, api.ErrArg
	}
	return t, api.OK
}

// first returns the X of the first station of a tract.
func (t tract) first() int { return t.xs[0] }

// last returns the X of the last station of a tract.
func (t tract) last() int { return t.xs[len(t.xs)-1] }

// west returns the doubled area of the part of a tract that lies west of x, as a fraction.
func (t tract) west(x int) api.Frac {
	whole := 0
	for i, from := range t.xs[:len(t.xs)-1] {
		length, side, rise := t.xs[i+1]-from, t.widths[i], t.widths[i+1]-t.widths[i]
		if part := x - from; part < length {
			// At x the width is side + rise * part / length.
			return api.Frac{Num: whole*length + part*(2*side*length+rise*part), Den: length}
		}
		whole += length * (2*side + rise)
	}
	return api.Frac{Num: whole, Den: 1}
}

// all returns the doubled area of a tract.
func (t tract) all() int { return t.west(t.last()).Num }

// cut returns the greatest X of a tract that has at most an area to its west, which is at least 0.
func (t tract) cut(area2 int) int {
	beyond := func(i int) bool {
		w := t.west(t.first() + i)
		return w.Num > area2*w.Den
	}
	return t.first() + sort.Search(t.last()-t.first()+1, beyond) - 1
}

// lowest returns a fraction in lowest terms.
func lowest(x api.Frac) api.Frac {
	a, b := x.Num, x.Den
	for b != 0 {
		a, b = b, a%b
	}
	return api.Frac{Num: x.Num / a, Den: x.Den / a}
}

// West returns the doubled area of the part of a parcel that lies west of x.
func West(f api.Field, y []int, parcel, x int) (api.Frac, api.Errno) {
	t, e := tractOf(f, y, parcel)
	if e != api.OK {
		return api.Frac{}, e
	}
	if !between(t.first(), x, t.last()) {
		return api.Frac{}, api.ErrArg
	}
	return lowest(t.west(x)), api.OK
}

// Cut returns the greatest X of a parcel that has at most an area to its west.
func Cut(f api.Field, y []int, parcel, area2 int) (int, api.Errno) {
	t, e := tractOf(f, y, parcel)
	if e != api.OK {
		return 0, e
	}
	if !between(0, area2, t.all()) {
		return 0, api.ErrShare
	}
	return t.cut(area2), api.OK
}

// Divide returns the X at which a parcel is divided in proportion to parts.
func Divide(f api.Field, y []int, parcel int, parts []int) ([]int, api.Errno) {
	t, e := tractOf(f, y, parcel)
	if e != api.OK {
		return nil, e
	}
	shares, e := Shares(t.all(), parts)
	if e != api.OK || len(shares) == 0 {
		return nil, e
	}
	var cuts []int
	before := 0
	for _, share := range shares[:len(shares)-1] {
		before += share
		cuts = append(cuts, t.cut(before))
	}
	return cuts, api.OK
}
