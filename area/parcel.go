package area

import (
	"merestone/api"
	"merestone/deed"
	"merestone/line"
)

// hasParcels says whether a field has parcels with some indices.
func hasParcels(f api.Field, indices ...int) bool {
	return allBetween(0, indices, len(f.Parcels)-1)
}

// checkParcel returns the error of a field, or ErrArg for a parcel that there is not.
func checkParcel(f api.Field, parcel int) api.Errno {
	if e := deed.CheckField(f); e != api.OK {
		return e
	}
	if !hasParcels(f, parcel) {
		return api.ErrArg
	}
	return api.OK
}

// checkFit returns the errors of a field and of a system, or ErrArg if these do not fit, or for a parcel that there is not.
func checkFit(f api.Field, s api.System, parcels ...int) api.Errno {
	if e := deed.CheckField(f); e != api.OK {
		return e
	}
	if e := line.Check(s); e != api.OK {
		return e
	}
	if s.N != deed.Points(f) || !hasParcels(f, parcels...) {
		return api.ErrArg
	}
	return api.OK
}

// sides returns the points of the limits of a parcel at the first station of the field; those at the next stations follow.
func sides(f api.Field, p api.Parcel) (south, north int) {
	south, _ = deed.Point(f, p.South, 0)
	north, _ = deed.Point(f, p.South+1, 0)
	return south, north
}

// weightsOf returns the weights whose form is the doubled area of a parcel of a valid field.
func weightsOf(f api.Field, p api.Parcel) []int {
	w := make([]int, deed.Points(f))
	south, north := sides(f, p)
	for i := p.From; i < p.To; i++ {
		length := f.Stations[i+1].X - f.Stations[i].X
		for _, station := range []int{i, i + 1} {
			w[south+station] -= length
			w[north+station] += length
		}
	}
	return w
}

// Weights returns the weights whose form is the doubled area of a parcel.
func Weights(f api.Field, parcel int) ([]int, api.Errno) {
	if e := checkParcel(f, parcel); e != api.OK {
		return nil, e
	}
	return weightsOf(f, f.Parcels[parcel]), api.OK
}

// Area2 returns the doubled area of a parcel in a drawing.
func Area2(f api.Field, parcel int, y []int) (int, api.Errno) {
	w, e := Weights(f, parcel)
	if e != api.OK {
		return 0, e
	}
	if !areValues(len(w), y) {
		return 0, api.ErrArg
	}
	return formOf(w, y), api.OK
}

// Total returns the doubled area of all parcels in a drawing.
func Total(f api.Field, y []int) (int, api.Errno) {
	if e := deed.CheckField(f); e != api.OK {
		return 0, e
	}
	if !areValues(deed.Points(f), y) {
		return 0, api.ErrArg
	}
	sum := 0
	for _, p := range f.Parcels {
		sum += formOf(weightsOf(f, p), y)
	}
	return sum, api.OK
}

// Bounds returns the least and the greatest doubled area of a parcel, drawings that attain them, and flows that prove them.
func Bounds(f api.Field, s api.System, parcel int) (api.Extent, api.Errno) {
	if e := checkFit(f, s, parcel); e != api.OK {
		return api.Extent{}, e
	}
	low, high, e := weighing{s, weightsOf(f, f.Parcels[parcel])}.ends()
	if e != api.OK {
		return api.Extent{}, e
	}
	return api.Extent{
		Low: low.form, Least: low.values, Lower: low.flow,
		High: high.form, Greatest: high.values, Upper: high.flow,
	}, api.OK
}

// CheckExtent says whether an extent of a parcel shows what it says.
func CheckExtent(f api.Field, s api.System, parcel int, x api.Extent) (bool, api.Errno) {
	if e := checkFit(f, s, parcel); e != api.OK {
		return false, e
	}
	if !areValues(s.N, x.Greatest) || !areValues(s.N, x.Least) {
		return false, api.ErrArg
	}
	w := weightsOf(f, f.Parcels[parcel])
	upper, _ := CheckBest(s, w, x.Greatest, x.Upper)
	lower, _ := CheckBest(s, opposite(w), x.Least, x.Lower)
	return upper && lower && x.High == formOf(w, x.Greatest) && x.Low == formOf(w, x.Least), api.OK
}

// Surely returns whether the doubled area of a parcel is at least a number in all drawings, or in none.
func Surely(f api.Field, s api.System, parcel, least int) (uint8, api.Errno) {
	if e := checkFit(f, s, parcel); e != api.OK {
		return 0, e
	}
	x := weighing{s, weightsOf(f, f.Parcels[parcel])}
	low, e := x.least()
	if e == api.ErrCircle {
		return 0, e
	}
	if e == api.OK && low.form >= least {
		return api.SureAll, api.OK
	}
	if high, e := x.greatest(); e == api.OK && high.form < least {
		return api.SureNone, api.OK
	}
	return api.SureOpen, api.OK
}

// Difference returns the least and the greatest difference of the doubled areas of two parcels.
func Difference(f api.Field, s api.System, a, b int) (int, int, api.Errno) {
	if e := checkFit(f, s, a, b); e != api.OK {
		return 0, 0, e
	}
	w := weightsOf(f, f.Parcels[a])
	for p, x := range weightsOf(f, f.Parcels[b]) {
		w[p] -= x
	}
	low, high, e := weighing{s, w}.ends()
	return low.form, high.form, e
}

// Pieces returns the pieces of a parcel between each two neighbouring stations.
func Pieces(f api.Field, parcel int) ([]api.Parcel, api.Errno) {
	if e := checkParcel(f, parcel); e != api.OK {
		return nil, e
	}
	var l []api.Parcel
	p := f.Parcels[parcel]
	for i := p.From; i < p.To; i++ {
		l = append(l, api.Parcel{Name: p.Name, South: p.South, From: i, To: i + 1})
	}
	return l, api.OK
}
