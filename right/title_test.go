package right_test

import (
	"math"
	"math/rand/v2"
	"slices"
	"testing"

	"merestone/api"
	"merestone/expect"
	"merestone/right"
)

// maker returns the index of the deal that made a lot; -1 if it was never used.
func maker(l []api.Deal, lot int) int {
	return slices.IndexFunc(l, func(x api.Deal) bool {
		return (x.Kind == api.DealEnter || x.Kind == api.DealMerge) && x.Lot == lot || x.Kind == api.DealDivide && slices.Contains(x.Into, lot)
	})
}

// lineage puts the places of the deals from which a lot comes, and the lots that were entered, into maps.
func lineage(l []api.Deal, lot int, places, roots map[int]bool) {
	at := maker(l, lot)
	if at < 0 || places[at] && l[at].Kind != api.DealEnter {
		return
	}
	places[at] = true
	switch x := l[at]; x.Kind {
	case api.DealEnter:
		roots[lot] = true
	case api.DealDivide:
		lineage(l, x.Lot, places, roots)
	case api.DealMerge:
		for _, n := range x.Into {
			lineage(l, n, places, roots)
		}
	}
}

// G7, G8, P7.5: the deals from which a lot comes, and the lots that were entered.
func TestLine(t *testing.T) {
	long, several := 0, 0
	eachRegister(t, 300, func(r *rand.Rand, l []api.Deal) {
		roll, _ := right.Roll(l, math.MaxInt)
		for lot := range top + 2 {
			places, roots := map[int]bool{}, map[int]bool{}
			lineage(l, lot, places, roots)
			line, e := right.Line(l, lot)
			from, f := right.Roots(l, lot)
			if maker(l, lot) < 0 {
				expect.Errno(t, "Line of what was never used", e, api.ErrNone)
				expect.Errno(t, "Roots of what was never used", f, api.ErrNone)
				expect.Equal(t, "Line and Roots of what was never used", len(line)+len(from), 0)
				continue
			}
			expect.Errno(t, "Line", e, api.OK)
			expect.Errno(t, "Roots", f, api.OK)
			var wantLine, wantRoots []int
			for i, x := range l {
				if places[i] {
					wantLine = append(wantLine, x.Id)
				}
			}
			for n := range top + 2 {
				if roots[n] {
					wantRoots = append(wantRoots, n)
				}
			}
			expect.List(t, "Line", line, wantLine...)
			expect.List(t, "Roots", from, wantRoots...)
			expect.Equal(t, "Line has the deal that made the lot", slices.Contains(line, l[maker(l, lot)].Id), true)
			expect.Equal(t, "Roots are not empty", len(from) > 0, true)
			size := 0
			for _, n := range from {
				size += l[maker(l, n)].Size
			}
			for _, x := range roll.Lots {
				expect.Equal(t, "the sizes of the Roots", x.Number != lot || x.Size <= size, true)
			}
			if len(line) > 3 {
				long++
			}
			if len(from) > 1 {
				several++
			}
		}
	})
	enough(t, "a line of several deals", long, 100)
	enough(t, "a lot from several ones", several, 50)
}

// G9, G10, P7.4: what falls, what is left, and what a deal needs.
func TestFalls(t *testing.T) {
	many, needed := 0, 0
	eachRegister(t, 400, func(r *rand.Rand, l []api.Deal) {
		if len(l) == 0 {
			return
		}
		id := l[r.IntN(len(l))].Id
		want := falls(l, id)
		got, e := right.Falls(l, id)
		expect.Errno(t, "Falls", e, api.OK)
		expect.List(t, "Falls", got, want...)
		left, e := right.Without(l, id)
		expect.Errno(t, "Without", e, api.OK)
		kept := slices.DeleteFunc(clone(l), func(x api.Deal) bool { return slices.Contains(want, x.Id) })
		expect.Equal(t, "Without", slices.EqualFunc(left, kept, isSame), true)
		_, e = right.Check(left)
		expect.Errno(t, "Without is a register", e, api.OK)
		at := slices.IndexFunc(l, func(x api.Deal) bool { return x.Id == id })
		expect.Equal(t, "it keeps all deals before", slices.EqualFunc(left[:at], l[:at], isSame), true)
		for _, x := range l[at+1:] {
			if slices.Contains(want, x.Id) {
				before := slices.DeleteFunc(slices.Clone(left), func(y api.Deal) bool { return place(l, y.Id) > place(l, x.Id) })
				_, e := right.Append(before, x)
				expect.Equal(t, "what falls is refused behind those that stay", e != api.OK, true)
			}
		}
		var needs []int
		for _, x := range l[:at] {
			if slices.Contains(falls(l, x.Id), id) {
				needs = append(needs, x.Id)
			}
		}
		got, e = right.Needs(l, id)
		expect.Errno(t, "Needs", e, api.OK)
		expect.List(t, "Needs", got, needs...)
		if len(want) > 2 {
			many++
		}
		if len(needs) > 2 {
			needed++
		}
	})
	enough(t, "several deals that fall", many, 40)
	enough(t, "several deals that are needed", needed, 40)
}

// place returns the index of the deal with an Id.
func place(l []api.Deal, id int) int {
	return slices.IndexFunc(l, func(x api.Deal) bool { return x.Id == id })
}

// falls returns the deals that fall if one is taken out, by the tests' own world.
func falls(l []api.Deal, id int) []int {
	w := newWorld()
	var ids []int
	for _, x := range l {
		if x.Id == id || w.apply(x) != api.OK {
			ids = append(ids, x.Id)
		}
	}
	return ids
}

// G9: a deal that is refused now, as it was made again by what stays, and others that rest on what falls.
func TestFallsOfChains(t *testing.T) {
	l := deals(t, `1 0 enter 1 1 60
2 0 stint 1 5 7
3 1 end 1 5
4 1 stint 1 5 8
5 2 divide 1 2 20 3 40
6 3 merge 4 2 3
7 3 grant 4 1 2 10
8 4 grant 4 2 3 10
9 4 grant 4 1 3 5030`)
	for id, want := range map[int][]int{1: {1, 2, 3, 4, 5, 6, 7, 8, 9}, 2: {2, 3}, 3: {3, 4}, 4: {4}, 5: {5, 6, 7, 8, 9}, 7: {7, 8}, 9: {9}} {
		got, e := right.Falls(l, id)
		expect.Errno(t, "Falls", e, api.OK)
		expect.List(t, "Falls", got, want...)
	}
	for id, want := range map[int][]int{1: nil, 2: {1}, 3: {1, 2}, 4: {1, 3}, 9: {1, 5, 6}, 8: {1, 5, 6, 7}} {
		got, e := right.Needs(l, id)
		expect.Errno(t, "Needs", e, api.OK)
		expect.List(t, "Needs", got, want...)
	}
	for _, id := range []int{0, 10, -1, math.MinInt, math.MaxInt} {
		_, e := right.Falls(l, id)
		expect.Errno(t, "Falls of no deal", e, api.ErrNone)
		_, e = right.Without(l, id)
		expect.Errno(t, "Without no deal", e, api.ErrNone)
		_, e = right.Needs(l, id)
		expect.Errno(t, "Needs of no deal", e, api.ErrNone)
	}
	for _, lot := range []int{0, 5, -1, math.MinInt, math.MaxInt} {
		_, e := right.Line(l, lot)
		expect.Errno(t, "Line of no lot", e, api.ErrNone)
		_, e = right.Roots(l, lot)
		expect.Errno(t, "Roots of no lot", e, api.ErrNone)
	}
	line, _ := right.Line(l, 2)
	expect.List(t, "Line of a lot that is gone", line, 1, 5)
	line, _ = right.Line(l, 4)
	expect.List(t, "Line of a lot that was merged", line, 1, 5, 6)
}

// G7, G9, G10: a long register in which each lot comes from two others.
func TestGreatTitles(t *testing.T) {
	var l []api.Deal
	l = append(l, api.Deal{Id: 1, Kind: api.DealEnter, Lot: 1, To: 1, Size: 60})
	for i := 1; i < 399; i += 2 {
		l = append(l, api.Deal{Id: i + 1, Day: i, Kind: api.DealDivide, Lot: i, Into: []int{1000 + i, 2000 + i}, Sizes: []int{20, 40}})
		l = append(l, api.Deal{Id: i + 2, Day: i, Kind: api.DealMerge, Lot: i + 2, Into: []int{1000 + i, 2000 + i}})
	}
	line, e := right.Line(l, 399)
	expect.Errno(t, "Line", e, api.OK)
	expect.Equal(t, "Line", len(line), 399)
	roots, e := right.Roots(l, 399)
	expect.Errno(t, "Roots", e, api.OK)
	expect.List(t, "Roots", roots, 1)
	falls, e := right.Falls(l, 2)
	expect.Errno(t, "Falls", e, api.OK)
	expect.Equal(t, "Falls", len(falls), 398)
	needs, e := right.Needs(l, 399)
	expect.Errno(t, "Needs", e, api.OK)
	expect.Equal(t, "Needs", len(needs), 398)
}
