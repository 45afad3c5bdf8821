package court_test

import (
	"math/rand/v2"
	"slices"
	"testing"

	"merestone/api"
	"merestone/court"
	"merestone/expect"
)

// plain returns a record of a kind of call, with a Rank, a Year and an Id.
func plain(kind uint8, rank, year, id int) api.Record {
	return api.Record{Id: id, Rank: rank, Year: year, Call: api.Call{Kind: kind}}
}

// H3: the kind of call decides, then the Rank, the Year, the Id; all else does not matter.
func TestBefore(t *testing.T) {
	l := []api.Record{ // the best one first
		plain(0, 9, 9, 9), plain(1, 0, 0, 0), plain(1, 0, 0, 1), plain(1, 0, 1, 0), plain(1, 1, 0, 0), plain(1, 1, 1, 1), plain(4, -5, 9, 9), plain(4, 3, 3, 3), plain(2, 0, 0, 0),
		plain(5, -1, 0, 0), plain(5, 0, -1, 0), plain(5, 0, 0, -1), plain(3, -9, -9, -9), plain(3, -9, -9, -8),
	}
	for i, a := range l {
		for k, b := range l {
			expect.Equal(t, "Before", court.Before(a, b), i < k)
			b.Day, b.Deed, b.Call.Size, b.Call.Limit = 5, "a", -5, 7
			expect.Equal(t, "Before without what does not matter", court.Before(a, b), i < k)
		}
	}
	for _, kind := range []uint8{0, 6, 7, 128, 255} {
		expect.Equal(t, "other kinds are best", court.Before(plain(kind, 5, 5, 5), plain(1, 0, 0, 0)), true)
		expect.Equal(t, "other kinds are best", court.Before(plain(1, 0, 0, 0), plain(kind, 5, 5, 5)), false)
		expect.Equal(t, "other kinds are alike", court.Before(plain(kind, 5, 5, 5), plain(6, 5, 5, 5)), false)
		expect.Equal(t, "other kinds are alike", court.Before(plain(kind, 5, 5, 5), plain(6, 5, 5, 6)), true)
	}
	r := rand.New(rand.NewPCG(3, 8))
	for range 2000 {
		a, b := plain(uint8(r.IntN(7)), r.IntN(2), r.IntN(2), r.IntN(2)), plain(uint8(r.IntN(7)), r.IntN(2), r.IntN(2), r.IntN(2))
		expect.Equal(t, "Before", court.Before(a, b), isBetter(a, b))
	}
}

// H3: sorted records, of which equal ones stay as they came.
func TestSorted(t *testing.T) {
	expect.List(t, "Sorted of none", court.Sorted(nil))
	expect.List(t, "Sorted of none", court.Sorted([]api.Record{}))
	r := rand.New(rand.NewPCG(4, 8))
	for range 300 {
		var l []api.Record
		for i := range r.IntN(30) {
			x := plain(uint8(r.IntN(7)), r.IntN(2), r.IntN(2), r.IntN(2))
			x.Day = i
			l = append(l, x)
		}
		before := slices.Clone(l)
		got := court.Sorted(l)
		expect.List(t, "the argument", l, before...)
		expect.Equal(t, "how many", len(got), len(l))
		for i := 1; i < len(got); i++ {
			a, b := got[i-1], got[i]
			expect.Equal(t, "the order", isBetter(a, b) || !isBetter(b, a) && a.Day < b.Day, true)
		}
	}
}

// H3: the last of some records, also where an Id is that of none, or of several.
func TestLastOf(t *testing.T) {
	l := []api.Record{plain(1, 0, 5, 4), plain(5, 0, 5, 7), plain(1, 1, 5, 2), plain(4, 0, 5, 9), plain(1, 0, 5, 7), plain(5, 9, 9, 0), plain(5, 9, 9, 4)}
	for _, x := range []struct {
		ids  []int
		want int
		is   bool
	}{
		{nil, 0, false}, {[]int{}, 0, false}, {[]int{4}, 4, true}, {[]int{2}, 2, true}, {[]int{4, 2}, 2, true}, {[]int{2, 4}, 2, true}, {[]int{7, 4}, 7, true}, {[]int{9, 7}, 7, true},
		{[]int{7, 9}, 7, true}, {[]int{9, 9, 7, 7}, 7, true}, {[]int{9, 2, 4}, 9, true}, {[]int{4, 4}, 4, true}, {[]int{0}, 0, true}, {[]int{0, 9, 2}, 0, true}, {[]int{7, 0}, 0, true}, {[]int{1}, 0, false},
		{[]int{4, 1}, 0, false}, {[]int{1, 4}, 0, false}, {[]int{4, 2, 9, 7, 0, 3}, 0, false}, {[]int{-1}, 0, false},
	} {
		got, is := court.LastOf(l, x.ids)
		if got != x.want || is != x.is {
			t.Errorf("LastOf %v: %d, %v", x.ids, got, is)
		}
	}
	got, is := court.LastOf(nil, []int{0})
	expect.Equal(t, "LastOf no records", got == 0 && !is, true)
	r := rand.New(rand.NewPCG(5, 8))
	for range 500 {
		var l []api.Record
		var ids []int
		for i := range 1 + r.IntN(8) {
			l = append(l, plain(uint8(r.IntN(7)), r.IntN(2), r.IntN(2), i+1))
			if r.IntN(2) == 0 {
				ids = append(ids, i+1)
			}
		}
		got, is := court.LastOf(l, ids)
		expect.Equal(t, "LastOf some", is, len(ids) > 0)
		for _, id := range ids {
			expect.Equal(t, "it is better than none", isBetter(l[got-1], l[id-1]), false)
		}
		expect.Equal(t, "it is one of them", !is || slices.Contains(ids, got), true)
	}
}
