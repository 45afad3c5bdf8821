package area_test

import (
	"math"
	"math/big"
	"math/rand/v2"
	"slices"
	"testing"

	"merestone/api"
	"merestone/area"
	"merestone/expect"
)

// wrongShares returns totals and parts that cannot be shared, with the error that says so.
func wrongShares() []struct {
	name  string
	total int
	parts []int
	want  api.Errno
} {
	return []struct {
		name  string
		total int
		parts []int
		want  api.Errno
	}{
		{"51 parts", 10, many(51, 51, 1), api.ErrLimit},
		{"51 parts, one wrong", -1, many(51, 51, -1), api.ErrLimit},
		{"51 parts of nothing", 10, make([]int, 51), api.ErrLimit},
		{"a total of -1", -1, []int{1}, api.ErrArg},
		{"a total of -1 for nobody", -1, nil, api.ErrArg},
		{"the least total", math.MinInt, []int{1}, api.ErrArg},
		{"a total of 100000000001", 100000000001, []int{1}, api.ErrArg},
		{"the greatest total", math.MaxInt, []int{1, 1}, api.ErrArg},
		{"a great total for nothing", 100000000001, []int{0}, api.ErrArg},
		{"a part of -1", 10, []int{1, -1, 5}, api.ErrArg},
		{"a part of -1 and one of 1", 10, []int{1, -1}, api.ErrArg},
		{"a last part of 1000001", 10, []int{1, 1000001}, api.ErrArg},
		{"the least part", 10, []int{math.MinInt}, api.ErrArg},
		{"the greatest part", 10, []int{math.MaxInt, 1}, api.ErrArg},
		{"a wrong part of nothing", 0, []int{0, -1}, api.ErrArg},
		{"nobody", 1, nil, api.ErrShare},
		{"nobody in an empty list", 1, []int{}, api.ErrShare},
		{"parts of nothing", 1, []int{0, 0, 0}, api.ErrShare},
		{"50 parts of nothing", 100000000000, make([]int, 50), api.ErrShare},
	}
}

// E12, E13, E14: the errors of Shares, wherever they are named.
func TestErrorsOfShares(t *testing.T) {
	for _, x := range wrongShares() {
		got, e := area.Shares(x.total, x.parts)
		expect.Errno(t, "Shares: "+x.name, e, x.want)
		expect.List(t, "Shares: "+x.name, got)
		for _, l := range [][]int{nil, {x.total}, x.parts} {
			is, e := area.CheckShares(x.total, x.parts, l)
			expect.Errno(t, "CheckShares: "+x.name, e, x.want)
			expect.Equal(t, "CheckShares: "+x.name, is, false)
		}
		for _, ranks := range [][]int{nil, make([]int, len(x.parts)), {-1}} {
			got, e = area.Ranked(x.total, x.parts, ranks)
			expect.Errno(t, "Ranked: "+x.name, e, x.want)
			expect.List(t, "Ranked: "+x.name, got)
		}
		if 0 <= x.total && x.total <= 100000 {
			got, e = area.Stakes(100000, 100000-x.total, x.parts)
			expect.Errno(t, "Stakes: "+x.name, e, x.want)
			expect.List(t, "Stakes: "+x.name, got)
		}
	}
}

// E12: shares, with what rounding leaves.
func TestShares(t *testing.T) {
	for _, x := range []struct {
		name        string
		total       int
		parts, want []int
	}{
		{"the chapter's", 10, []int{1, 1, 1}, []int{4, 3, 3}},
		{"a part of 0", 7, []int{3, 0, 4}, []int{3, 0, 4}},
		{"two left", 11, []int{1, 1, 1}, []int{4, 4, 3}},
		{"the greatest remainder last", 10, []int{1, 1, 2}, []int{3, 2, 5}},
		{"the greatest remainder first", 3, []int{1, 2, 5}, []int{0, 1, 2}},      // 3/8, 6/8, 15/8
		{"equal remainders of unequal parts", 3, []int{2, 6, 4}, []int{1, 1, 1}}, // 6/12, 18/12, 12/12
		{"less than parts", 2, []int{5, 5, 5, 5}, []int{1, 1, 0, 0}},
		{"one for many", 1, []int{1, 3, 3}, []int{0, 1, 0}},
		{"parts of 0 get nothing", 5, []int{0, 1, 0, 1, 0}, []int{0, 3, 0, 2, 0}},
		{"one part", 17, []int{3}, []int{17}},
		{"one part of 1", 100000000000, []int{1}, []int{100000000000}},
		{"nothing", 0, []int{3, 1}, []int{0, 0}},
		{"nothing for nothing", 0, []int{0, 0}, []int{0, 0}},
		{"nothing for nobody", 0, nil, nil},
		{"all great", 100000000000, []int{1000000, 1000000, 1000000}, []int{33333333334, 33333333333, 33333333333}},
		{"a great and a small one", 100000000000, []int{1, 1000000}, []int{100000, 99999900000}},
		{"a total of 1", 1, []int{1000000, 999999}, []int{1, 0}},
	} {
		got, e := area.Shares(x.total, x.parts)
		expect.Errno(t, x.name, e, api.OK)
		expect.List(t, x.name, got, x.want...)
		is, e := area.CheckShares(x.total, x.parts, got)
		expect.Errno(t, x.name, e, api.OK)
		expect.Equal(t, x.name, is, true)
	}
	got, e := area.Shares(99, many(50, 50, 1000000))
	expect.Errno(t, "50 parts", e, api.OK)
	expect.List(t, "50 parts", got, append(slices.Repeat([]int{2}, 49), 1)...)
}

// E12: lists that share fairly, and others.
func TestCheckShares(t *testing.T) {
	thirds, half := []int{1, 1, 1}, []int{1, 1}
	for _, x := range []struct {
		name     string
		total    int
		parts, l []int
		want     bool
	}{
		{"as Shares does", 10, thirds, []int{4, 3, 3}, true},
		{"the second one gets what is left", 10, thirds, []int{3, 4, 3}, true},
		{"too little", 10, thirds, []int{3, 3, 3}, false},
		{"too much", 10, thirds, []int{4, 4, 3}, false},
		{"one too much by two", 10, thirds, []int{5, 3, 2}, false},
		{"one too little", 10, thirds, []int{4, 4, 2}, false},
		{"less than 1 too much", 1, []int{1, 1000}, []int{1, 0}, true},
		{"one too much by one", 10, half, []int{6, 4}, false},
		{"one for nothing", 3, []int{0, 1}, []int{1, 2}, false},
		{"too few", 10, half, []int{10}, false},
		{"too many", 10, half, []int{5, 5, 0}, false},
		{"none", 10, half, nil, false},
		{"none of nothing", 0, half, nil, false},
		{"nothing", 0, half, []int{0, 0}, true},
		{"something of nothing", 0, half, []int{1, -1}, false},
		{"less than nothing", 1, []int{1, 1, 1}, []int{1, 1, -1}, false},
		{"nothing for nothing", 0, []int{0, 0}, []int{0, 0}, true},
		{"something for nothing", 0, []int{0, 0}, []int{1, 0}, false},
		{"something for nothing and less", 0, []int{0, 0}, []int{1, -1}, false},
		{"nothing for nothing, too few", 0, []int{0, 0}, []int{0}, false},
		{"nobody", 0, nil, nil, true},
		{"nobody in an empty list", 0, nil, []int{}, true},
		{"nobody, but a share", 0, nil, []int{0}, false},
		{"far too much", 10, half, []int{math.MaxInt, 5}, false},
		{"far too little", 10, half, []int{math.MinInt, 5}, false},
		{"far too much and little", 10, half, []int{math.MaxInt, math.MinInt + 11}, false},
		{"too much, round to the total", 10, []int{1, 1, 1, 1}, []int{math.MaxInt, math.MaxInt, 6, 6}, false},
		{"great", 100000000000, []int{1000000, 1000000, 1000000}, []int{33333333333, 33333333334, 33333333333}, true},
		{"great and off", 100000000000, []int{1000000, 1000000, 1000000}, []int{33333333332, 33333333334, 33333333334}, false},
		{"all of a great total in one place", 100000000000, many(50, 50, 1000000), with(make([]int, 50), 7, 100000000000), false},
	} {
		got, e := area.CheckShares(x.total, x.parts, x.l)
		expect.Errno(t, x.name, e, api.OK)
		expect.Equal(t, x.name, got, x.want)
	}
}

// fair returns the shares of a total, one link after the other: first what is due whole, then each to whom most is due still.
func fair(total int, parts []int) []int {
	shares := make([]int, len(parts))
	all := int64(sum(parts))
	due := func(i int) *big.Rat {
		x := big.NewRat(int64(total)*int64(parts[i]), all)
		return x.Sub(x, big.NewRat(int64(shares[i]), 1))
	}
	for i := range shares {
		for due(i).Cmp(big.NewRat(1, 1)) >= 0 {
			shares[i]++
		}
	}
	for sum(shares) < total {
		best := 0
		for i := range shares {
			if due(i).Cmp(due(best)) > 0 {
				best = i
			}
		}
		shares[best]++
	}
	return shares
}

// eachShares runs a test with totals and parts, of which some are equal.
func eachShares(t *testing.T, count int, test func(r *rand.Rand, total int, parts []int)) {
	t.Helper()
	r := rand.New(rand.NewPCG(12, 15))
	for range count {
		parts := make([]int, 1+r.IntN(6))
		for i := range parts {
			parts[i] = r.IntN(7)
		}
		parts[r.IntN(len(parts))]++
		total := r.IntN(60)
		test(r, total, parts)
		if t.Failed() {
			t.Logf("the total %d, the parts %v", total, parts)
			return
		}
	}
}

// E12, P5.7: against shares that are given link by link; greater parts never get less, and of equal ones the first gets at most one more.
func TestFairShares(t *testing.T) {
	eachShares(t, 1500, func(r *rand.Rand, total int, parts []int) {
		got, e := area.Shares(total, parts)
		expect.Errno(t, "Shares", e, api.OK)
		expect.List(t, "Shares", got, fair(total, parts)...)
		expect.Equal(t, "they add up", sum(got), total)
		is, e := area.CheckShares(total, parts, got)
		expect.Errno(t, "CheckShares", e, api.OK)
		expect.Equal(t, "CheckShares", is, true)
		for i := range parts {
			for j := range parts {
				expect.Equal(t, "a greater part", parts[i] <= parts[j] || got[i] >= got[j], true)
				first := parts[i] != parts[j] || i >= j || got[j] <= got[i] && got[i] <= got[j]+1
				expect.Equal(t, "the first one of equal parts", first, true)
			}
		}
		// Another list is fair if it differs by less than 1 everywhere.
		other := slices.Clone(got)
		other[r.IntN(len(other))]++
		other[r.IntN(len(other))]--
		want := slices.Min(other) >= 0
		for i, share := range other {
			off := share*sum(parts) - total*parts[i]
			want = want && -sum(parts) < off && off < sum(parts)
		}
		is, e = area.CheckShares(total, parts, other)
		expect.Errno(t, "CheckShares", e, api.OK)
		expect.Equal(t, "CheckShares of another list", is, want)
	})
}

// E13: claims of several ranks, in any order.
func TestRanked(t *testing.T) {
	for _, x := range []struct {
		name                string
		found               int
		claims, ranks, want []int
		e                   api.Errno
	}{
		{"the chapter's, too little", 10, []int{6, 6, 4}, []int{1, 2, 2}, []int{6, 2, 2}, api.OK},
		{"the chapter's, too much", 20, []int{6, 6, 4}, []int{1, 2, 2}, []int{6, 8, 6}, api.OK},
		{"just enough", 16, []int{6, 6, 4}, []int{1, 2, 2}, []int{6, 6, 4}, api.OK},
		{"one too much", 17, []int{6, 6, 4}, []int{1, 2, 2}, []int{6, 7, 4}, api.OK},
		{"nothing left for the second rank", 6, []int{6, 6, 4}, []int{1, 2, 2}, []int{6, 0, 0}, api.OK},
		{"not enough for the first rank", 5, []int{6, 6, 4}, []int{1, 2, 2}, []int{5, 0, 0}, api.OK},
		{"nothing", 0, []int{6, 6, 4}, []int{1, 2, 2}, []int{0, 0, 0}, api.OK},
		{"ranks that are not in order", 17, []int{5, 3, 9, 1}, []int{7, 0, 7, 3}, []int{5, 3, 8, 1}, api.OK},
		{"ranks backwards", 10, []int{4, 6, 6}, []int{2, 2, 1}, []int{2, 2, 6}, api.OK},
		{"all behind get nothing", 3, []int{5, 2, 9}, []int{1, 2, 3}, []int{3, 0, 0}, api.OK},
		{"all behind get nothing, nor those that claim nothing", 3, []int{5, 0, 9}, []int{1, 2, 3}, []int{3, 0, 0}, api.OK},
		{"one rank", 10, []int{1, 1, 1}, []int{5, 5, 5}, []int{4, 3, 3}, api.OK},
		{"one rank, too little", 2, []int{1, 1, 1}, []int{5, 5, 5}, []int{1, 1, 0}, api.OK},
		{"claims of 0 within", 9, []int{0, 4, 0}, []int{1, 2, 2}, []int{0, 9, 0}, api.OK},
		{"a rank that claims nothing, and nothing left", 4, []int{4, 0}, []int{1, 2}, []int{4, 0}, api.OK},
		{"a rank that claims nothing, and something left", 5, []int{4, 0}, []int{1, 2}, nil, api.ErrShare},
		{"more ranks that claim nothing", 5, []int{0, 4, 0, 0}, []int{9, 1, 9, 2}, nil, api.ErrShare},
		{"too little for a rank before one that claims nothing", 3, []int{4, 0}, []int{1, 2}, []int{3, 0}, api.OK},
		{"nobody", 0, nil, nil, nil, api.OK},
		{"nobody with a rank", 0, nil, []int{1}, nil, api.ErrArg},
		{"nothing for nothing", 0, []int{0, 0}, []int{1, 2}, []int{0, 0}, api.OK},
		{"too few ranks", 10, []int{6, 6, 4}, []int{1, 2}, nil, api.ErrArg},
		{"too many ranks", 10, []int{6, 6, 4}, []int{1, 2, 2, 2}, nil, api.ErrArg},
		{"no ranks", 10, []int{6, 6, 4}, nil, nil, api.ErrArg},
		{"ranks of 0 and 1000000", 10, []int{6, 6, 4}, []int{1000000, 0, 0}, []int{0, 6, 4}, api.OK},
		{"a rank of -1", 10, []int{6, 6, 4}, []int{1, -1, 2}, nil, api.ErrArg},
		{"a rank of 1000001", 10, []int{6, 6, 4}, []int{1, 2, 1000001}, nil, api.ErrArg},
		{"the least rank", 10, []int{6, 6, 4}, []int{1, math.MinInt, 2}, nil, api.ErrArg},
		{"the greatest rank", 10, []int{6, 6, 4}, []int{1, math.MaxInt, 2}, nil, api.ErrArg},
		{"a wrong rank, and something left", 5, []int{4, 0}, []int{-1, 2}, nil, api.ErrArg},
		{"too few ranks, and something left", 5, []int{4, 0}, []int{1}, nil, api.ErrArg},
		{"much for great claims", 100000000000, []int{1000000, 1000000}, []int{1, 2}, []int{1000000, 99999000000}, api.OK},
	} {
		got, e := area.Ranked(x.found, x.claims, x.ranks)
		expect.Errno(t, x.name, e, x.e)
		expect.List(t, x.name, got, x.want...)
	}
}

// rankedOf returns what Ranked should, rank by rank; false if something is left for nobody.
func rankedOf(found int, claims, ranks []int) ([]int, bool) {
	got := make([]int, len(claims))
	greatest := slices.Max(ranks)
	for rank := 0; rank <= greatest; rank++ {
		var who, parts []int
		for i := range claims {
			if ranks[i] == rank {
				who, parts = append(who, i), append(parts, claims[i])
			}
		}
		gets := parts
		if sum(parts) > found || rank == greatest && sum(parts) > 0 {
			gets = fair(found, parts)
		}
		if sum(parts) < found && rank == greatest && sum(parts) > 0 {
			gets = fair(found-sum(parts), parts)
			for k := range gets {
				gets[k] += parts[k]
			}
		}
		for k, i := range who {
			got[i] = gets[k]
		}
		found -= sum(gets)
	}
	return got, found == 0
}

// E13, P5.8: against ranks that are gone through one by one; nobody of a rank gets less than they claim if somebody behind gets something.
func TestFairRanks(t *testing.T) {
	left := 0
	eachShares(t, 1500, func(r *rand.Rand, found int, claims []int) {
		ranks := make([]int, len(claims))
		for i := range ranks {
			ranks[i] = r.IntN(4)
		}
		found /= 2
		got, e := area.Ranked(found, claims, ranks)
		want, is := rankedOf(found, claims, ranks)
		if !is {
			left++
			expect.Errno(t, "Ranked", e, api.ErrShare)
			expect.List(t, "Ranked", got)
			return
		}
		expect.Errno(t, "Ranked", e, api.OK)
		expect.List(t, "Ranked", got, want...)
		expect.Equal(t, "it adds up", sum(got), found)
		for i := range claims {
			for j := range claims {
				expect.Equal(t, "the lesser rank comes first", ranks[i] >= ranks[j] || got[j] == 0 || got[i] >= claims[i], true)
			}
		}
	})
	if left < 20 {
		t.Errorf("in %d cases something is left for nobody", left)
	}
}

// E14: stakes from south to north and back.
func TestStakes(t *testing.T) {
	for _, x := range []struct {
		name         string
		from, to     int
		claims, want []int
		e            api.Errno
	}{
		{"the chapter's", 100, 110, []int{1, 1, 1}, []int{104, 107, 110}, api.OK},
		{"the chapter's back", 110, 100, []int{1, 1, 1}, []int{106, 103, 100}, api.OK},
		{"one claim", 100, 110, []int{9}, []int{110}, api.OK},
		{"claims of 0", 100, 110, []int{0, 1, 0, 1, 0}, []int{100, 105, 105, 110, 110}, api.OK},
		{"claims of 0 back", 110, 100, []int{0, 1, 0, 1, 0}, []int{110, 105, 105, 100, 100}, api.OK},
		{"more claims than links", 100, 102, []int{5, 5, 5, 5}, []int{101, 102, 102, 102}, api.OK},
		{"from an offset to itself", 100, 100, []int{5, 5}, []int{100, 100}, api.OK},
		{"from an offset to itself for nothing", 100, 100, []int{0, 0}, []int{100, 100}, api.OK},
		{"from an offset to itself for nobody", 100, 100, nil, nil, api.OK},
		{"for nobody", 100, 101, nil, nil, api.ErrShare},
		{"for nobody back", 101, 100, []int{}, nil, api.ErrShare},
		{"for nothing", 100, 101, []int{0, 0}, nil, api.ErrShare},
		{"from end to end", 0, 100000, []int{1, 3}, []int{25000, 100000}, api.OK},
		{"from end to end back", 100000, 0, []int{1, 3}, []int{75000, 0}, api.OK},
		{"from -1", -1, 100, []int{1}, nil, api.ErrArg},
		{"to -1", 100, -1, []int{1}, nil, api.ErrArg},
		{"from 100001", 100001, 100, []int{1}, nil, api.ErrArg},
		{"to 100001", 100, 100001, []int{1}, nil, api.ErrArg},
		{"from 100001 to itself", 100001, 100001, []int{1}, nil, api.ErrArg},
		{"far apart", math.MinInt, math.MaxInt, []int{1}, nil, api.ErrArg},
		{"far to the south", 0, math.MinInt, []int{1}, nil, api.ErrArg},
		{"an offset before claims", -1, 100, make([]int, 51), nil, api.ErrArg},
		{"a last offset before claims", 0, 100001, make([]int, 51), nil, api.ErrArg},
		{"an offset before nobody", 100, 100001, nil, nil, api.ErrArg},
	} {
		got, e := area.Stakes(x.from, x.to, x.claims)
		expect.Errno(t, x.name, e, x.e)
		expect.List(t, x.name, got, x.want...)
	}
}

// E14, P5.9: stakes are the shares one behind the other; they never turn back, and the last one is the stone.
func TestFairStakes(t *testing.T) {
	eachShares(t, 500, func(r *rand.Rand, length int, claims []int) {
		from := 100 + r.IntN(100)
		for _, way := range []int{1, -1} {
			got, e := area.Stakes(from, from+way*length, claims)
			expect.Errno(t, "Stakes", e, api.OK)
			expect.Equal(t, "as many as claims", len(got), len(claims))
			place := from
			for i, share := range fair(length, claims) {
				place += way * share
				expect.Equal(t, "a stake", got[i], place)
			}
			expect.Equal(t, "the last one", got[len(got)-1], from+way*length)
		}
	})
}
