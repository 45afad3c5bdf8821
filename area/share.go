package area

import (
	"cmp"
	"slices"

	"merestone/api"
)

// maxRank is the greatest rank of a claim.
const maxRank = 1000000

// checkShares returns why a total cannot be shared in proportion to parts.
func checkShares(total int, parts []int) api.Errno {
	if len(parts) > api.MaxShares {
		return api.ErrLimit
	}
	if !between(0, total, api.MaxTotal) || !allBetween(0, parts, api.MaxPart) {
		return api.ErrArg
	}
	if sumOf(parts) == 0 && total != 0 {
		return api.ErrShare
	}
	return api.OK
}

// greatestFirst returns the indices of a list, those of greater items first, of equal ones the first ones first.
func greatestFirst[T cmp.Ordered](l []T) []int {
	order := make([]int, len(l))
	for i := range order {
		order[i] = i
	}
	slices.SortStableFunc(order, func(i, j int) int { return cmp.Compare(l[j], l[i]) })
	return order
}

// Shares shares a total in proportion to parts.
func Shares(total int, parts []int) ([]int, api.Errno) {
	if e := checkShares(total, parts); e != api.OK {
		return nil, e
	}
	shares := make([]int, len(parts))
	sum := sumOf(parts)
	if sum == 0 {
		return shares, api.OK
	}
	remainders := make([]int, len(parts))
	for i, part := range parts {
		shares[i], remainders[i] = total*part/sum, total*part%sum
	}
	// Each remainder is less than the sum, so fewer are left than there are parts.
	left := total - sumOf(shares)
	for _, i := range greatestFirst(remainders)[:left] {
		shares[i]++
	}
	return shares, api.OK
}

// CheckShares says whether a list shares a total fairly in proportion to parts.
func CheckShares(total int, parts, l []int) (bool, api.Errno) {
	if e := checkShares(total, parts); e != api.OK {
		return false, e
	}
	if len(l) != len(parts) || !allBetween(0, l, total) || sumOf(l) != total {
		return false, api.OK
	}
	sum := sumOf(parts)
	for i, share := range l {
		// If the sum is 0, so is the total, and all that is shared.
		if off := share*sum - total*parts[i]; sum > 0 && !between(1-sum, off, sum-1) {
			return false, api.OK
		}
	}
	return true, api.OK
}

// Ranked shares what was found among claims, those of the least rank first.
func Ranked(found int, claims, ranks []int) ([]int, api.Errno) {
	if e := checkShares(found, claims); e != api.OK {
		return nil, e
	}
	if len(ranks) != len(claims) || !allBetween(0, ranks, maxRank) {
		return nil, api.ErrArg
	}
	got := make([]int, len(claims))
	give := func(total int, parts []int) api.Errno {
		shares, e := Shares(total, parts)
		for i, share := range shares {
			got[i] += share
		}
		return e
	}
	var last []int
	for _, rank := range slices.Compact(slices.Sorted(slices.Values(ranks))) {
		last = claimsOf(rank, claims, ranks)
		now := min(found, sumOf(last))
		give(now, last)
		found -= now
	}
	if e := give(found, last); e != api.OK {
		return nil, e
	}
	return got, api.OK
}

// claimsOf returns the claims of a rank, with 0 in the place of all others.
func claimsOf(rank int, claims, ranks []int) []int {
	l := make([]int, len(claims))
	for i, claim := range claims {
		if ranks[i] == rank {
			l[i] = claim
		}
	}
	return l
}

// Stakes returns the places between two stones at which claims end one after the other.
func Stakes(from, to int, claims []int) ([]int, api.Errno) {
	if !between(0, from, api.MaxOffset) || !between(0, to, api.MaxOffset) {
		return nil, api.ErrArg
	}
	step := cmp.Compare(to, from)
	shares, e := Shares(step*(to-from), claims)
	if e != api.OK {
		return nil, e
	}
	at := from
	var stakes []int
	for _, share := range shares {
		at += step * share
		stakes = append(stakes, at)
	}
	return stakes, api.OK
}
