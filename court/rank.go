package court

import (
	"slices"

	"merestone/api"
)

// rankOf returns what decides of the precedence of a record; the least one comes first.
func rankOf(r api.Record) [4]int {
	kinds := [...]int{
		api.CallStone: 1, api.CallAlong: 2, api.CallWidth: 3, api.CallLevel: 4, api.CallCourse: 5,
	}
	kind := 0
	if int(r.Call.Kind) < len(kinds) {
		kind = kinds[r.Call.Kind]
	}
	return [...]int{kind, r.Rank, r.Year, r.Id}
}

// Before says whether a is better than b.
func Before(a, b api.Record) bool {
	x, y := rankOf(a), rankOf(b)
	return slices.Compare(x[:], y[:]) < 0
}

// sorted returns a list in an order; equal items stay as they came.
func sorted[T any](l []T, before func(a, b T) bool) []T {
	return slices.SortedStableFunc(slices.Values(l), func(a, b T) int {
		switch {
		case before(a, b):
			return -1
		case before(b, a):
			return 1
		}
		return 0
	})
}

// Sorted returns records in the order of precedence.
func Sorted(l []api.Record) []api.Record { return sorted(l, Before) }

// LastOf returns the one of some records that comes last in precedence.
func LastOf(l []api.Record, ids []int) (int, bool) {
	var some []api.Record
	for _, id := range ids {
		at := slices.IndexFunc(l, func(r api.Record) bool { return r.Id == id })
		if at < 0 {
			return 0, false
		}
		some = append(some, l[at])
	}
	if len(some) == 0 {
		return 0, false
	}
	return Sorted(some)[len(some)-1].Id, true
}
