package deed

import (
	"slices"

	"merestone/api"
)

// isName says whether a string is a name.
func isName(s string) bool {
	if s == "" || len(s) > api.MaxName || !isLetter(s[0]) {
		return false
	}
	for _, b := range []byte(s) {
		if !isLetter(b) && (b < '0' || b > '9') && b != '-' {
			return false
		}
	}
	return true
}

// isLetter says whether a byte is a letter of names.
func isLetter(b byte) bool { return 'a' <= b && b <= 'z' }

// The names of what has one.
func stationName(s api.Station) string { return s.Name }
func limitName(s string) string        { return s }
func parcelName(p api.Parcel) string   { return p.Name }
func deedName(d api.Deed) string       { return d.Name }

// named returns the index of the first item with a name, or -1 if there is none.
func named[T any](l []T, name string, of func(T) string) int {
	return slices.IndexFunc(l, func(x T) bool { return of(x) == name })
}

// allNamed says whether the names of all items are names.
func allNamed[T any](l []T, of func(T) string) bool {
	return !slices.ContainsFunc(l, func(x T) bool { return !isName(of(x)) })
}

// distinct says whether no two items have the same name.
func distinct[T any](l []T, of func(T) string) bool {
	for i, x := range l {
		if named(l[:i], of(x), of) >= 0 {
			return false
		}
	}
	return true
}
