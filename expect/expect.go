// Package expect is what the tests of all layers share: comparisons of what they got with what they want.
package expect

import (
	"slices"

	"merestone/api"
)

// T is what the comparisons use of a test.
type T interface {
	Helper()
	Errorf(format string, args ...any)
}

// Errno fails unless an error is what it should be.
func Errno(t T, name string, got, want api.Errno) {
	t.Helper()
	if got != want {
		t.Errorf("%s: error %d, want %d", name, got, want)
	}
}

// Equal fails unless two values are equal.
func Equal[V comparable](t T, name string, got, want V) {
	t.Helper()
	if got != want {
		t.Errorf("%s: %v, want %v", name, got, want)
	}
}

// List fails unless the items of a list are what they should be.
func List[V comparable](t T, name string, got []V, want ...V) {
	t.Helper()
	if !slices.Equal(got, want) {
		t.Errorf("%s: %v, want %v", name, got, want)
	}
}
