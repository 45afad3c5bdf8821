// Package expect is what the tests of all layers share: comparisons of what they got with what they want.
package expect

import (
	"slices"

	"merestone/api"
)

// T is what the comparisons use of a test.
type T interface {
	Helper()
	Errorf(format string, args ...any)
}

// Errno fails unless an error is what it should be.
func Errno(t T, name string, got, want api.Errno) {
	t.Helper()
	if got != want {
		t.Errorf("%s: error %d, want %d", name, got, want)
	}
}

// Equal fails unless two values are equal.
func Equal[V comparable](t T, name string, got, want V) {
	t.Helper()
	if got != want {
		t.Errorf("%s: %v, want %v", name, got, want)
	}
}

// List fails unless the items of a list are what they should be.
func List[V comparable](t T, name string, got []V, want ...V) {
	t.Helper()
	if !slices.Equal(got, want) {
		t.Errorf("%s: %v, want %v", name, got, want)
	}
}

// One returns the result of a call without its error, and the error. Two and Three do so for calls with more results.
func One[A any](a A, e api.Errno) ([]any, api.Errno) { return []any{a}, e }

// Two is One for two results.
func Two[A, B any](a A, b B, e api.Errno) ([]any, api.Errno) { return []any{a, b}, e }

// Three is One for three results.
func Three[A, B, C any](a A, b B, c C, e api.Errno) ([]any, api.Errno) { return []any{a, b, c}, e }
