package line

import (
	"slices"

	"merestone/api"
)

// Needless returns the bounds that the others imply, where of several the last ones are left out.
func Needless(s api.System) ([]int, api.Errno) {
	n, e := sound(s)
	if e != api.OK {
		return nil, e
	}
	var left []int
	for i, b := range slices.Backward(s.Bounds) {
		all := n.from[b.From]
		n.from[b.From] = slices.DeleteFunc(slices.Clone(all), func(k int) bool { return k == i })
		if n.distances(b.From)[b.To] <= b.Most {
			left = append(left, i)
		} else {
			n.from[b.From] = all
		}
	}
	slices.Reverse(left)
	return left, api.OK
}

// Close returns the system whose bounds are the distances.
func Close(s api.System) (api.System, api.Errno) {
	n, e := sound(s)
	if e != api.OK {
		return api.System{}, e
	}
	closed := api.System{N: s.N}
	for a, d := range n.allDistances() {
		for b, most := range d[:s.N] {
			if a == b || most == none {
				continue
			}
			if !within(most, api.MaxMost) || len(closed.Bounds) == api.MaxBounds {
				return api.System{}, api.ErrLimit
			}
			closed.Bounds = append(closed.Bounds, api.Bound{From: a, To: b, Most: most})
		}
	}
	return closed, api.OK
}
