package line

import "merestone/api"

// end is an end of a range, if it has one.
type end struct {
	value int
	is    bool
}

// highEnd is the high end of what may be at most d more than a value.
func highEnd(value, d int) end {
	if d == none {
		return end{}
	}
	return end{value + d, true}
}

// lowEnd is the low end of what may be at most d less than a value.
func lowEnd(value, d int) end {
	if d == none {
		return end{}
	}
	return end{value - d, true}
}

// below says whether e is there, and bounds from above more narrowly than f.
func (e end) below(f end) bool { return e.is && (!f.is || e.value < f.value) }

// above says whether e is there, and bounds from below more narrowly than f.
func (e end) above(f end) bool { return e.is && (!f.is || e.value > f.value) }

// meets says whether both ends are there, and equal.
func (e end) meets(f end) bool { return e.is && f.is && e.value == f.value }

// question is what is asked of two ends.
type question int

const (
	narrowerHigh question = iota
	narrowerLow
	oneValue
)

// comparisons returns how two ends are compared, by what is asked of them.
func comparisons() map[question]func(end, end) bool {
	return map[question]func(end, end) bool{
		narrowerHigh: end.below,
		narrowerLow:  end.above,
		oneValue:     end.meets,
	}
}

// Range returns the range of the value of p.
func Range(s api.System, p int) (api.Span, api.Errno) { return Between(s, 0, p) }

// Between returns the range of the value of b less that of a.
func Between(s api.System, a, b int) (api.Span, api.Errno) {
	n, e := sound(s, a, b)
	if e != api.OK {
		return api.Span{}, e
	}
	low := lowEnd(0, n.distances(b)[a])
	high := highEnd(0, n.distances(a)[b])
	return api.Span{Low: low.value, High: high.value, Lowest: low.is, Highest: high.is}, api.OK
}

// Rigid returns the classes of points whose differences have one value alone.
func Rigid(s api.System) ([][]int, api.Errno) {
	n, e := sound(s)
	if e != api.OK {
		return nil, e
	}
	d := n.allDistances()
	meet := comparisons()[oneValue]
	var classes [][]int
	var placed [api.MaxPoints]bool
	for a := range s.N {
		if placed[a] {
			continue
		}
		class := []int{a}
		for b := a + 1; b < s.N; b++ {
			if meet(lowEnd(0, d[b][a]), highEnd(0, d[a][b])) {
				class = append(class, b)
				placed[b] = true
			}
		}
		classes = append(classes, class)
	}
	return classes, api.OK
}
