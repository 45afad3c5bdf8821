package area

import (
	"merestone/api"
	"merestone/line"
)

// weighing is a valid system with weights for it.
type weighing struct {
	system  api.System
	weights []int
}

// end is the greatest or the least form of a weighing, values that have it, and a flow that proves it.
type end struct {
	form         int
	values, flow []int
}

// greatest returns the end above. Its errors: ErrCircle and ErrOpen.
func (x weighing) greatest() (end, api.Errno) {
	if is, _ := line.Consistent(x.system); !is {
		return end{}, api.ErrCircle
	}
	c := currentOf(x.system, x.weights)
	if !c.fill() {
		return end{}, api.ErrOpen
	}
	y := c.values()
	return end{formOf(x.weights, y), y, c.amounts}, api.OK
}

// least returns the end below: the greatest form of the opposite weights.
func (x weighing) least() (end, api.Errno) {
	low, e := weighing{x.system, opposite(x.weights)}.greatest()
	low.form = -low.form
	return low, e
}

// ends returns both ends.
func (x weighing) ends() (low, high end, e api.Errno) {
	var both [2]end
	for i, find := range []func() (end, api.Errno){x.least, x.greatest} {
		if both[i], e = find(); e != api.OK {
			return end{}, end{}, e
		}
	}
	return both[0], both[1], api.OK
}

// Greatest returns the greatest form of all values that keep a system, values that have it, and a flow that proves it.
func Greatest(s api.System, w []int) (int, []int, []int, api.Errno) {
	if e := checkWeights(s, w); e != api.OK {
		return 0, nil, nil, e
	}
	high, e := weighing{s, w}.greatest()
	return high.form, high.values, high.flow, e
}

// Least returns the least form of all values that keep a system, values that have it, and a flow that proves it.
func Least(s api.System, w []int) (int, []int, []int, api.Errno) {
	if e := checkWeights(s, w); e != api.OK {
		return 0, nil, nil, e
	}
	low, e := weighing{s, w}.least()
	return low.form, low.values, low.flow, e
}
