package area_test

import (
	"math"
	"slices"
	"testing"

	"merestone/api"
	"merestone/area"
	"merestone/expect"
)

// weightsOfExample are the weights of the chapter's parcel.
func weightsOfExample() []int { return []int{0, -10, -30, -20, 10, 30, 20} }

// many returns a list of n numbers of which the last count are x, and the others 0.
func many(n, count, x int) []int {
	return slices.Concat(make([]int, n-count), slices.Repeat([]int{x}, count))
}

// wrongWeights returns lists that are no weights for 128 points.
func wrongWeights() map[string][]int {
	return map[string][]int{
		"none":               nil,
		"an empty list":      {},
		"too few":            make([]int, 127),
		"too many":           make([]int, 129),
		"-1000001":           list(128, 5, -1000001),
		"1000001":            list(128, 5, 1000001),
		"1000001 at 0":       list(128, 0, 1000001),
		"-1000001 behind":    list(128, 127, -1000001),
		"the least":          list(128, 5, math.MinInt),
		"the greatest":       list(128, 5, math.MaxInt),
		"61 that are not 0":  many(128, 61, 1),
		"61 with that of 0":  with(many(128, 60, 1), 0, 1),
		"128 that are not 0": many(128, 128, -1),
		"61 great ones":      many(128, 61, 1000000),
	}
}

// rightWeights returns weights for 128 points that are as great, and as many, as they can be.
func rightWeights() map[string][]int {
	return map[string][]int{
		"all 0":             make([]int, 128),
		"-1000000":          list(128, 5, -1000000),
		"1000000":           list(128, 5, 1000000),
		"1000000 at 0":      list(128, 0, 1000000),
		"60 that are not 0": many(128, 60, 1),
		"60 with that of 0": with(many(128, 59, 1), 0, 1),
		"60 great ones":     many(128, 60, 1000000),
		"60 small ones":     many(128, 60, -1000000),
	}
}

// wrongValues returns lists that are no values for 7 points.
func wrongValues() map[string][]int {
	return map[string][]int{
		"none":              nil,
		"an empty list":     {},
		"too few":           make([]int, 6),
		"too many":          make([]int, 8),
		"1 at 0":            list(7, 0, 1),
		"-1 at 0":           list(7, 0, -1),
		"-400000001":        list(7, 1, -400000001),
		"400000001":         list(7, 1, 400000001),
		"400000001 behind":  list(7, 6, 400000001),
		"the least":         list(7, 3, math.MinInt),
		"the greatest":      list(7, 3, math.MaxInt),
		"1 at 0 and a wide": {1, math.MaxInt, 0, 0, 0, 0, 0},
	}
}

// E1: forms of values that keep a system, and of others.
func TestForm(t *testing.T) {
	w := weightsOfExample()
	for _, x := range []struct {
		name string
		s    api.System
		w, y []int
		want int
	}{
		{"the chapter's", bounded(), w, []int{0, 1, 2, 3, 11, 12, 18}, 700},
		{"all 0", bounded(), w, make([]int, 7), 0},
		{"not kept", bounded(), w, []int{0, 11, 12, 18, 1, 2, 3}, -700},
		{"a contradiction", contradiction(), w, []int{0, 1, 2, 3, 11, 12, 18}, 700},
		{"the least values", bounded(), w, []int{0, -400000000, -400000000, -400000000, 400000000, 400000000, 400000000}, 120 * 400000000},
		{"the weight of 0", bounded(), with(w, 0, 1000000), []int{0, 1, 2, 3, 11, 12, 18}, 700},
		{"one point", api.System{N: 1}, []int{5}, []int{0}, 0},
		{"the greatest form", api.System{N: 128}, many(128, 60, 1000000), many(128, 60, 400000000), 24000000000000000},
		{"the least form", api.System{N: 128}, many(128, 60, -1000000), many(128, 60, 400000000), -24000000000000000},
	} {
		got, e := area.Form(x.s, x.w, x.y)
		expect.Errno(t, x.name, e, api.OK)
		expect.Equal(t, x.name, got, x.want)
	}
}

// E1, E2, E3: what weights are.
func TestWeightsOfSystems(t *testing.T) {
	s, y := api.System{N: 128, Bounds: []api.Bound{}}, make([]int, 128)
	for p := 1; p < 128; p++ {
		s.Bounds = append(s.Bounds, bound(0, p, 5, 1), bound(p, 0, 0, 1))
	}
	flow := make([]int, len(s.Bounds))
	try := func(name string, w []int, want api.Errno) {
		t.Helper()
		_, e := area.Form(s, w, y)
		expect.Errno(t, "Form: "+name, e, want)
		_, _, _, e = area.Greatest(s, w)
		expect.Errno(t, "Greatest: "+name, e, want)
		_, _, _, e = area.Least(s, w)
		expect.Errno(t, "Least: "+name, e, want)
		for _, l := range [][]int{flow, nil} {
			_, e = area.CheckFlow(s, w, l, 0)
			expect.Errno(t, "CheckFlow: "+name, e, want)
			_, e = area.CheckBest(s, w, y, l)
			expect.Errno(t, "CheckBest: "+name, e, want)
		}
	}
	for name, w := range wrongWeights() {
		try(name, w, api.ErrArg)
	}
	for name, w := range rightWeights() {
		try(name, w, api.OK)
	}
}

// E1, E3: what values are.
func TestValues(t *testing.T) {
	w := weightsOfExample()
	for name, y := range wrongValues() {
		for _, s := range []api.System{bounded(), contradiction()} {
			_, e := area.Form(s, w, y)
			expect.Errno(t, "Form: "+name, e, api.ErrArg)
			for _, flow := range [][]int{make([]int, len(s.Bounds)), nil} {
				is, e := area.CheckBest(s, w, y, flow)
				expect.Errno(t, "CheckBest: "+name, e, api.ErrArg)
				expect.Equal(t, "CheckBest: "+name, is, false)
			}
		}
	}
	for _, v := range []int{-400000000, 400000000} {
		_, e := area.Form(bounded(), w, list(7, 6, v))
		expect.Errno(t, "Form", e, api.OK)
		is, e := area.CheckBest(bounded(), w, list(7, 6, v), make([]int, 12))
		expect.Errno(t, "CheckBest", e, api.OK)
		expect.Equal(t, "CheckBest", is, false)
	}
}

// fork is a system of three points: 2 is at most 3 more than 1, which is at most 5; or else at most 9.
func fork() api.System {
	return api.System{N: 3, Bounds: []api.Bound{bound(0, 1, 5, 1), bound(1, 2, 3, 2), bound(0, 2, 9, 3), bound(2, 1, -1, 4)}}
}

// E3: flows that carry weights, at some cost.
func TestCheckFlow(t *testing.T) {
	for _, x := range []struct {
		name    string
		w, flow []int
		most    int
		want    bool
	}{
		{"by both bounds", []int{0, 0, 2}, []int{2, 2, 0, 0}, 16, true},
		{"a cost of one more", []int{0, 0, 2}, []int{2, 2, 0, 0}, 15, false},
		{"any cost", []int{0, 0, 2}, []int{2, 2, 0, 0}, math.MaxInt, true},
		{"no cost", []int{0, 0, 2}, []int{2, 2, 0, 0}, math.MinInt, false},
		{"by one bound", []int{0, 0, 2}, []int{0, 0, 2, 0}, 18, true},
		{"by both ways", []int{0, 0, 2}, []int{1, 1, 1, 0}, 17, true},
		{"round in a circle", []int{0, 0, 2}, []int{2, 7, 0, 5}, 26, true},
		{"less than the weight", []int{0, 0, 2}, []int{1, 1, 0, 0}, 100, false},
		{"more than the weight", []int{0, 0, 2}, []int{3, 3, 0, 0}, 100, false},
		{"something left on the way", []int{0, 0, 2}, []int{3, 2, 0, 0}, 100, false},
		{"something left on the way as it should", []int{0, 1, 2}, []int{3, 2, 0, 0}, 21, true},
		{"the other way", []int{0, 0, -2}, []int{2, 2, 0, 0}, 100, false},
		{"from one point to another", []int{0, -2, 2}, []int{0, 2, 0, 0}, 6, true},
		{"back", []int{0, 2, -2}, []int{0, 0, 0, 2}, -2, true},
		{"back for less", []int{0, 2, -2}, []int{0, 0, 0, 2}, -3, false},
		{"nothing", []int{0, 0, 0}, []int{0, 0, 0, 0}, 0, true},
		{"nothing for less than nothing", []int{0, 0, 0}, []int{0, 0, 0, 0}, -1, false},
		{"the weight of 0 does not matter", []int{77, 0, 2}, []int{2, 2, 0, 0}, 16, true},
		{"too short", []int{0, 0, 2}, []int{2, 2, 0}, 100, false},
		{"too long", []int{0, 0, 2}, []int{2, 2, 0, 0, 0}, 100, false},
		{"none", []int{0, 0, 0}, nil, 100, false},
		{"an amount of -1", []int{0, -1, 0}, []int{-1, 0, 0, 0}, 100, false},
		{"amounts of -1 round in a circle", []int{0, 0, 0}, []int{0, -1, 0, -1}, 100, false},
		{"amounts of 1000000000", []int{0, 0, 0}, []int{0, 1000000000, 0, 1000000000}, 2000000000, true},
		{"amounts of 1000000000 for less", []int{0, 0, 0}, []int{0, 1000000000, 0, 1000000000}, 1999999999, false},
		{"amounts of 1000000001", []int{0, 0, 0}, []int{0, 1000000001, 0, 1000000001}, math.MaxInt, false},
		{"the least amount", []int{0, 0, 0}, []int{0, math.MinInt, 0, math.MinInt}, math.MaxInt, false},
		{"the greatest amount", []int{0, 0, 0}, []int{0, math.MaxInt, 0, math.MaxInt}, math.MaxInt, false},
	} {
		got, e := area.CheckFlow(fork(), x.w, x.flow, x.most)
		expect.Errno(t, x.name, e, api.OK)
		expect.Equal(t, x.name, got, x.want)
	}
}

// E3: flows are checked in a system that is not consistent, too; the greatest flow costs what it costs.
func TestCheckFlowAtItsEnds(t *testing.T) {
	s := api.System{N: 2, Bounds: []api.Bound{bound(0, 1, -5, 1), bound(1, 0, 4, 2)}}
	is, e := area.CheckFlow(s, []int{0, 0}, []int{3, 3}, -3)
	expect.Errno(t, "a contradiction", e, api.OK)
	expect.Equal(t, "a contradiction", is, true)
	var great api.System
	great.N = 2
	for range 1000 {
		great.Bounds = append(great.Bounds, bound(0, 1, 1000000, 1), bound(1, 0, 1000000, 1))
	}
	flow := slices.Repeat([]int{1000000000}, 2000)
	const cost = 2000000000000000000
	for most, want := range map[int]bool{cost: true, cost - 1: false} {
		is, e := area.CheckFlow(great, []int{0, 0}, flow, most)
		expect.Errno(t, "the greatest cost", e, api.OK)
		expect.Equal(t, "the greatest cost", is, want)
	}
}

// E3: values and a flow that show each other to be the best.
func TestCheckBest(t *testing.T) {
	for _, x := range []struct {
		name       string
		w, y, flow []int
		want       bool
	}{
		{"the best", []int{0, 0, 2}, []int{0, 5, 8}, []int{2, 2, 0, 0}, true},
		{"the best with the weight of 0", []int{9, 0, 2}, []int{0, 5, 8}, []int{2, 2, 0, 0}, true},
		{"values with less", []int{0, 0, 2}, []int{0, 4, 7}, []int{2, 2, 0, 0}, false},
		{"a flow that costs more", []int{0, 0, 2}, []int{0, 5, 8}, []int{0, 0, 2, 0}, false},
		{"values that are not kept", []int{0, 0, 2}, []int{0, 6, 9}, []int{0, 0, 2, 0}, false},
		{"a flow that carries less", []int{0, 0, 2}, []int{0, 5, 8}, []int{0, 0, 1, 0}, false},
		{"a flow that carries nothing", []int{0, 0, 2}, []int{0, 5, 8}, []int{0, 0, 0, 0}, false},
		{"the cost alone", []int{0, 0, 2}, []int{0, -1, 0}, []int{0, 0, 0, 0}, false},
		{"nothing", []int{0, 0, 0}, []int{0, -7, -6}, []int{0, 0, 0, 0}, true},
		{"nothing round in a circle", []int{0, 0, 0}, []int{0, -7, -6}, []int{0, 1, 0, 1}, false},
		{"too short", []int{0, 0, 0}, []int{0, -7, -6}, []int{0, 0, 0}, false},
		{"too long", []int{0, 0, 0}, []int{0, -7, -6}, []int{0, 0, 0, 0, 0}, false},
		{"none", []int{0, 0, 0}, []int{0, -7, -6}, nil, false},
		{"an amount of -1", []int{0, 0, -1}, []int{0, -9, 0}, []int{0, 0, -1, 0}, false},
		{"an amount of 1000000001", []int{0, 0, 0}, []int{0, -7, -6}, []int{0, 1000000001, 0, 1000000001}, false},
	} {
		got, e := area.CheckBest(fork(), x.w, x.y, x.flow)
		expect.Errno(t, x.name, e, api.OK)
		expect.Equal(t, x.name, got, x.want)
	}
	// By a circle that costs nothing a flow may bear as much as it likes.
	level := api.System{N: 2, Bounds: []api.Bound{bound(0, 1, 0, 1), bound(1, 0, 0, 1)}}
	for amount, want := range map[int]bool{0: true, 1000000000: true, 1000000001: false, -1: false} {
		got, e := area.CheckBest(level, []int{0, 0}, []int{0, 0}, []int{amount, amount})
		expect.Errno(t, "a circle", e, api.OK)
		expect.Equal(t, "a circle", got, want)
	}
}

// E4: the records of the bounds with amounts, ascending and each once, without nature's.
func TestRecords(t *testing.T) {
	s := plus(fork(), bound(2, 0, 7, 0), bound(0, 2, 9, 1000000), bound(0, 1, 5, 2), bound(1, 0, 3, 1))
	for _, x := range []struct {
		name string
		flow []int
		want []int
		e    api.Errno
	}{
		{"nothing", make([]int, 8), nil, api.OK},
		{"all", []int{1, 1, 1, 1, 1, 1, 1, 1}, []int{1, 2, 3, 4, 1000000}, api.OK},
		{"one", []int{0, 0, 1, 0, 0, 0, 0, 0}, []int{3}, api.OK},
		{"nature alone", []int{0, 0, 0, 0, 5, 0, 0, 0}, nil, api.OK},
		{"one twice", []int{0, 4, 0, 0, 0, 0, 9, 0}, []int{2}, api.OK},
		{"the last ones first", []int{0, 0, 0, 2, 0, 3, 0, 4}, []int{1, 4, 1000000}, api.OK},
		{"an amount of 1000000000", []int{1000000000, 0, 0, 0, 0, 0, 0, 0}, []int{1}, api.OK},
		{"an amount of 1000000001", []int{1000000001, 0, 0, 0, 0, 0, 0, 0}, nil, api.ErrArg},
		{"an amount of -1", []int{1, 0, 0, 0, 0, 0, 0, -1}, nil, api.ErrArg},
		{"too short", make([]int, 7), nil, api.ErrArg},
		{"too long", make([]int, 9), nil, api.ErrArg},
		{"none", nil, nil, api.ErrArg},
	} {
		got, e := area.Records(s, x.flow)
		expect.Errno(t, x.name, e, x.e)
		expect.List(t, x.name, got, x.want...)
	}
	got, e := area.Records(contradiction(), slices.Repeat([]int{1}, 13))
	expect.Errno(t, "a contradiction", e, api.OK)
	expect.List(t, "a contradiction", got, 1, 2, 9)
	for _, flow := range [][]int{nil, {}} {
		got, e = area.Records(api.System{N: 3}, flow)
		expect.Errno(t, "no bounds", e, api.OK)
		expect.List(t, "no bounds", got)
	}
}
