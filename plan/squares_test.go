package plan_test

import (
	"math"
	"math/big"
	"math/rand/v2"
	"slices"
	"testing"

	"merestone/api"
	"merestone/expect"
	"merestone/plan"
)

// divisor returns the greatest common divisor of numbers.
func divisor(l ...int) int64 {
	d := big.NewInt(0)
	for _, x := range l {
		d.GCD(nil, nil, d, new(big.Int).Abs(big.NewInt(int64(x))))
	}
	return d.Int64()
}

// value returns the value of a point of an adjustment.
func value(x api.Adjusted, p int) *big.Rat { return big.NewRat(int64(x.Num[p]), int64(x.Den)) }

// residual returns the residual of a reading.
func residual(r api.Reading, x api.Adjusted) *big.Rat {
	y := new(big.Rat).Sub(value(x, r.To), value(x, r.From))
	return y.Sub(big.NewRat(int64(r.Size), 1), y)
}

// weighed returns a residual with the weight of its reading.
func weighed(r api.Reading, x *big.Rat) *big.Rat {
	return new(big.Rat).Mul(big.NewRat(int64(r.Weight), 1), x)
}

// squares returns the sum of the squares of the residuals, with their weights.
func squares(l []api.Reading, x api.Adjusted) *big.Rat {
	sum := new(big.Rat)
	for _, r := range l {
		y := residual(r, x)
		sum.Add(sum, weighed(r, y.Mul(y, y)))
	}
	return sum
}

// balanced says whether the residuals that lead to each point weigh as much as those that lead away from it.
func balanced(n int, l []api.Reading, x api.Adjusted) bool {
	for p := range n {
		to, from := new(big.Rat), new(big.Rat)
		for _, r := range l {
			if r.To == p {
				to.Add(to, weighed(r, residual(r, x)))
			}
			if r.From == p {
				from.Add(from, weighed(r, residual(r, x)))
			}
		}
		if to.Cmp(from) != 0 {
			return false
		}
	}
	return true
}

// joined says whether readings join all points.
func joined(n int, l []api.Reading) bool {
	return len(joins(n, func(a, b int) bool {
		return slices.ContainsFunc(l, func(r api.Reading) bool { return r.From == a && r.To == b || r.From == b && r.To == a })
	})) == 1
}

// adjusted returns the adjustment of readings that join n points.
func adjusted(t *testing.T, n int, l []api.Reading) api.Adjusted {
	t.Helper()
	x, e := plan.Adjust(n, l)
	expect.Errno(t, "Adjust", e, api.OK)
	expect.Equal(t, "Adjust has as many as points", len(x.Num), n)
	return x
}

// F17, P6.8: the adjustment is balanced, in lowest terms, the same for all orders, and no other one has less squares.
func TestAdjust(t *testing.T) {
	far, parts := 0, 0
	eachReadings(t, 600, func(r *rand.Rand, n int, l []api.Reading) {
		if !joined(n, l) {
			x, e := plan.Adjust(n, l)
			expect.Errno(t, "Adjust of what is not joined", e, api.ErrFar)
			expect.Equal(t, "Adjust of what is not joined", len(x.Num)+x.Den, 0)
			far++
			return
		}
		x := adjusted(t, n, l)
		expect.Equal(t, "a Den", x.Den >= 1 && x.Den <= 1000000, true)
		expect.Equal(t, "the point 0", x.Num[0], 0)
		expect.Equal(t, "lowest terms", divisor(append([]int{x.Den}, x.Num...)...), 1)
		expect.Equal(t, "balanced", balanced(n, l, x), true)
		again := adjusted(t, n, shuffled(r, l))
		expect.Equal(t, "the same Den in another order", again.Den, x.Den)
		expect.List(t, "the same in another order", again.Num, x.Num...)
		best := squares(l, x)
		for p := 1; p < n; p++ {
			for _, off := range []int{-1, 1, r.IntN(50)} {
				other := api.Adjusted{Den: x.Den, Num: with(x.Num, p, x.Num[p]+off)}
				more := squares(l, other).Cmp(best)
				expect.Equal(t, "another one has more squares", more > 0 || off == 0, true)
				is, e := plan.Balanced(n, l, other)
				expect.Errno(t, "Balanced", e, api.OK)
				expect.Equal(t, "another one is not balanced", is, off == 0)
			}
		}
		if x.Den > 1 {
			parts++
		}
	})
	enough(t, "points that are not joined", far, 100)
	enough(t, "a Den of more than 1", parts, 50)
}

// F18: residuals and balance of any adjustment, also where it is not in lowest terms.
func TestResiduals(t *testing.T) {
	counts := map[bool]int{}
	eachReadings(t, 400, func(r *rand.Rand, n int, l []api.Reading) {
		x := api.Adjusted{Den: 1 + r.IntN(6), Num: make([]int, n)}
		for p := 1; p < n; p++ {
			x.Num[p] = r.IntN(41) - 20
		}
		if y, e := plan.Adjust(n, l); e == api.OK && r.IntN(2) == 0 {
			k := 1 + r.IntN(9)
			x = api.Adjusted{Den: y.Den * k, Num: make([]int, n)}
			for p := range x.Num {
				x.Num[p] = y.Num[p] * k
			}
		}
		got, e := plan.Residuals(n, l, x)
		expect.Errno(t, "Residuals", e, api.OK)
		expect.Equal(t, "as many as readings", len(got), len(l))
		for k, r := range l {
			want := new(big.Rat).Mul(residual(r, x), big.NewRat(int64(x.Den), 1))
			expect.Equal(t, "Residuals", big.NewRat(int64(got[k]), 1).Cmp(want), 0)
		}
		is, e := plan.Balanced(n, l, x)
		expect.Errno(t, "Balanced", e, api.OK)
		expect.Equal(t, "Balanced", is, balanced(n, l, x))
		counts[is]++
		sum, e := plan.Squares(n, l, x)
		expect.Errno(t, "Squares", e, api.OK)
		expect.Equal(t, "Squares", big.NewRat(int64(sum.Num), int64(sum.Den)).Cmp(squares(l, x)), 0)
		expect.Equal(t, "Squares in lowest terms", sum.Den > 0 && divisor(sum.Num, sum.Den) == 1, true)
	})
	enough(t, "a balanced adjustment", counts[true], 100)
	enough(t, "one that is not balanced", counts[false], 100)
}

// P6.8: readings that fit some values exactly have these values, and Squares 0.
func TestExactReadings(t *testing.T) {
	count := 0
	eachReadings(t, 300, func(r *rand.Rand, n int, l []api.Reading) {
		if !joined(n, l) {
			return
		}
		y := make([]int, n)
		for p := 1; p < n; p++ {
			y[p] = r.IntN(100001) - 50000
		}
		for k, x := range l {
			l[k].Size = y[x.To] - y[x.From]
		}
		x := adjusted(t, n, l)
		expect.Equal(t, "Den", x.Den, 1)
		expect.List(t, "Num", x.Num, y...)
		sum, e := plan.Squares(n, l, x)
		expect.Errno(t, "Squares", e, api.OK)
		expect.Equal(t, "Squares", sum, api.Frac{Num: 0, Den: 1})
		count++
	})
	enough(t, "readings that join all points", count, 50)
}

// F17: as many points and readings as there may be, with weights and sizes at their ends.
func TestGreatAdjustments(t *testing.T) {
	var l []api.Reading
	for i := range 10 {
		size := 100000
		if i%3 == 0 {
			size = -100000
		}
		a := i % 4
		l = append(l, api.Reading{From: a, To: (a + 1 + i%3) % 4, Size: size, Weight: 3 - i%2})
	}
	x := adjusted(t, 4, l)
	expect.Equal(t, "balanced", balanced(4, l, x), true)
	is, e := plan.Balanced(4, l, x)
	expect.Errno(t, "Balanced", e, api.OK)
	expect.Equal(t, "Balanced", is, true)
	one := adjusted(t, 1, nil)
	expect.Equal(t, "one point", one.Den, 1)
	expect.List(t, "one point", one.Num, 0)
	chain := []api.Reading{{From: 0, To: 1, Size: 100000, Weight: 3}, {From: 2, To: 1, Size: -100000, Weight: 1}, {From: 2, To: 3, Size: 100000, Weight: 2}}
	x = adjusted(t, 4, chain)
	expect.Equal(t, "a chain", x.Den, 1)
	expect.List(t, "a chain", x.Num, 0, 100000, 200000, 300000)
}

// F17 to F19: too many points or readings, behind the error of CheckReadings, and before that of an adjustment.
func TestLimitsOfAdjustments(t *testing.T) {
	link := func(count int) []api.Reading {
		l := []api.Reading{{From: 0, To: 1, Weight: 1}, {From: 1, To: 2, Weight: 1}, {From: 2, To: 3, Weight: 1}}
		return append(l, slices.Repeat([]api.Reading{{From: 0, To: 3, Size: 1, Weight: 3}}, count-3)...)
	}
	for _, x := range []struct {
		name string
		n    int
		l    []api.Reading
		want api.Errno
	}{
		{"4 points, 10 readings", 4, link(10), api.OK},
		{"11 readings", 4, link(11), api.ErrLimit},
		{"5 points", 5, link(10), api.ErrLimit},
		{"40 points", 40, nil, api.ErrLimit},
		{"41 points", 41, link(11), api.ErrArg},
		{"40 readings", 4, link(40), api.ErrLimit},
		{"41 readings", 4, link(41), api.ErrLimit},
		{"11 readings, the last one wrong", 4, append(link(10), api.Reading{}), api.ErrArg},
		{"a wrong one of 5 points", 5, []api.Reading{{}}, api.ErrArg},
		{"no points", 0, nil, api.ErrArg},
	} {
		_, e := plan.Adjust(x.n, x.l)
		expect.Errno(t, "Adjust: "+x.name, e, x.want)
		for _, y := range []api.Adjusted{{Den: 1, Num: make([]int, max(0, x.n))}, {}} {
			if x.want == api.OK && y.Den == 0 {
				continue
			}
			_, e = plan.Residuals(x.n, x.l, y)
			expect.Errno(t, "Residuals: "+x.name, e, x.want)
			_, e = plan.Balanced(x.n, x.l, y)
			expect.Errno(t, "Balanced: "+x.name, e, x.want)
			_, e = plan.Squares(x.n, x.l, y)
			expect.Errno(t, "Squares: "+x.name, e, x.want)
		}
	}
}

// F18, F19: what an adjustment is, with the limits and one beyond each.
func TestAdjustments(t *testing.T) {
	l := []api.Reading{{From: 0, To: 1, Size: 1, Weight: 1}}
	for _, x := range []struct {
		name string
		x    api.Adjusted
		want api.Errno
	}{
		{"one", api.Adjusted{Den: 3, Num: []int{0, 1, 2}}, api.OK},
		{"not in lowest terms", api.Adjusted{Den: 4, Num: []int{0, 2, 2}}, api.OK},
		{"Den 0", api.Adjusted{Num: []int{0, 1, 2}}, api.ErrArg},
		{"Den -1", api.Adjusted{Den: -1, Num: []int{0, 1, 2}}, api.ErrArg},
		{"Den 1", api.Adjusted{Den: 1, Num: []int{0, 1, 2}}, api.OK},
		{"Den 1000000", api.Adjusted{Den: 1000000, Num: []int{0, 1, 2}}, api.OK},
		{"Den 1000001", api.Adjusted{Den: 1000001, Num: []int{0, 1, 2}}, api.ErrArg},
		{"the least Den", api.Adjusted{Den: math.MinInt, Num: []int{0, 1, 2}}, api.ErrArg},
		{"the first one 1", api.Adjusted{Den: 1, Num: []int{1, 1, 2}}, api.ErrArg},
		{"the first one -1", api.Adjusted{Den: 1, Num: []int{-1, 1, 2}}, api.ErrArg},
		{"Num 1000000000000", api.Adjusted{Den: 1, Num: []int{0, 0, 1000000000000}}, api.OK},
		{"Num 1000000000001", api.Adjusted{Den: 1, Num: []int{0, 0, 1000000000001}}, api.ErrArg},
		{"Num -1000000000000", api.Adjusted{Den: 1, Num: []int{0, 0, -1000000000000}}, api.OK},
		{"Num -1000000000001", api.Adjusted{Den: 1, Num: []int{0, 0, -1000000000001}}, api.ErrArg},
		{"the least Num", api.Adjusted{Den: 1, Num: []int{0, math.MinInt, 0}}, api.ErrArg},
		{"too few", api.Adjusted{Den: 1, Num: []int{0, 1}}, api.ErrArg},
		{"too many", api.Adjusted{Den: 1, Num: []int{0, 1, 2, 0}}, api.ErrArg},
		{"none", api.Adjusted{Den: 1}, api.ErrArg},
	} {
		_, e := plan.Residuals(3, l, x.x)
		expect.Errno(t, "Residuals: "+x.name, e, x.want)
		_, e = plan.Balanced(3, l, x.x)
		expect.Errno(t, "Balanced: "+x.name, e, x.want)
		_, e = plan.Squares(3, l, x.x)
		expect.Errno(t, "Squares: "+x.name, e, x.want)
	}
	got, e := plan.Residuals(2, []api.Reading{{From: 1, To: 0, Size: 100000, Weight: 3}}, api.Adjusted{Den: 1000000, Num: []int{0, 1000000000000}})
	expect.Errno(t, "Residuals at their ends", e, api.OK)
	expect.List(t, "Residuals at their ends", got, 1100000000000)
}

// F19: sums of squares around 4000000000000000000.
func TestGreatSquares(t *testing.T) {
	weights := func(l ...int) []api.Reading {
		var r []api.Reading
		for _, w := range l {
			r = append(r, api.Reading{From: 0, To: 1, Weight: w})
		}
		return r
	}
	for _, x := range []struct {
		name string
		l    []api.Reading
		num  int
		want api.Errno
	}{
		{"just so much", weights(1), 2000000000, api.OK},
		{"just so much, below 0", weights(1), -2000000000, api.OK},
		{"one more", weights(1), 2000000001, api.ErrLimit},
		{"one more, below 0", weights(1), -2000000001, api.ErrLimit},
		{"far more", weights(1), 1000000000000, api.ErrLimit},
		{"what wraps around", weights(1), 1 << 32, api.ErrLimit},
		{"weights up to it", weights(2), 1414213562, api.OK},
		{"weights beyond it", weights(2), 1414213563, api.ErrLimit},
		{"weights that wrap around", weights(3), 2000000000, api.ErrLimit},
		{"a sum of just so much", weights(1, 3), 1000000000, api.OK},
		{"a sum of more", weights(2, 3), 1000000000, api.ErrLimit},
		{"a sum of one more", weights(1, 3), 1000000001, api.ErrLimit},
		{"ten of just so much", weights(3, 3, 3, 3, 3, 1), 500000000, api.OK},
		{"ten of more", weights(3, 3, 3, 3, 3, 2), 500000000, api.ErrLimit},
	} {
		got, e := plan.Squares(2, x.l, api.Adjusted{Den: 1, Num: []int{0, x.num}})
		expect.Errno(t, x.name, e, x.want)
		if e != api.OK {
			expect.Equal(t, x.name, got, api.Frac{})
			continue
		}
		want := new(big.Rat)
		want.Set(squares(x.l, api.Adjusted{Den: 1, Num: []int{0, x.num}}))
		expect.Equal(t, x.name, big.NewRat(int64(got.Num), int64(got.Den)).Cmp(want), 0)
	}
	got, e := plan.Squares(2, weights(2), api.Adjusted{Den: 1000000, Num: []int{0, 3000}})
	expect.Errno(t, "a fraction", e, api.OK)
	expect.Equal(t, "a fraction", got, api.Frac{Num: 9, Den: 500000})
	got, e = plan.Squares(2, nil, api.Adjusted{Den: 7, Num: []int{0, 3}})
	expect.Errno(t, "no readings", e, api.OK)
	expect.Equal(t, "no readings", got, api.Frac{Num: 0, Den: 1})
}
