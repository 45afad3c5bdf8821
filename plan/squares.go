package plan

import "merestone/api"

const (
	maxDen     = 1000000             // the greatest Den of an adjustment
	maxNum     = 1000000000000       // how far a Num may lie from 0
	maxSquares = 4000000000000000000 // the greatest sum of squares of residuals times Den
)

// matrix is a square of numbers.
type matrix [api.MaxKnots][api.MaxKnots]int

// add adds a number at a place.
func (m *matrix) add(row, column, x int) { m[row][column] += x }

// replace puts a list of numbers in the place of a column.
func (m *matrix) replace(column int, l [api.MaxKnots]int) {
	for row, x := range l {
		m[row][column] = x
	}
}

// determinant returns the sum, over all ways to take a number from each row that are in different columns, of their products with their signs.
func (m *matrix) determinant() int {
	var below func(row int, taken [api.MaxKnots]bool) int
	below = func(row int, taken [api.MaxKnots]bool) int {
		if row == len(m) {
			return 1
		}
		sum, sign := 0, 1
		for column, x := range m[row] {
			if taken[column] {
				continue
			}
			left := taken
			left[column] = true
			sum += sign * x * below(row+1, left)
			sign = -sign
		}
		return sum
	}
	return below(0, [api.MaxKnots]bool{})
}

// equations are a matrix, and what each of its rows has to give, multiplied with the values of the points.
type equations struct {
	matrix
	right [api.MaxKnots]int
}

// equationsOf returns the equations by which readings of n points are balanced. Those of the point 0, and of points that there are not, say that they have the value 0.
func equationsOf(n int, l []api.Reading) equations {
	var q equations
	for p := range q.right {
		if p == 0 || p >= n {
			q.add(p, p, 1)
		}
	}
	for _, r := range l {
		q.meet(r.To, r.From, r.Size, r.Weight)
		q.meet(r.From, r.To, -r.Size, r.Weight)
	}
	return q
}

// meet adds a reading to the equation of one of its points, which lies size beyond the other one.
func (q *equations) meet(p, other, size, weight int) {
	if p == 0 {
		return
	}
	q.add(p, p, weight)
	q.add(p, other, -weight)
	q.right[p] += weight * size
}

// times returns the value of a point, times the determinant.
func (q equations) times(p int) int {
	q.replace(p, q.right)
	return q.determinant()
}

// divisor returns the greatest common divisor of numbers; 0 if all are 0.
func divisor(l ...int) int {
	d := 0
	for _, x := range l {
		for x != 0 {
			d, x = x, d%x
		}
	}
	return max(d, -d)
}

// checkFew returns why readings cannot be adjusted.
func checkFew(n int, l []api.Reading) api.Errno {
	if e := CheckReadings(n, l); e != api.OK {
		return e
	}
	if n > api.MaxKnots || len(l) > api.MaxTies {
		return api.ErrLimit
	}
	return api.OK
}

// checkAdjusted is checkFew, and ErrArg for what is no adjustment of n points.
func checkAdjusted(n int, l []api.Reading, x api.Adjusted) api.Errno {
	if e := checkFew(n, l); e != api.OK {
		return e
	}
	if !between(1, x.Den, maxDen) || len(x.Num) != n || x.Num[0] != 0 || !allBetween(-maxNum, x.Num, maxNum) {
		return api.ErrArg
	}
	return api.OK
}

// Adjust returns the balanced adjustment of readings.
func Adjust(n int, l []api.Reading) (api.Adjusted, api.Errno) {
	if e := checkFew(n, l); e != api.OK {
		return api.Adjusted{}, e
	}
	if len(apart().joined(pairsRead(l)).lists(n)) > 1 {
		return api.Adjusted{}, api.ErrFar
	}
	q := equationsOf(n, l)
	x := api.Adjusted{Den: q.determinant()}
	for p := range n {
		x.Num = append(x.Num, q.times(p))
	}
	// As all points are joined, the determinant is greater than 0: it counts the trees of readings.
	d := divisor(append([]int{x.Den}, x.Num...)...)
	x.Den /= d
	for p := range x.Num {
		x.Num[p] /= d
	}
	return x, api.OK
}

// residuals returns the residual of each reading, times Den.
func residuals(l []api.Reading, x api.Adjusted) []int {
	out := make([]int, len(l))
	for k, r := range l {
		out[k] = r.Size*x.Den - (x.Num[r.To] - x.Num[r.From])
	}
	return out
}

// Residuals returns the residual of each reading, times Den.
func Residuals(n int, l []api.Reading, x api.Adjusted) ([]int, api.Errno) {
	if e := checkAdjusted(n, l, x); e != api.OK {
		return nil, e
	}
	return residuals(l, x), api.OK
}

// Balanced says whether at each point the residuals that lead to it weigh as much as those that lead away.
func Balanced(n int, l []api.Reading, x api.Adjusted) (bool, api.Errno) {
	if e := checkAdjusted(n, l, x); e != api.OK {
		return false, e
	}
	var sums [api.MaxKnots]int
	for k, residual := range residuals(l, x) {
		sums[l[k].To] += l[k].Weight * residual
		sums[l[k].From] -= l[k].Weight * residual
	}
	return sums == [api.MaxKnots]int{}, api.OK
}

// Squares returns the sum of the squares of the residuals, with their weights.
func Squares(n int, l []api.Reading, x api.Adjusted) (api.Frac, api.Errno) {
	if e := checkAdjusted(n, l, x); e != api.OK {
		return api.Frac{}, e
	}
	const root = 2000000000 // of maxSquares: beyond it a square alone is too great
	sum := 0
	for k, residual := range residuals(l, x) {
		if !between(-root, residual, root) || residual*residual > (maxSquares-sum)/l[k].Weight {
			return api.Frac{}, api.ErrLimit
		}
		sum += l[k].Weight * residual * residual
	}
	den := x.Den * x.Den
	d := divisor(sum, den)
	return api.Frac{Num: sum / d, Den: den / d}, api.OK
}
