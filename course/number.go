package course

// sines is the table of sines, in parts of ten thousand.
var sines = [91]int{
	0, 175, 349, 523, 698, 872, 1045, 1219, 1392, 1564,
	1736, 1908, 2079, 2250, 2419, 2588, 2756, 2924, 3090, 3256,
	3420, 3584, 3746, 3907, 4067, 4226, 4384, 4540, 4695, 4848,
	5000, 5150, 5299, 5446, 5592, 5736, 5878, 6018, 6157, 6293,
	6428, 6561, 6691, 6820, 6947, 7071, 7193, 7314, 7431, 7547,
	7660, 7771, 7880, 7986, 8090, 8192, 8290, 8387, 8480, 8572,
	8660, 8746, 8829, 8910, 8988, 9063, 9135, 9205, 9272, 9336,
	9397, 9455, 9511, 9563, 9613, 9659, 9703, 9744, 9781, 9816,
	9848, 9877, 9903, 9925, 9945, 9962, 9976, 9986, 9994, 9998,
	10000,
}

// Norm returns the direction from 0 to 359 that is the same as d.
func Norm(d int) int { return (d%360 + 360) % 360 }

// Sin returns the sine of a direction, in parts of ten thousand.
func Sin(d int) int {
	d = Norm(d)
	sign := 1
	switch {
	case d > 180:
		sign, d = -1, d-180
		fallthrough
	case d > 90:
		// What falls through may lie on either side of 90.
		d = min(d, 180-d)
	}
	return sign * sines[d]
}

// Cos returns the cosine of a direction, in parts of ten thousand.
func Cos(d int) int { return Sin(Norm(d) + 90) }

// Root returns the greatest number whose square is at most n.
func Root(n int) int {
	r := 0
	for bit := 1 << 31; bit > 0; bit >>= 1 {
		// The quotient is compared, as the square may be too large for an int.
		if t := r + bit; t <= n/t {
			r = t
		}
	}
	return r
}

// RootUp returns the least number from 0 on whose square is at least n.
func RootUp(n int) int {
	r := Root(n)
	if r*r < n {
		r++
	}
	return r
}

// floor returns the greatest integer that is at most a / b, for b greater than 0.
func floor(a, b int) int {
	q := a / b
	if a%b < 0 {
		q--
	}
	return q
}

// ceil returns the least integer that is at least a / b, for b greater than 0.
func ceil(a, b int) int { return -floor(-a, b) }
