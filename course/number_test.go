package course_test

import (
	"math"
	"math/big"
	"math/rand/v2"
	"testing"

	"merestone/course"
	"merestone/expect"
)

// B1: directions are brought into a circle from both sides.
func TestNorm(t *testing.T) {
	for _, x := range [][2]int{
		{0, 0}, {359, 359}, {360, 0}, {361, 1}, {719, 359}, {720, 0}, {-1, 359}, {-30, 330}, {-360, 0}, {-361, 359}, {-720, 0},
		{math.MaxInt, math.MaxInt % 360}, {math.MinInt, 360 + math.MinInt%360},
	} {
		expect.Equal(t, "Norm", course.Norm(x[0]), x[1])
	}
	for d := -2000; d <= 2000; d++ {
		n := course.Norm(d)
		if n < 0 || n > 359 || (d-n)%360 != 0 {
			t.Fatalf("Norm(%d) = %d", d, n)
		}
	}
}

// B1: the table is that of the sines, and is continued as the chapter says.
func TestSines(t *testing.T) {
	for d := -1000; d <= 1000; d++ {
		expect.Equal(t, "Sin", course.Sin(d), sine(d))
		expect.Equal(t, "Cos", course.Cos(d), cosine(d))
	}
	for _, x := range [][2]int{{0, 0}, {1, 175}, {30, 5000}, {90, 10000}, {91, 9998}, {150, 5000}, {179, 175}, {180, 0}, {181, -175}, {210, -5000}, {270, -10000}, {271, -9998}, {359, -175}, {360, 0}, {390, 5000}, {-30, -5000}} {
		expect.Equal(t, "Sin", course.Sin(x[0]), x[1])
	}
}

// B1: there is no direction too far round.
func TestSinesFar(t *testing.T) {
	for _, d := range []int{math.MaxInt, math.MaxInt - 89, math.MaxInt - 90, math.MaxInt - 91, math.MinInt, math.MinInt + 1} {
		near := new(big.Int).Mod(big.NewInt(int64(d)), big.NewInt(360)).Int64()
		expect.Equal(t, "Sin", course.Sin(d), sine(int(near)))
		expect.Equal(t, "Cos", course.Cos(d), cosine(int(near)))
	}
}

// P2.7.
func TestSineIdentities(t *testing.T) {
	for d := -800; d <= 800; d++ {
		expect.Equal(t, "Sin(-d)", course.Sin(-d), -course.Sin(d))
		expect.Equal(t, "Cos(-d)", course.Cos(-d), course.Cos(d))
		expect.Equal(t, "Sin(90 - d)", course.Sin(90-d), course.Cos(d))
	}
}

// B2, P2.5: roots of what is no square, and of squares with their neighbours.
func TestRoots(t *testing.T) {
	for _, x := range [][3]int{
		{0, 0, 0}, {1, 1, 1}, {2, 1, 2}, {3, 1, 2}, {4, 2, 2}, {24, 4, 5}, {25, 5, 5}, {26, 5, 6},
		{-1, 0, 0}, {-25, 0, 0}, {math.MinInt, 0, 0}, {math.MinInt + 1, 0, 0},
		{math.MaxInt, 3037000499, 3037000500}, {3037000499 * 3037000499, 3037000499, 3037000499},
		{3037000499*3037000499 + 1, 3037000499, 3037000500}, {3037000499*3037000499 - 1, 3037000498, 3037000499},
	} {
		expect.Equal(t, "Root", course.Root(x[0]), x[1])
		expect.Equal(t, "RootUp", course.RootUp(x[0]), x[2])
	}
	root := 0
	for n := range 20000 {
		if (root+1)*(root+1) == n {
			root++
		}
		expect.Equal(t, "Root", course.Root(n), root)
		up := root
		if root*root < n {
			up++
		}
		expect.Equal(t, "RootUp", course.RootUp(n), up)
	}
}

// P2.5 for numbers of all sizes.
func TestRootsOfSquares(t *testing.T) {
	r := rand.New(rand.NewPCG(1, 2))
	for range 20000 {
		k := 2 + int(r.Uint64()>>(33+r.IntN(30)))
		k = min(k, 3037000499)
		expect.Equal(t, "Root of a square", course.Root(k*k), k)
		expect.Equal(t, "RootUp of a square", course.RootUp(k*k), k)
		expect.Equal(t, "Root of one less", course.Root(k*k-1), k-1)
		expect.Equal(t, "RootUp of one less", course.RootUp(k*k-1), k)
		expect.Equal(t, "Root of one more", course.Root(k*k+1), k)
		expect.Equal(t, "RootUp of one more", course.RootUp(k*k+1), k+1)
	}
}
