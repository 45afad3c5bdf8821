package right_test

import (
	"math"
	"math/rand/v2"
	"strings"
	"testing"

	"merestone/api"
	"merestone/expect"
	"merestone/right"
)

// G2: the line of each kind.
func TestWrite(t *testing.T) {
	for line, x := range map[string]api.Deal{
		"1 0 enter 10 3 900":                                {Id: 1, Kind: api.DealEnter, Lot: 10, To: 3, Size: 900},
		"2 7 grant 10 1 3 2520":                             {Id: 2, Day: 7, Kind: api.DealGrant, Lot: 10, From: 1, To: 3, Parts: 2520},
		"3 100000 divide 10 12 400 11 500":                  {Id: 3, Day: 100000, Kind: api.DealDivide, Lot: 10, Into: []int{12, 11}, Sizes: []int{400, 500}},
		"4 8 merge 10 12 11 13":                             {Id: 4, Day: 8, Kind: api.DealMerge, Lot: 10, Into: []int{12, 11, 13}},
		"5 8 way 10 12":                                     {Id: 5, Day: 8, Kind: api.DealWay, Lot: 10, Other: 12},
		"6 8 release 10 12":                                 {Id: 6, Day: 8, Kind: api.DealRelease, Lot: 10, Other: 12},
		"7 8 stint 10 4 12":                                 {Id: 7, Day: 8, Kind: api.DealStint, Lot: 10, To: 4, Size: 12},
		"1000000 8 end 10 1000000":                          {Id: 1000000, Day: 8, Kind: api.DealEnd, Lot: 10, To: 1000000},
		"1 0 divide 5 6 10000000000 7 1 8 2 9 3":            {Id: 1, Kind: api.DealDivide, Lot: 5, Into: []int{6, 7, 8, 9}, Sizes: []int{10000000000, 1, 2, 3}},
		"1 0 merge 5 6 7 8 9 10 11 12 13 14 15":             {Id: 1, Kind: api.DealMerge, Lot: 5, Into: []int{6, 7, 8, 9, 10, 11, 12, 13, 14, 15}},
		"1 0 enter 1000000 1000000 10000000000":             {Id: 1, Kind: api.DealEnter, Lot: 1000000, To: 1000000, Size: 10000000000},
		"1 0 divide 5 6 1 7 1 8 1 9 1 1 1 2 1 3 1 4 1 10 1": {Id: 1, Kind: api.DealDivide, Lot: 5, Into: []int{6, 7, 8, 9, 1, 2, 3, 4, 10}, Sizes: []int{1, 1, 1, 1, 1, 1, 1, 1, 1}},
	} {
		got, e := right.Write(x)
		expect.Errno(t, "Write", e, api.OK)
		expect.Equal(t, "Write", got, line)
		back, e := right.Read(line)
		expect.Errno(t, "Read "+line, e, api.OK)
		expect.Equal(t, "Read "+line, isSame(back, x), true)
	}
	for _, x := range []api.Deal{{}, {Id: 1, Kind: 9, Lot: 2, To: 3}, {Id: 1, Kind: 255}, {Id: 1, Kind: api.DealEnd, Lot: 1}, {Id: math.MinInt, Kind: 1, Into: []int{1}}} {
		got, e := right.Write(x)
		expect.Errno(t, "Write of what is not well-formed", e, api.ErrArg)
		expect.Equal(t, "Write of what is not well-formed", got, "")
	}
}

// G2: lines that no well-formed deal has.
func TestReadErrors(t *testing.T) {
	for _, line := range []string{
		"", " ", "1", "1 0", "1 0 ", "1 0 enter", "1 0 enter ", "1 0 enter 10 3", "1 0 enter 10 3 900 ", " 1 0 enter 10 3 900", "1  0 enter 10 3 900", "1 0  enter 10 3 900",
		"1 0 enter 10 3 900 5", "1 0 enter 10 3 0900", "01 0 enter 10 3 900", "1 00 enter 10 3 900", "+1 0 enter 10 3 900", "1 -0 enter 10 3 900", "1 0 enter +10 3 900",
		"1 0 enter 10 3 900\n", "1 0 enter 10 3\t900", "1 0 Enter 10 3 900", "1 0 entry 10 3 900", "0 0 enter 10 3 900", "1 -1 enter 10 3 900", "1 100001 enter 10 3 900",
		"1 0 enter 0 3 900", "1 0 enter 10 1000001 900", "1 0 enter 10 3 10000000001", "1 0 enter 10 3 99999999999999999999", "1 0 enter 10 3 9e2", "1 0 enter 1_0 3 900",
		"1 0 grant 10 1 1 5", "1 0 grant 10 1 2", "1 0 grant 10 1 2 5041", "1 0 divide 10", "1 0 divide 10 11 400", "1 0 divide 10 11 400 12", "1 0 divide 10 11 400 11 500",
		"1 0 divide 10 11 400 12 0", "1 0 merge 10 11", "1 0 merge 10", "1 0 merge 10 11 11", "1 0 way 10 10", "1 0 way 10", "1 0 way 10 11 12", "1 0 release 10 10",
		"1 0 stint 10 4 1001", "1 0 stint 10 4 0", "1 0 end 10", "1 0 end 10 4 5", "1 0  10 4", "1 0 divide 1 2 3 4 5 6 7 8 9 10 11 12 13 14 15 16 17 18 19 20 21 22 23",
		"enter 1 0 10 3 900", "1 enter 0 10 3 900", "1 0 enter 10 3 900 enter", "1 0 enter\x0010 3 900", "1 0 end 10 ４", strings.Repeat("1 ", 99999),
	} {
		got, e := right.Read(line)
		expect.Errno(t, "Read "+line[:min(len(line), 99)], e, api.ErrForm)
		expect.Equal(t, "Read "+line[:min(len(line), 99)], isSame(got, api.Deal{}), true)
	}
}

// P7.8: Read inverts Write, and Write inverts Read, also of lines that are changed in one place.
func TestReadInvertsWrite(t *testing.T) {
	read := 0
	eachRegister(t, 100, func(r *rand.Rand, l []api.Deal) {
		for _, x := range l {
			line, e := right.Write(x)
			expect.Errno(t, "Write", e, api.OK)
			back, e := right.Read(line)
			expect.Errno(t, "Read", e, api.OK)
			expect.Equal(t, "Read of "+line, isSame(back, x), true)
			at := r.IntN(len(line))
			other := line[:at] + string("0123456789 +-eg"[r.IntN(15)]) + line[at+r.IntN(2):]
			y, e := right.Read(other)
			if e != api.OK {
				expect.Errno(t, "Read of "+other, e, api.ErrForm)
				continue
			}
			again, e := right.Write(y)
			expect.Errno(t, "Write", e, api.OK)
			expect.Equal(t, "Write of what was read", again, other)
			read++
		}
	})
	enough(t, "a line that is another deal", read, 50)
}
