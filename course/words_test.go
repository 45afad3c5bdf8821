package course_test

import (
	"math"
	"math/rand/v2"
	"slices"
	"strconv"
	"strings"
	"testing"

	"merestone/api"
	"merestone/course"
	"merestone/expect"
)

// B14: lengths as deeds write them.
func TestLength(t *testing.T) {
	for n, want := range map[int]string{
		0: "0 links", 1: "1 link", 2: "2 links", 24: "24 links", 25: "1 pole", 26: "1 pole 1 link", 27: "1 pole 2 links",
		50: "2 poles", 51: "2 poles 1 link", 99: "3 poles 24 links", 100: "1 chain", 101: "1 chain 1 link", 125: "1 chain 1 pole",
		126: "1 chain 1 pole 1 link", 150: "1 chain 2 poles", 199: "1 chain 3 poles 24 links", 200: "2 chains", 341: "3 chains 1 pole 16 links",
		1000: "10 chains", 999999: "9999 chains 3 poles 24 links", 1000000: "10000 chains",
		-1: "", 1000001: "", math.MinInt: "", math.MaxInt: "",
	} {
		expect.Equal(t, "Length", course.Length(n), want)
	}
}

// B15: areas as deeds write them.
func TestAcres(t *testing.T) {
	for n, want := range map[int]string{
		0: "0 links", 1: "1 link", 2: "2 links", 624: "624 links", 625: "1 perch", 626: "1 perch 1 link", 1250: "2 perches",
		24999: "39 perches 624 links", 25000: "1 rood", 25625: "1 rood 1 perch", 50000: "2 roods", 99999: "3 roods 39 perches 624 links",
		100000: "1 acre", 100001: "1 acre 1 link", 125626: "1 acre 1 rood 1 perch 1 link", 126250: "1 acre 1 rood 2 perches", 200000: "2 acres",
		252502: "2 acres 2 roods 4 perches 2 links", 999999999999: "9999999 acres 3 roods 39 perches 624 links", 1000000000000: "10000000 acres",
		-1: "", 1000000000001: "", math.MinInt: "", math.MaxInt: "",
	} {
		expect.Equal(t, "Acres", course.Acres(n), want)
	}
}

// B16: directions as deeds write them.
func TestQuadrant(t *testing.T) {
	for d, want := range map[int]string{
		0: "north", 1: "north 1 east", 45: "north 45 east", 89: "north 89 east", 90: "east", 91: "south 89 east", 150: "south 30 east",
		179: "south 1 east", 180: "south", 181: "south 1 west", 269: "south 89 west", 270: "west", 271: "north 89 west", 359: "north 1 west",
		360: "north", 361: "north 1 east", 450: "east", -1: "north 1 west", -90: "west", -360: "north", 36150: "south 30 east",
		math.MinInt: "north 8 west", math.MaxInt: "north 7 east",
	} {
		expect.Equal(t, "Quadrant", course.Quadrant(d), want)
	}
}

// language is a way to write numbers, and what is written in it.
type language struct {
	name  string
	write func(n int) string
	read  func(s string) (int, api.Errno)
	said  map[string]int
}

// languages returns the three of them, with all directions, and with lengths and areas from 0 on and at their greatest.
func languages() []language {
	l := []language{
		{"length", course.Length, course.Links, map[string]int{}},
		{"area", course.Acres, course.Area, map[string]int{}},
		{"bearing", course.Quadrant, course.Bearing, map[string]int{}},
	}
	for n := range 120000 {
		l[0].said[course.Length(n)] = n
	}
	for _, n := range []int{999899, 999999, 1000000} {
		l[0].said[course.Length(n)] = n
	}
	for n := range 210000 {
		l[1].said[course.Acres(n)] = n
	}
	for _, n := range []int{999999999999, 1000000000000, 100000 * 100000, 123456789012} {
		l[1].said[course.Acres(n)] = n
	}
	for d := range 360 {
		l[2].said[course.Quadrant(d)] = d
	}
	return l
}

// P2.6: what is written is read again, and no two numbers are written in the same way.
func TestReadAgain(t *testing.T) {
	for i, x := range languages() {
		expect.Equal(t, x.name, len(x.said), []int{120003, 210004, 360}[i])
		for s, want := range x.said {
			if n, e := x.read(s); n != want || e != api.OK {
				t.Fatalf("%s: %q is read as %d, error %d", x.name, s, n, e)
			}
		}
	}
	r := rand.New(rand.NewPCG(8, 8))
	for range 20000 {
		want := r.IntN(1000000000001)
		n, e := course.Area(course.Acres(want))
		expect.Equal(t, "area", n, want)
		expect.Errno(t, "area", e, api.OK)
	}
}

// P2.6: what is nearly of the form is none.
func TestReadNot(t *testing.T) {
	for _, s := range []string{
		"", " ", "0", "1", "links", "0 link", "1 links", "2 link", "00 links", "01 link", "02 links", "+2 links", "-1 links", "-0 links",
		"25 links", "1 pole 25 links", "4 poles", "5 poles", "1 chain 4 poles", "100 links", "1 chain 0 links", "0 chains 1 link",
		"1 chain 0 poles 1 link", "0 poles", "0 chains", "1 link 1 pole", "1 pole 1 chain", "1 chain 1 chain", "1 link 1 link",
		"1 pole 1 pole", "1 chains", "1 poles", "2 chain", "2 pole", "10001 chains", "10000 chains 1 link", "10000 chains 1 pole",
		"1 chain  1 pole", " 1 chain", "1 chain ", "1 chain\n", "\t1 chain", "1\tchain", "1  chain", "1 Chain", "1 CHAIN", "1 chain,", "1 chain 1",
		"chain 1", "chain", "1 chain pole", "1 chain 1 pole 1 link 1", "1 chain 1 pole 1 link 1 link", "1 perch", "1 acre", "one chain",
		"1.0 chain", "1e2 links", "0x1 link", "1_0 links", "١ link", "9223372036854775807 links", "9223372036854775808 links",
		"18446744073709551617 links", "184467440737095516 chains", "92233720368547758070 chains", "-1 chains 101 links", "2 links 0 links",
		"10000 chains 0 links", "1 chain 1 pole 0 links", "1 chain\x00", "1 link links", "link link", "1 1", "1 1 link",
		strings.Repeat("1 chain ", 50) + "1 chain", strings.Repeat(" ", 5000), strings.Repeat("1 ", 5000) + "link",
		strings.Repeat("1", 5000) + " links", "1 " + strings.Repeat("link", 5000),
	} {
		refused(t, "Links", s, course.Links)
	}
	for _, s := range []string{
		"", "0 acres", "0 link", "1 links", "625 links", "40 perches", "4 roods", "1 perche", "1 perches", "2 perch", "2 perchs", "1 roods", "2 rood",
		"1 acres", "2 acre", "1 acre 0 roods 1 perch", "1 perch 1 rood", "1 rood 1 acre", "10000001 acres", "10000000 acres 1 link",
		"1 chain", "1 pole", "1 acre 1 rood 1 perch 1 link ", "1 acre 1 rood 1 perch 1 link 1", "1 acre 1 rood 1 perch 1 link 1 link",
		"1 acre  1 rood", "92233720368547 acres", "184467440737096 acres", "9223372036854775808 acres", "1 acre 4 roods", "1 rood 40 perches",
		"1 perch 625 links", "01 acre", "+2 acres", "1 Acre", "acre", "1", "-1 acres 4 roods", "1 acre 1 rood 1 perch 1 link 0 links",
	} {
		refused(t, "Area", s, course.Area)
	}
	for _, s := range []string{
		"", " ", "North", "NORTH", "north ", " north", "northeast", "north east", "north 0 east", "north 90 east", "north 91 east",
		"north 01 east", "north +1 east", "north -1 east", "south 0 west", "south 90 west", "north 1 north", "north 1 south", "east 1 north",
		"east 1 south", "west 45 north", "north  1 east", "north 1  east", "north 1 east ", "north 1 east\n", "north 1 eas", "orth 1 east", "north 1",
		"north one east", "1", "0", "north 1.5 east", "north 359 east", "north 361 east", "south 180 east", "south 181 east", "south 1 east west", "south 1 east 1 west",
		"north north", "north 45", "45 east", "north east 45", "south 270 east", "north 9223372036854775807 east", "north 9223372036854775808 east",
		"south -9223372036854775808 west", "north\t1 east", "north 1 East", "west west west", "east east", "north 1 easta", "n 1 e",
	} {
		refused(t, "Bearing", s, course.Bearing)
	}
}

// refused fails unless a text has no form.
func refused(t *testing.T, name, s string, read func(s string) (int, api.Errno)) {
	t.Helper()
	if n, e := read(s); n != 0 || e != api.ErrForm {
		t.Errorf("%s(%.60q) = %d, error %d", name, s, n, e)
	}
}

// P2.6: texts that are changed a little are read exactly if they are written so.
func TestReadChanged(t *testing.T) {
	r := rand.New(rand.NewPCG(6, 1))
	for _, x := range languages() {
		var texts []string
		for s := range x.said {
			texts = append(texts, s)
		}
		slices.Sort(texts)
		again := 0
		for range 60000 {
			s := changed(r, texts[r.IntN(len(texts))], texts[r.IntN(len(texts))])
			n, e := x.read(s)
			if e == api.OK {
				again++
				if x.write(n) != s {
					t.Fatalf("%s: %q is read as %d", x.name, s, n)
				}
			} else if want, is := x.said[s]; is || n != 0 || e != api.ErrForm {
				t.Fatalf("%s: %q, which is %d, is read as %d, error %d", x.name, s, want, n, e)
			}
		}
		if again < 100 {
			t.Errorf("%s: only %d of the changed texts were written so", x.name, again)
		}
	}
}

// changed returns a text after one of several small changes, for which it may use words of another one.
func changed(r *rand.Rand, s, other string) string {
	words, more := strings.Split(s, " "), strings.Split(other, " ")
	i, j := r.IntN(len(words)), r.IntN(len(more))
	switch r.IntN(7) {
	case 0:
		words[i] = more[j]
	case 1:
		words = slices.Insert(words, i, more[j])
	case 2:
		words = slices.Delete(words, i, i+1)
	case 3:
		words[i], words[len(words)-1-i] = words[len(words)-1-i], words[i]
	case 4:
		words[i] = strconv.Itoa(r.IntN(200) - 20)
	case 5:
		at := r.IntN(len(s) + 1)
		return s[:at] + string(" 019s\n"[r.IntN(6)]) + s[at:]
	case 6:
		at := r.IntN(len(s))
		return s[:at] + s[at+1:]
	}
	return strings.Join(words, " ")
}
