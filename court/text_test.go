package court_test

import (
	"math/rand/v2"
	"strconv"
	"strings"
	"testing"

	"merestone/api"
	"merestone/court"
	"merestone/expect"
)

// lines returns right steps by their lines.
func lines() map[string]api.Step {
	l := map[string]api.Step{
		"9 40 withdraw 3": of(api.StepWithdraw, 40, 3), "9 40 notice 3": of(api.StepNotice, 40, 3), "9 40 object 3": of(api.StepObject, 40, 3), "9 40 view 3": of(api.StepView, 40, 3),
		"9 40 appeal 3": of(api.StepAppeal, 40, 3), "9 0 appeal 8": of(api.StepAppeal, 0, 8), "9 100000 appeal 1": of(api.StepAppeal, 100000, 1),
		"9 40 rule 3 open": rule(40, 3, api.AwardOpen), "9 40 rule 3 north": rule(40, 3, api.AwardNorth), "9 40 rule 3 south": rule(40, 3, api.AwardSouth),
		"9 40 rule 3 open 5": rule(40, 3, api.AwardOpen, 5), "9 40 rule 3 north 1 2 8": rule(40, 3, api.AwardNorth, 1, 2, 8), "9 40 rule 8 south 1": rule(40, 8, api.AwardSouth, 1),
		"9 40 aside 2": aside(40, 2), "9 40 aside 2 2": aside(40, 2, 2), "9 40 aside 2 1 3 5 7": aside(40, 2, 1, 3, 5, 7), "9 40 claim croft dyke oak 265 300": claim(40, 265, 300),
		"9 40 claim mead hill elm 0 100000":             {Day: 40, Kind: api.StepClaim, Party: 1, Strip: api.Strip{Limit: 2, Station: 2, To: 100000}},
		"9 40 claim mead burn ash 99999 100000":         {Day: 40, Kind: api.StepClaim, Party: 1, Strip: api.Strip{Limit: 1, From: 99999, To: 100000}},
		"9 40 record smith 1800 1 stone dyke ash 200 3": record(40, "stone dyke ash 200 3"), "9 40 record smith 1 1000 width dyke hill elm 0 0": ranked(40, 1, 1000, "width dyke hill elm 0 0"),
		"9 40 record smith 3000 0 along dyke burn ash elm": ranked(40, 3000, 0, "along dyke burn ash elm"), "9 40 record smith 1800 1 level dyke elm ash -5 0": record(40, "level dyke elm ash -5 0"),
		"9 40 record smith 1750 1 course dyke ash oak 10 chains by east give 2 wear -5 slack 100": ranked(40, 1750, 1, "course dyke ash oak 10 chains by east give 2 wear -5 slack 100"),
	}
	for line, x := range l {
		recorded(&x, 9, x.Day)
		l[line] = x
	}
	return l
}

// H13: the line of each kind, written and read.
func TestLines(t *testing.T) {
	f := wide()
	for line, x := range lines() {
		got, e := court.Write(f, x)
		expect.Errno(t, "Write", e, api.OK)
		expect.Equal(t, "Write", got, line)
		y, e := court.Read(f, line)
		expect.Errno(t, "Read of "+line, e, api.OK)
		expect.Equal(t, "Read of "+line, isSame(x, y), true)
	}
	long := "400 100000 aside 399"
	for id := 1; id < 400; id++ {
		long += " " + strconv.Itoa(id)
	}
	x, e := court.Read(f, long)
	expect.Errno(t, "Read of a long line", e, api.OK)
	expect.Equal(t, "the proof of a long line", len(x.Proof), 399)
}

// H13: a course is read for the year of its record, as package deed writes it.
func TestLinesOfCourses(t *testing.T) {
	x := ranked(40, 1750, 1, "course dyke ash oak 10 chains by east give 2 wear -5 slack 100")
	recorded(&x, 1, 40)
	line, e := court.Write(wide(), x)
	expect.Errno(t, "Write", e, api.OK)
	expect.Equal(t, "Write", line, "1 40 record smith 1750 1 course dyke ash oak 10 chains by east give 2 wear -5 slack 100")
	y, e := court.Read(wide(), line)
	expect.Errno(t, "Read", e, api.OK)
	expect.Equal(t, "Read", isSame(x, y), true)
	for _, wrong := range []string{
		"1 40 record smith 1699 1 course dyke ash oak 10 chains by east give 2 wear -5 slack 100", // no declination
		"1 40 record smith 1750 1 course dyke ash oak 1 chain by east give 2 wear -5 slack 100",   // nothing fits
		"1 40 record smith 1750 1 course dyke ash oak 40 poles by east give 2 wear -5 slack 100",  // as nobody writes it
		"1 40 record smith 1750 1 course dyke ash oak 10 chains by east give 2 wear -5 slack",
	} {
		refuse(t, wrong)
	}
}

// refuse fails unless Read refuses a line.
func refuse(t *testing.T, line string) {
	t.Helper()
	x, e := court.Read(wide(), line)
	if e != api.ErrForm || !isSame(x, api.Step{}) {
		t.Errorf("Read of %q: %v, error %d", line, x, e)
	}
}

// H13: lines that are not exactly those of a step.
func TestWrongLines(t *testing.T) {
	for line := range lines() {
		words := strings.Split(line, " ")
		for i, word := range words {
			with := func(w ...string) string {
				l := append(append(append([]string{}, words[:i]...), w...), words[i+1:]...)
				return strings.Join(l, " ")
			}
			for _, w := range [][]string{{"0" + word}, {"+" + word}, {"", word}, {word + "\n"}, {"\n" + word}, {word + "\t"}, {strings.ToUpper(word) + "x"}, {""}, {"-"}, {"0x1"}, {"1e1"}, {"x", word}} {
				refuse(t, with(w...))
			}
			if _, err := strconv.Atoi(word); err == nil {
				for _, w := range []string{word + ".0", word + "_0", word + "000000", "100001", "9223372036854775807", "9223372036854775808", "-" + word, "0" + word, "1" + strings.Repeat("0", 40)} {
					refuse(t, with(w))
				}
			}
			if i < 3 {
				refuse(t, strings.Join(words[:i+1], " "))
				refuse(t, with())
				refuse(t, with("-1"))
			}
		}
		for _, wrong := range []string{line + " ", " " + line, line + "\n", line + " x", line + "\r", line + " #", line + "# a comment", line + " 9", line + " 0", strings.Replace(line, " ", "  ", 1), line + "\x00", line + " 1 1"} {
			refuse(t, wrong)
		}
	}
	for _, line := range []string{
		"", " ", "\n", "9", "9 40", "9 40 ", "9 40 foo 3", "9 40 Withdraw 3", "9 40 withdraw", "9 40 withdraw 9", "9 40 withdraw 10", "9 40 withdraw 0", "9 40 withdraw 3 4", "401 40 withdraw 3", "0 40 withdraw 0",
		"9 40 rule 3", "9 40 rule 3 west", "9 40 rule 3 1", "9 40 rule open", "9 40 rule 3 open north", "9 40 rule 3 north 2 1", "9 40 rule 3 north 1 1", "9 40 rule 3 north 9", "9 40 rule 3 north 0", "9 40 rule 3 north 1 x",
		"9 40 aside", "9 40 aside 2 2 1", "9 40 aside 2 9", "9 40 claim croft dyke oak 265", "9 40 claim croft dyke oak 300 265", "9 40 claim croft dyke oak 265 265", "9 40 claim croft dyke oak 265 300 5",
		"9 40 claim nobody dyke oak 265 300", "9 40 claim croft wall oak 265 300", "9 40 claim croft dyke birch 265 300", "9 40 claim croft oak dyke 265 300", "9 40 claim 0 0 1 265 300", "9 40 claim croft dyke oak -1 300",
		"9 40 record smith 1800 1", "9 40 record smith 1800 1 ", "9 40 record smith 0 1 stone dyke ash 200 3", "9 40 record smith 3001 1 stone dyke ash 200 3", "9 40 record smith 1800 1001 stone dyke ash 200 3",
		"9 40 record Smith 1800 1 stone dyke ash 200 3", "9 40 record  1800 1 stone dyke ash 200 3", "9 40 record smith 1800 1 stone dyke birch 200 3", "9 40 record smith 1800 1 stone dyke ash 200",
		"9 40 record smith 1800 1 stone dyke ash  200 3", "9 40 record smith 1800 1 stone dyke ash 200 3 # old", "9 40 record smith 1800 1 deed smith 1800 1", "9 40 record smith 1800 1 level dyke elm ash -0 0",
		"40 9 claim", "withdraw 9 40 3", "9 40  3", "9 40 record", "9 40 claim", "9 40 open 3",
	} {
		refuse(t, line)
	}
}

// H13: the errors of the field, and of CheckStep.
func TestTextErrors(t *testing.T) {
	for want, f := range faults() {
		for line, x := range lines() {
			got, e := court.Write(f, x)
			expect.Errno(t, "Write", e, want)
			expect.Equal(t, "Write", got, "")
			y, e := court.Read(f, line)
			expect.Errno(t, "Read", e, want)
			expect.Equal(t, "Read", isSame(y, api.Step{}), true)
		}
		_, e := court.Read(f, "no line")
		expect.Errno(t, "Read", e, want)
		_, e = court.Write(f, api.Step{})
		expect.Errno(t, "Write", e, want)
	}
	for _, x := range rightSteps() {
		for _, c := range changes() {
			y := clone([]api.Step{x})[0]
			c.do(&y)
			got, e := court.Write(wide(), y)
			expect.Errno(t, "Write", e, court.CheckStep(wide(), y))
			expect.Equal(t, "Write", got != "", e == api.OK)
		}
	}
}

// P8.7: Read inverts Write.
func TestReadInvertsWrite(t *testing.T) {
	read := 0
	eachDocket(t, 40, 20, func(r *rand.Rand, f api.Field, l []api.Step) {
		for range 20 {
			x := anyStep(r, f, l)
			line, e := court.Write(f, x)
			expect.Errno(t, "Write", e, api.OK)
			y, e := court.Read(f, line)
			expect.Errno(t, "Read of "+line, e, api.OK)
			expect.Equal(t, "Read of "+line, isSame(x, y), true)
			read++
		}
	})
	expect.Equal(t, "lines that are read", read, 800)
}

// P8.7: Write inverts Read, whatever is read.
func TestWriteInvertsRead(t *testing.T) {
	r := rand.New(rand.NewPCG(6, 8))
	var all []string
	for line := range lines() {
		all = append(all, line)
	}
	words := strings.Split(strings.Join(all, " "), " ")
	right := 0
	for range 10000 {
		l := strings.Split(all[r.IntN(len(all))], " ")
		for range 1 + r.IntN(2) {
			l[r.IntN(len(l))] = words[r.IntN(len(words))]
		}
		line := strings.Join(l[:len(l)-r.IntN(2)*r.IntN(2)], " ")
		x, e := court.Read(wide(), line)
		if e != api.OK {
			refuse(t, line)
			continue
		}
		right++
		got, e := court.Write(wide(), x)
		expect.Errno(t, "Write", e, api.OK)
		expect.Equal(t, "Write", got, line)
	}
	if right < 300 {
		t.Errorf("%d lines are right", right)
	}
}
