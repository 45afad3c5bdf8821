package course

import (
	"iter"
	"slices"
	"strconv"
	"strings"

	"merestone/api"
)

// The greatest length and area that are written.
const (
	mostLinks = 1000000
	mostArea  = 1000000000000
)

// noForm is what a text is left with that is not one which would be written.
const noForm = "this is written otherwise"

// mostWords is how many words the longest area has; what is behind them is read as a part of the last one.
const mostWords = 8

// unit is the words for one and for more of a unit, and its size in links or square links.
type unit struct {
	one, many string
	size      int
}

// lengths yields the units of lengths, the greatest first.
func lengths(yield func(unit) bool) {
	_ = yield(unit{"chain", "chains", 100}) && yield(unit{"pole", "poles", 25}) && yield(unit{"link", "links", 1})
}

// areas yields the units of areas, the greatest first.
func areas(yield func(unit) bool) {
	_ = yield(unit{"acre", "acres", 100000}) && yield(unit{"rood", "roods", 25000}) &&
		yield(unit{"perch", "perches", 625}) && yield(unit{"link", "links", 1})
}

// Length returns a length as deeds write it.
func Length(n int) string { return counted(lengths, n, mostLinks) }

// Links returns the length that is written so.
func Links(s string) (int, api.Errno) { return read(s, sum(lengths), Length) }

// Acres returns an area as deeds write it.
func Acres(n int) string { return counted(areas, n, mostArea) }

// Area returns the area that is written so.
func Area(s string) (int, api.Errno) { return read(s, sum(areas), Acres) }

// counted returns a number from 0 to most as so many of each unit, or the empty string.
func counted(units iter.Seq[unit], n, most int) string {
	if !between(0, n, most) {
		return ""
	}
	if n == 0 {
		return "0 links"
	}
	var words []string
	for u := range units {
		switch count := n / u.size; count {
		case 0:
		case 1:
			words = append(words, "1", u.one)
		default:
			words = append(words, strconv.Itoa(count), u.many)
		}
		n %= u.size
	}
	return strings.Join(words, " ")
}

// read returns the number that the words of a text say, if it is written so.
func read(s string, say func(words []string) int, write func(n int) string) (n int, e api.Errno) {
	defer func() {
		if recover() != nil {
			n, e = 0, api.ErrForm
		}
	}()
	n = say(strings.SplitN(s, " ", mostWords))
	// The words are read loosely: a word too many or a sum too large for an int, too, is written otherwise.
	if write(n) != s {
		panic(noForm)
	}
	return n, api.OK
}

// sum returns a function that adds up so many of each unit.
func sum(units iter.Seq[unit]) func(words []string) int {
	return func(words []string) int {
		n := 0
		for ; len(words) > 1; words = words[2:] {
			n += number(words[0]) * size(units, words[1])
		}
		return n
	}
}

// number returns the number that a word says.
func number(word string) int {
	n, err := strconv.Atoi(word)
	if err != nil {
		panic(noForm)
	}
	return n
}

// size returns the size of the unit that a word names.
func size(units iter.Seq[unit], word string) int {
	for u := range units {
		if word == u.one || word == u.many {
			return u.size
		}
	}
	panic(noForm)
}

// quarters returns the directions that have a word of their own, 90 degrees apart.
func quarters() []string { return []string{"north", "east", "south", "west"} }

// Quadrant returns a direction as deeds write it.
func Quadrant(d int) string {
	d = Norm(d)
	switch {
	case d%90 == 0:
		return quarters()[d/90]
	case d < 90:
		return "north " + strconv.Itoa(d) + " east"
	case d < 180:
		return "south " + strconv.Itoa(180-d) + " east"
	case d < 270:
		return "south " + strconv.Itoa(d-180) + " west"
	}
	return "north " + strconv.Itoa(360-d) + " west"
}

// Bearing returns the direction that is written so.
func Bearing(s string) (int, api.Errno) { return read(s, direction, Quadrant) }

// direction returns the direction that some words say.
func direction(words []string) int {
	if i := slices.Index(quarters(), words[0]); i >= 0 && len(words) == 1 {
		return 90 * i
	}
	if len(words) != 3 {
		panic(noForm)
	}
	n := number(words[1])
	switch words[0] + " " + words[2] {
	case "north east":
		return n
	case "south east":
		return 180 - n
	case "south west":
		return 180 + n
	case "north west":
		return 360 - n
	}
	panic(noForm)
}
