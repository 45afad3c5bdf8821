package right

import (
	"slices"
	"strconv"
	"strings"

	"merestone/api"
)

// kinds is the words for the kinds of deals.
var kinds = [...]string{"", "enter", "grant", "divide", "merge", "way", "release", "stint", "end"}

// kindOf returns the kind of the deals with a word; 0, which no deal has, if there is none.
func kindOf(word string) uint8 {
	for kind, w := range kinds {
		if w == word {
			return uint8(kind)
		}
	}
	return 0
}

// Write returns the line of a deal.
func Write(x api.Deal) (string, api.Errno) {
	if e := CheckDeal(x); e != api.OK {
		return "", e
	}
	words := []string{strconv.Itoa(x.Id), strconv.Itoa(x.Day), kinds[x.Kind]}
	for _, n := range fields(&x) {
		if *n != 0 {
			words = append(words, strconv.Itoa(*n))
		}
	}
	for i, n := range x.Into {
		words = append(words, strconv.Itoa(n))
		if len(x.Sizes) > 0 {
			words = append(words, strconv.Itoa(x.Sizes[i]))
		}
	}
	return strings.Join(words, " "), api.OK
}

// Read returns the deal with a line.
func Read(line string) (api.Deal, api.Errno) {
	x := loosely(strings.Split(line, " "))
	if written, e := Write(x); e != api.OK || written != line {
		return api.Deal{}, api.ErrForm
	}
	return x, api.OK
}

// loosely returns the deal that words mean, if they mean one; whatever does not fit is not written again as it was.
func loosely(words []string) api.Deal {
	if len(words) < 3 {
		return api.Deal{}
	}
	x := api.Deal{Kind: kindOf(words[2])}
	var numbers []int
	for _, word := range slices.Delete(words, 2, 3) {
		n, err := strconv.Atoi(word)
		if err != nil {
			return api.Deal{}
		}
		numbers = append(numbers, n)
	}
	x.Id, x.Day = numbers[0], numbers[1]
	rest := fill(&x, numbers[2:])
	for i, n := range rest {
		if x.Kind == api.DealDivide && i%2 == 1 {
			x.Sizes = append(x.Sizes, n)
		} else {
			x.Into = append(x.Into, n)
		}
	}
	return x
}

// fill puts numbers into the fields that a deal uses, and returns what is left of them.
func fill(x *api.Deal, numbers []int) []int {
	high := most(x.Kind)
	used := fields(&high)
	for i, n := range fields(x) {
		if *used[i] > 0 && len(numbers) > 0 {
			*n, numbers = numbers[0], numbers[1:]
		}
	}
	return numbers
}
