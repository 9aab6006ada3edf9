package bench

import (
	"strconv"
	"strings"
)

// unknown is the answer to a line that is not one of a script.
const unknown = "?"

// mostDigits is how many digits a number of a line can have.
const mostDigits = 6

// row is one of the list of lines: how many numbers stand behind its word, and what a desk does with them, and answers.
type row struct {
	count int
	act   func(d *desk, numbers []int) string
}

// rows returns all rows by their words.
func rows() map[string]row {
	return map[string]row{
		"walk":    {5, (*desk).walk},
		"clear":   {0, (*desk).clear},
		"bound":   {0, (*desk).bound},
		"strange": {0, (*desk).strange},
		"next":    {0, (*desk).next},
		"test":    {1, (*desk).test},
		"drop":    {0, (*desk).drop},
		"gains":   {0, (*desk).gains},
		"skews":   {0, (*desk).skews},
		"errs":    {1, (*desk).errs},
		"certify": {2, (*desk).certify},
		"decide":  {2, (*desk).decide},
		"field":   {3, (*desk).field},
		"measure": {3, (*desk).measure},
		"take":    {1, (*desk).take},
		"share":   {1, (*desk).share},
		"owner":   {1, (*desk).owner},
		"doubt":   {0, (*desk).doubt},
		"rods":    {1, (*desk).split},
	}
}

// answer does what a line says, and returns the answer.
func (d *desk) answer(line string) string {
	word, _, _ := strings.Cut(line, " ")
	r, is := d.rows[word]
	// Blanks are counted before the line is split, as any other line can have very many of them.
	if !is || strings.Count(line, " ") != r.count {
		return unknown
	}
	numbers, is := parsed(strings.Split(line, " ")[1:])
	if !is {
		return unknown
	}
	return r.act(d, numbers)
}

// parsed returns the numbers that words are, and whether all of them are some.
func parsed(words []string) (numbers []int, is bool) {
	for _, word := range words {
		n, is := number(word)
		if !is {
			return nil, false
		}
		numbers = append(numbers, n)
	}
	return numbers, true
}

// number returns the number that a word is, and whether it is one.
func number(word string) (n int, is bool) {
	if len(strings.TrimPrefix(word, "-")) > mostDigits {
		return 0, false
	}
	n, err := strconv.Atoi(word)
	// Atoi also takes leading zeros, +1 and -0, which are never written back.
	return n, err == nil && strconv.Itoa(n) == word
}
