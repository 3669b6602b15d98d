package console

import (
	"strconv"

	"writkeep/api"
	"writkeep/right"
)

// What the words of a line are; a shape has one letter for each.
const (
	number = "N"
	rights = "R"
	data   = "D"
	place  = number + number
)

// mostNumber that a word may be.
const mostNumber = 999

// noData: the word for no bytes, as an empty word couldn't be seen in a line.
const noData = "-"

// args of a line: its numbers in order, those of places among them, its rights and its data.
type args struct {
	numbers []int
	rights  int
	data    string
}

// parse words by a shape; false: they aren't of it.
func parse(shape string, words ...string) (args, bool) {
	if len(words) != len(shape) {
		return args{}, false
	}
	var a args
	for i, w := range words {
		if !a.add(shape[i:i+1], w) {
			return args{}, false
		}
	}
	return a, true
}

// add a word; false: it isn't of that kind.
func (a *args) add(kind, word string) bool {
	switch kind {
	case number:
		n, is := parseNumber(word)
		a.numbers = append(a.numbers, n)
		return is
	case rights:
		r, err := right.Parse(word)
		a.rights = r
		return err == nil
	case data:
		a.data = parseData(word)
		return word != ""
	}
	return false
}

// place whose holder is the number at an index, and its slot the next one.
func (a args) place(at int) api.Place {
	return api.Place{Holder: a.numbers[at], Slot: a.numbers[at+1]}
}

// parseNumber of a word; false: it is none.
func parseNumber(word string) (int, bool) {
	n, err := strconv.Atoi(word)
	// Held against its text: a sign, or noughts ahead, are read by Atoi too.
	if err != nil || n < 0 || n > mostNumber || strconv.Itoa(n) != word {
		return 0, false
	}
	return n, true
}

func parseData(word string) string {
	if word == noData {
		return ""
	}
	return word
}

func dataText(data string) string {
	if data == "" {
		return noData
	}
	return data
}
