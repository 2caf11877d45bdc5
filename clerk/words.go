package clerk

import (
	"strconv"
	"strings"

	"shellac/api"
	"shellac/takings"
	"shellac/tray"
)

// what clerks answer besides numbers
const (
	yes  = "yes"
	no   = "no"
	none = "none"
	what = "what"
)

const (
	// blank stands before each number of a line.
	blank = " "
	// greatest is the greatest number that can be written in a line, with nine digits.
	greatest = 999_999_999
)

// change does what a line says to a bar, and returns whether it can be done; if it cannot, or the bar is not valid then, the bar is thrown away.
type change func(b *bar, numbers []int) bool

// question returns what a line asks about a valid bar.
type question func(b bar, numbers []int) ([]int, api.Errno)

// word is how many numbers stand behind a word of a line, and the change or the question that it is.
type word struct {
	numbers int
	does    any
}

// words returns all words of lines.
func words() map[string]word {
	return map[string]word{
		"coin":  {1, change((*bar).coin)},
		"mark":  {1, change((*bar).mark)},
		"slug":  {1, change((*bar).slug)},
		"press": {2, change((*bar).press)},
		"lose":  {1, change((*bar).lose)},
		"skips": {1, change((*bar).skips)},
		"empty": {0, change((*bar).empty)},

		"stand":    {0, question(bar.stand)},
		"gives":    {1, question(bar.gives)},
		"cheapest": {1, question(bar.cheapest)},
		"wait":     {1, question(bar.wait)},
		"longest":  {0, ofTray(tray.Longest)},
		"end":      {0, ofTray(tray.End)},
		"at":       {1, question(bar.at)},
		"latest":   {2, question(bar.latest)},
		"soonest":  {0, ofTray(tray.Soonest)},
		"cash":     {0, question(bar.cash)},
		"can":      {0, listOfBox(takings.Can)},
		"missing":  {0, ofBox(takings.Missing)},
		"which":    {0, listOfBox(takings.Which)},
		"skipped":  {0, ofBox(takings.Skipped)},
		"short":    {0, ofBox(takings.Short)},
	}
}

// clerk knows all words, and keeps the bar behind the lines that were answered.
type clerk struct {
	bar   bar
	words map[string]word
}

// answer does what a line says, and returns the answer to it.
func (c *clerk) answer(line string) string {
	w, numbers := c.read(line)
	switch does := w.does.(type) {
	case change:
		return c.attempt(does, numbers)
	case question:
		return said(does(c.bar, numbers))
	default:
		return what
	}
}

// read returns the word of a line and the numbers behind it; the zero word if it is no line.
func (c *clerk) read(line string) (word, []int) {
	name, _, _ := strings.Cut(line, blank)
	w, ok := c.words[name]
	if !ok || strings.Count(line, blank) != w.numbers {
		return word{}, nil
	}
	var numbers []int
	for _, text := range strings.Split(line, blank)[1:] {
		n, ok := numberOf(text)
		if !ok {
			return word{}, nil
		}
		numbers = append(numbers, n)
	}
	return w, numbers
}

// numberOf returns the number that a text is, and whether it is one.
func numberOf(text string) (n int, ok bool) {
	n, e := strconv.Atoi(text)
	// Atoi also takes a plus sign, leading zeros, and a sign before 0
	return n, e == nil && strconv.Itoa(n) == text && -greatest <= n && n <= greatest
}

// attempt makes a change if it can be made and the bar is valid then.
func (c *clerk) attempt(does change, numbers []int) string {
	after := copied(c.bar)
	if !does(&after, numbers) || !valid(api.Bar(after)) {
		return no
	}
	c.bar = after
	return yes
}

// said returns the answer to a question to which a function returned numbers, or an error.
func said(numbers []int, e api.Errno) string {
	switch {
	case e == api.ErrNone, e == api.OK && len(numbers) == 0:
		return none
	case e != api.OK:
		return no
	}
	var texts []string
	for _, n := range numbers {
		texts = append(texts, strconv.Itoa(n))
	}
	return strings.Join(texts, blank)
}
