package clerk_test

import (
	"fmt"
	"iter"
	"math/rand/v2"
	"regexp"
	"slices"
	"strconv"
	"strings"

	"shellac/api"
	"shellac/coins"
	"shellac/takings"
	"shellac/tray"
)

// This file is a second clerk, who writes down only the lines that were done, and counts the bar anew from the first one for each line; coins are turned cent by cent. The tests compare the package with it.

// wheelW and trayT are the wheel and the tray of the examples of the chapters of coins and tray.
func wheelW() api.Wheel {
	return api.Wheel{Round: 50, Notches: []int{10, 20, 25}, Coins: []int{5, 10, 25}}
}

func trayT() api.Tray {
	return api.Tray{
		Records: []api.TrayRecord{{Front: 100, Back: 90}, {Front: 120, Back: 80}, {Front: 60, Back: 70}},
		At:      0, Way: 1, Step: 5,
		Presses: []api.TrayPress{{Side: 3, Time: 0}, {Side: 4, Time: 10}, {Side: 0, Time: 12}, {Side: 3, Time: 50}, {Side: 0, Time: 300}},
	}
}

// emptied returns an empty box with a wheel.
func emptied(w api.Wheel) api.Box {
	none := func() []int { return make([]int, len(w.Coins)) }
	return api.Box{Wheel: w, Found: none(), Marked: none(), Slugs: none()}
}

// unpressed returns a tray without its presses.
func unpressed(t api.Tray) api.Tray {
	t.Presses = nil
	return t
}

// barB is the bar of the chapter's examples.
func barB() api.Bar {
	return api.Bar{Box: emptied(wheelW()), Tray: unpressed(trayT())}
}

// copied returns a bar that shares no memory with another one.
func copied(b api.Bar) api.Bar {
	for _, l := range []*[]int{&b.Box.Wheel.Notches, &b.Box.Wheel.Coins, &b.Box.Found, &b.Box.Marked, &b.Box.Slugs} {
		*l = slices.Clone(*l)
	}
	b.Tray.Records, b.Tray.Presses = slices.Clone(b.Tray.Records), slices.Clone(b.Tray.Presses)
	return b
}

// with returns a bar with something changed.
func with(b api.Bar, change func(b *api.Bar)) api.Bar {
	b = copied(b)
	change(&b)
	return b
}

// same returns whether two bars are the same; nil and empty lists are.
func same(a, b api.Bar) bool { return fmt.Sprint(a) == fmt.Sprint(b) }

// asLine is what lines look like.
var asLine = regexp.MustCompile(`\A([a-z]+)((?: (?:0|-?[1-9][0-9]{0,8}))*)\z`)

// asNumbers is what answers of numbers look like.
var asNumbers = regexp.MustCompile(`\A(?:0|-?[1-9][0-9]*)(?: (?:0|-?[1-9][0-9]*))*\z`)

// counts is how many numbers stand behind each word.
var counts = map[string]int{
	"coin": 1, "mark": 1, "slug": 1, "press": 2, "lose": 1, "skips": 1, "empty": 0,
	"stand": 0, "gives": 1, "cheapest": 1, "wait": 1, "longest": 0, "end": 0, "at": 1, "latest": 2, "soonest": 0,
	"cash": 0, "can": 0, "missing": 0, "which": 0, "skipped": 0, "short": 0,
}

// changes returns whether a word changes the bar.
func changes(word string) bool {
	return slices.Contains([]string{"coin", "mark", "slug", "press", "lose", "skips", "empty"}, word)
}

// parts returns the word of a line and the numbers behind it; no word if it is no line.
func parts(line string) (word string, numbers []int) {
	m := asLine.FindStringSubmatch(line)
	if m == nil {
		return "", nil
	}
	for _, text := range strings.Fields(m[2]) {
		n, _ := strconv.Atoi(text)
		numbers = append(numbers, n)
	}
	if count, ok := counts[m[1]]; !ok || count != len(numbers) {
		return "", nil
	}
	return m[1], numbers
}

// ledger is the second clerk.
type ledger struct {
	first api.Bar
	done  []string
}

// runBy returns what the second clerk answers, and the bar then.
func runBy(b api.Bar, script []string) (answers []string, after api.Bar) {
	l := ledger{first: b}
	for _, line := range script {
		answers = append(answers, l.answer(line))
	}
	after, _ = l.counted()
	return answers, after
}

// answer returns the answer to a line, and writes it down if it is done.
func (l *ledger) answer(line string) string {
	word, numbers := parts(line)
	switch {
	case word == "":
		return "what"
	case !changes(word):
		b, _ := l.counted()
		return asked(b, word, numbers)
	}
	l.done = append(l.done, line)
	if _, ok := l.counted(); !ok {
		l.done = l.done[:len(l.done)-1]
		return "no"
	}
	return "yes"
}

// counted returns the bar behind all lines that are written down, and whether the last one of them can be done.
func (l *ledger) counted() (b api.Bar, ok bool) {
	b, ok = copied(l.first), true
	for _, line := range l.done {
		word, n := parts(line)
		ok = deed(&b, word, n) && holds(b)
	}
	return b, ok
}

// holds returns whether nothing in a bar is too much or too little for lines that change it.
func holds(b api.Bar) bool {
	all := 0
	for kind := range b.Box.Found {
		if b.Box.Marked[kind] > b.Box.Found[kind] || b.Box.Found[kind] < 0 {
			return false
		}
		all += b.Box.Found[kind] + b.Box.Slugs[kind]
	}
	for _, p := range b.Tray.Presses {
		if p.Side < 0 || p.Side >= 2*len(b.Tray.Records) || p.Time < 0 || p.Time > 9999 {
			return false
		}
	}
	return all <= 12 && b.Stand.Credit <= 20 && b.Box.Plays <= 9999 && b.Box.Skips >= 0 && b.Box.Skips <= 9 && len(b.Tray.Presses) <= 12
}

// deed does what a line says, and returns whether it can be done.
func deed(b *api.Bar, word string, n []int) bool {
	if len(n) == 1 && word != "skips" && (n[0] < 0 || n[0] >= len(b.Box.Wheel.Coins)) {
		return false
	}
	switch word {
	case "coin":
		b.Box.Found[n[0]]++
		turn(b, n[0])
	case "mark":
		b.Box.Found[n[0]]++
		b.Box.Marked[n[0]]++
		turn(b, n[0])
	case "slug":
		b.Box.Slugs[n[0]]++
		turn(b, n[0])
	case "lose":
		b.Box.Found[n[0]]--
	case "skips":
		b.Box.Skips = n[0]
	case "press":
		for _, p := range b.Tray.Presses {
			if p.Time > n[1] {
				return false
			}
		}
		if b.Stand.Credit == 0 {
			return false
		}
		b.Stand = api.Stand{Place: 0, Credit: b.Stand.Credit - 1}
		b.Tray.Presses = append(b.Tray.Presses, api.TrayPress{Side: n[0], Time: n[1]})
	case "empty":
		if b.Stand.Place > 0 || b.Stand.Credit > 0 {
			return false
		}
		skips := b.Box.Skips
		b.Box = emptied(b.Box.Wheel)
		b.Box.Skips = skips
	}
	return true
}

// turn turns a wheel by a coin of a kind, cent by cent; the register counts the plays.
func turn(b *api.Bar, kind int) {
	for range b.Box.Wheel.Coins[kind] {
		b.Stand.Place++
		if slices.Contains(b.Box.Wheel.Notches, b.Stand.Place) {
			b.Stand.Credit++
			b.Box.Plays++
		}
		if b.Stand.Place == b.Box.Wheel.Round {
			b.Stand.Place = 0
		}
	}
}

// asked returns what the functions of the lower layers say of a bar.
func asked(b api.Bar, word string, n []int) string {
	var l []int
	x, e := 0, api.OK
	switch word {
	case "stand":
		return fmt.Sprint(b.Stand.Place, b.Stand.Credit)
	case "cash":
		house, slugs := 0, 0
		x, house, slugs, e = takings.Cash(b.Box)
		l = []int{x, house, slugs}
	case "can":
		l, e = takings.Can(b.Box)
	case "which":
		l, e = takings.Which(b.Box)
	case "at":
		s, f := tray.Stand(b.Tray, n[0])
		l, e = []int{s.At, s.Way, s.Side}, f
	default:
		x, e = askedForOne(b, word, n)
		l = []int{x}
	}
	switch {
	case e != api.OK && e != api.ErrNone:
		return "no"
	case e == api.ErrNone || len(l) == 0:
		return "none"
	}
	return strings.Trim(fmt.Sprint(l), "[]")
}

// askedForOne returns what the functions that return a number say of a bar.
func askedForOne(b api.Bar, word string, n []int) (int, api.Errno) {
	switch word {
	case "gives":
		return coins.Plays(b.Box.Wheel, b.Stand.Place, []int{n[0]})
	case "cheapest":
		return coins.Cheapest(b.Box.Wheel, n[0])
	case "wait":
		return tray.Wait(b.Tray, n[0])
	case "longest":
		return tray.Longest(b.Tray)
	case "end":
		return tray.End(b.Tray)
	case "latest":
		return tray.Latest(b.Tray, n[0], n[1])
	case "soonest":
		return tray.Soonest(b.Tray)
	case "missing":
		return takings.Missing(b.Box)
	case "skipped":
		return takings.Skipped(b.Box)
	case "short":
		return takings.Short(b.Box)
	}
	panic(word)
}

// condition is what drawn bars are like.
type condition int

const (
	// fresh are bars with an empty box, whose stand is the beginning; some trays have presses.
	fresh condition = iota
	// used are bars with something in the box and on the tray.
	used
	// full are bars in which soon there is no more room for something.
	full
)

// drawer draws bars and lines.
type drawer struct {
	*rand.Rand
	condition
}

// drawn are so many bars, the same ones in each run.
func drawn(count int, c condition) iter.Seq2[api.Bar, drawer] {
	return func(yield func(api.Bar, drawer) bool) {
		draw := drawer{rand.New(rand.NewPCG(12, uint64(c))), c}
		for range count {
			if !yield(draw.bar(), draw) {
				return
			}
		}
	}
}

// bar draws a bar.
func (d drawer) bar() api.Bar {
	w := d.wheel()
	b := api.Bar{Box: emptied(w), Tray: d.tray()}
	if d.condition == fresh {
		return b
	}
	b.Stand = api.Stand{Place: d.IntN(w.Round), Credit: d.IntN(4)}
	b.Box.Plays, b.Box.Skips = d.IntN(12), d.IntN(3)
	coins := d.IntN(5)
	if d.condition == full {
		b.Stand.Credit = 20 - d.IntN(4)
		b.Box.Plays = 9999 - d.IntN(9) - d.IntN(2)*d.IntN(9990)
		coins = 8 + d.IntN(5)
	}
	for range coins {
		kind := d.IntN(len(w.Coins))
		switch d.IntN(3) {
		case 0:
			b.Box.Marked[kind]++
			b.Box.Found[kind]++
		case 1:
			b.Box.Found[kind]++
		default:
			b.Box.Slugs[kind]++
		}
	}
	return b
}

// wheel draws a wheel with at least one kind of coin.
func (d drawer) wheel() api.Wheel {
	switch d.IntN(4) {
	case 0:
		return wheelW()
	case 1:
		return api.Wheel{Round: 5, Notches: []int{2, 3}, Coins: []int{1, 2}}
	}
	w := api.Wheel{Round: 1 + d.IntN(60)}
	for n := 1; n <= w.Round && len(w.Notches) < 12; n++ {
		if d.IntN(8) == 0 {
			w.Notches = append(w.Notches, n)
		}
	}
	for cents := 1 + d.IntN(9); len(w.Coins) < 1+d.IntN(3); cents += 1 + d.IntN(20) {
		w.Coins = append(w.Coins, cents)
	}
	return w
}

// tray draws a tray; that of a full bar has many presses.
func (d drawer) tray() api.Tray {
	t := api.Tray{Way: 1 - 2*d.IntN(2), Step: d.IntN(20)}
	for range 1 + d.IntN(4) {
		t.Records = append(t.Records, api.TrayRecord{Front: 1 + d.IntN(200), Back: 1 + d.IntN(200)})
	}
	t.At = d.IntN(len(t.Records))
	presses := d.IntN(4)
	if d.condition == full {
		presses = 9 + d.IntN(4)
	}
	for range presses {
		t.Presses = append(t.Presses, api.TrayPress{Side: d.IntN(2 * len(t.Records)), Time: d.IntN(100)})
	}
	return t
}

// script draws so many lines for a bar.
func (d drawer) script(b api.Bar, lines int) []string {
	var script []string
	time := d.IntN(100)
	for range lines {
		time += d.IntN(60)
		switch d.IntN(9) {
		case 0, 1, 2:
			script = append(script, fmt.Sprint(d.word("coin", "mark", "slug"), d.about(len(b.Box.Wheel.Coins))))
		case 3, 4:
			script = append(script, fmt.Sprint("press ", d.about(2*len(b.Tray.Records)), time-d.IntN(8)/7*100))
		case 5:
			script = append(script, d.rare(b))
		case 6, 7:
			script = append(script, d.question(b))
		case 8:
			script = append(script, d.noLine())
		}
	}
	return script
}

// word draws a word, with a blank behind it.
func (d drawer) word(words ...string) string { return words[d.IntN(len(words))] + " " }

// about draws a number from 0 to n less 1, and now and then another one.
func (d drawer) about(n int) int {
	if d.IntN(12) == 0 {
		return []int{-1, n, -n, 999_999_999, -999_999_999}[d.IntN(5)]
	}
	return d.IntN(max(1, n))
}

// rare draws a line that changes a bar, but is no coin and no press.
func (d drawer) rare(b api.Bar) string {
	switch d.IntN(4) {
	case 0:
		return "empty"
	case 1:
		return fmt.Sprint("skips ", d.about(10))
	default:
		return fmt.Sprint("lose ", d.about(len(b.Box.Wheel.Coins)))
	}
}

// question draws a line that asks.
func (d drawer) question(b api.Bar) string {
	words := []string{"stand", "longest", "end", "soonest", "cash", "can", "missing", "which", "skipped", "short", "gives", "cheapest", "wait", "at", "latest"}
	word := words[d.IntN(len(words))]
	switch word {
	case "gives":
		return fmt.Sprint("gives ", d.about(len(b.Box.Wheel.Coins)))
	case "cheapest":
		return fmt.Sprint("cheapest ", d.about(22))
	case "wait":
		return fmt.Sprint("wait ", d.about(len(b.Tray.Presses)+2))
	case "at":
		return fmt.Sprint("at ", d.about(1000))
	case "latest":
		return fmt.Sprint("latest ", d.about(2*len(b.Tray.Records)), d.about(1000))
	}
	return word
}

// noLine draws a text that is no line.
func (d drawer) noLine() string {
	return noLines()[d.IntN(len(noLines()))]
}
