package clerk

import (
	"shellac/api"
	"shellac/coins"
	"shellac/takings"
	"shellac/tray"
)

func (b bar) stand([]int) ([]int, api.Errno) {
	return []int{b.Stand.Place, b.Stand.Credit}, api.OK
}

func (b bar) gives(numbers []int) ([]int, api.Errno) {
	return one(coins.Plays(b.Box.Wheel, b.Stand.Place, numbers))
}

func (b bar) cheapest(numbers []int) ([]int, api.Errno) {
	return one(coins.Cheapest(b.Box.Wheel, numbers[0]))
}

func (b bar) wait(numbers []int) ([]int, api.Errno) {
	return one(tray.Wait(b.Tray, numbers[0]))
}

func (b bar) at(numbers []int) ([]int, api.Errno) {
	s, e := tray.Stand(b.Tray, numbers[0])
	return []int{s.At, s.Way, s.Side}, e
}

func (b bar) latest(numbers []int) ([]int, api.Errno) {
	return one(tray.Latest(b.Tray, numbers[0], numbers[1]))
}

func (b bar) cash([]int) ([]int, api.Errno) {
	cash, house, slugs, e := takings.Cash(b.Box)
	return []int{cash, house, slugs}, e
}

// ofTray returns the question that a function about a tray answers.
func ofTray(ask func(api.Tray) (int, api.Errno)) question {
	return func(b bar, _ []int) ([]int, api.Errno) { return one(ask(b.Tray)) }
}

// ofBox returns the question that a function about a box answers.
func ofBox(ask func(api.Box) (int, api.Errno)) question {
	return func(b bar, _ []int) ([]int, api.Errno) { return one(ask(b.Box)) }
}

// listOfBox returns the question that a function about a box answers with a list.
func listOfBox(ask func(api.Box) ([]int, api.Errno)) question {
	return func(b bar, _ []int) ([]int, api.Errno) { return ask(b.Box) }
}

// one returns one number as a list.
func one(n int, e api.Errno) ([]int, api.Errno) { return []int{n}, e }
