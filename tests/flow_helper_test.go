package tests

import (
	"math"
	"slices"

	"loop.example/transitfares/impl"
)

// farMinutes are minutes ahead of all taps and behind them; some of them would come near, if differences were taken in fewer bits.
var farMinutes = []int{
	-1, -180, -181, -100000, -1 << 32, 700 - 1<<32, -1 << 62, math.MinInt, math.MinInt + 1, math.MinInt + 180, math.MinInt + 181, math.MinInt + 700, math.MinInt + 40319,
	40500, 100000, 1 << 31, 1 << 32, 1<<32 + 700, 1 << 62, math.MaxInt, math.MaxInt - 1, math.MaxInt - 180, math.MaxInt - 181, math.MaxInt - 700, math.MaxInt - 40319,
}

// tapsAt returns a tap of card 7 at each stop, ten minutes apart.
func tapsAt(stops ...int) []impl.Tap {
	list := make([]impl.Tap, len(stops))
	for i, stop := range stops {
		list[i] = in(i, 7, 500+10*i, stop)
	}
	return list
}

// counts returns the numbers of all stops: 0, but for each two numbers, a stop and its number.
func counts(numbers ...int) []int {
	list := make([]int, 10)
	for pair := range slices.Chunk(numbers, 2) {
		list[pair[0]] = pair[1]
	}
	return list
}

// flow returns the numbers from stops to stops: 0, but for each three numbers, both stops and their number.
func flow(numbers ...int) [][]int {
	rows := square(10, 0)
	for way := range slices.Chunk(numbers, 3) {
		rows[way[0]][way[1]] = way[2]
	}
	return rows
}

// flowBy returns the numbers from stops to stops, by looking for each two stops at all journeys.
func flowBy(list []impl.Journey) [][]int {
	rows := square(10, 0)
	for from, row := range rows {
		for to := range row {
			for _, j := range list {
				if j.Full && j.From == from && j.To == to {
					row[to]++
				}
			}
		}
	}
	return rows
}

// sameFlow reports whether two flows have the same rows; no rows differ from those of a flow.
func sameFlow(a [][]int, b [][]int) bool {
	return slices.EqualFunc(a, b, slices.Equal[[]int])
}

// flows returns valid journeys: those of other chapters, and drawn ones between few stops.
func flows() [][]impl.Journey {
	lists := journeyLists()
	n := &numbers{state: 120}
	for i := range 200 {
		journeys := drawnRides(n, i%(impl.MaxTaps+1))
		few := 1 + n.below(3)
		for k := range journeys {
			journeys[k].From = impl.MaxStops - 1 - journeys[k].From%few
			journeys[k].To = impl.MaxStops - 1 - journeys[k].To%few
		}
		lists = append(lists, journeys)
	}
	return lists
}

// crowd returns valid taps of some cards or of many, in and out in any order, some of the same minute.
func crowd(n *numbers, count int) []impl.Tap {
	cards, spread, now := 1+n.below(100), []int{1, 2, 15, 100, 250, 1500}[n.below(6)], n.below(3000)
	var list []impl.Tap
	for i := range count {
		list = append(list, impl.Tap{Validator: n.below(10), Number: i, Card: n.below(cards), Minute: min(now, impl.MaxMinute), Stop: n.below(impl.MaxStops), Out: n.below(3) == 0})
		now += n.below(spread)
	}
	return sorted(list)
}

// crowds returns valid taps: those of other chapters, and drawn ones of few cards and of many.
func crowds() [][]impl.Tap {
	lists := tapLists()
	n := &numbers{state: 121}
	for i := range 250 {
		lists = append(lists, riders(n, i%(impl.MaxTaps+1)), crowd(n, i%(impl.MaxTaps+1)))
	}
	return lists
}

// minutesNear returns minutes at taps and at the ends of the rides that they may begin, those around them, and far ones.
func minutesNear(list []impl.Tap) []int {
	minutes := slices.Clone(farMinutes)
	for _, t := range list {
		for _, apart := range []int{-1, 0, 1, 90, 179, 180, 181} {
			minutes = append(minutes, t.Minute+apart)
		}
	}
	return minutes
}

// peopleBy returns how many cards are on the way, by looking at the last taps first.
func peopleBy(list []impl.Tap, minute int) int {
	var known []int
	people := 0
	for _, t := range slices.Backward(list) {
		if t.Minute > minute || slices.Contains(known, t.Card) {
			continue
		}
		known = append(known, t.Card)
		if !t.Out && minute <= t.Minute+180 {
			people++
		}
	}
	return people
}

// countsBy returns how many taps each stop has, by looking for each stop at all taps.
func countsBy(list []impl.Tap) []int {
	numbers := make([]int, 10)
	for stop := range numbers {
		numbers[stop] = len(slices.DeleteFunc(slices.Clone(list), func(t impl.Tap) bool { return t.Stop != stop }))
	}
	return numbers
}
