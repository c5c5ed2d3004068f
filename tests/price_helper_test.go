package tests

import (
	"slices"

	"loop.example/transitfares/impl"
)

// trip is journeys with a tariff that has their stops.
type trip struct {
	tariff impl.Tariff
	list   []impl.Journey
}

// line returns a tariff of ten stops, two in each zone, without peaks, in which each zone further costs 10 more.
func line() impl.Tariff {
	t := impl.Tariff{Prices: square(5, 0), Zones: []int{0, 1, 2, 3, 4, 4, 3, 2, 1, 0}, Top: 900}
	for from, row := range t.Prices {
		for to := range row {
			row[to] = 100 + 10*max(from-to, to-from)
		}
	}
	return t
}

// atStops returns journeys at the stops that a tariff has.
func atStops(t impl.Tariff, list []impl.Journey) []impl.Journey {
	own := slices.Clone(list)
	for i := range own {
		own[i].From %= len(t.Zones)
		own[i].To %= len(t.Zones)
	}
	return own
}

// drawnRides returns journeys that are Full, most of them, with gaps of up to twice MaxWindow between them.
func drawnRides(n *numbers, count int) []impl.Journey {
	list := make([]impl.Journey, count)
	now := n.below(30000)
	for i := range list {
		minutes := n.below(60)
		list[i] = full(n.below(impl.MaxStops), n.below(impl.MaxStops), now, now+minutes)
		if n.below(8) == 0 {
			list[i] = half(list[i].From, now)
		}
		now = list[i].End + n.below([]int{3, 40, 2 * impl.MaxWindow}[n.below(3)])
	}
	return list
}

// joinedRides returns journeys that are Full, each of which begins at most a window behind the one before it.
func joinedRides(n *numbers, count int, window int) []impl.Journey {
	list := make([]impl.Journey, count)
	now := n.below(30000)
	for i := range list {
		minutes := n.below(60)
		list[i] = full(n.below(impl.MaxStops), n.below(impl.MaxStops), now, now+minutes)
		now += minutes + []int{0, n.below(window + 1), window}[n.below(3)]
	}
	return list
}

// trips returns journeys by hand and drawn ones, each with one of all tariffs.
func trips() []trip {
	known := tariffs()
	lists := journeyLists()
	n := &numbers{state: 27}
	for i := range 300 {
		lists = append(lists, drawnRides(n, i%(impl.MaxTaps+1)))
	}
	var list []trip
	for i, journeys := range lists {
		for _, t := range []impl.Tariff{line(), known[i%len(known)]} {
			list = append(list, trip{t, atStops(t, journeys)})
		}
	}
	return list
}

// fareBy returns the fare of a journey by the numbers of a tariff.
func fareBy(t impl.Tariff, j impl.Journey) int {
	price := t.Prices[t.Zones[j.From]][t.Zones[j.To]]
	for _, b := range t.Peaks {
		if (j.Begin+1200)/1440%7 < 5 && b.From <= j.Begin%1440 && j.Begin%1440 < b.To {
			return price + price*t.Extra/100
		}
	}
	return price
}

// pricesBy returns the prices of valid journeys.
func pricesBy(x trip) []int {
	prices := make([]int, len(x.list))
	for i, j := range x.list {
		prices[i] = x.tariff.Top
		if j.Full {
			prices[i] = fareBy(x.tariff, j)
		}
	}
	return prices
}

// joined reports whether a journey belongs to the one in front of it.
func joined(list []impl.Journey, i int, window int) bool {
	return i > 0 && list[i-1].Full && list[i].Full && list[i].Begin <= list[i-1].End+window
}

// linkedBy returns what is paid for valid journeys, by looking back from each one as far as journeys belong together.
func linkedBy(x trip, window int) []int {
	prices := pricesBy(x)
	paid := make([]int, len(prices))
	for i := range prices {
		paid[i] = prices[i]
		for first := i; joined(x.list, first, window); first-- {
			paid[i] = max(0, min(paid[i], prices[i]-prices[first-1]))
		}
	}
	return paid
}

// transfersBy returns how many journeys belong to the one in front of them.
func transfersBy(list []impl.Journey, window int) int {
	count := 0
	for i := range list {
		if joined(list, i, window) {
			count++
		}
	}
	return count
}

// sum returns the sum of numbers.
func sum(list []int) int {
	total := 0
	for _, n := range list {
		total += n
	}
	return total
}
