package tests

import (
	"math"
	"slices"

	"loop.example/transitfares/impl"
)

// full returns a journey between two stops.
func full(from int, to int, begin int, end int) impl.Journey {
	return impl.Journey{From: from, To: to, Begin: begin, End: end, Full: true}
}

// half returns a journey of one tap.
func half(stop int, minute int) impl.Journey {
	return impl.Journey{From: stop, To: stop, Begin: minute, End: minute}
}

// journeysOf returns the journeys of the taps of one card, by looking from each tap at both of its neighbours.
func journeysOf(own []impl.Tap) []impl.Journey {
	rides := func(i int) bool {
		return i >= 0 && i+1 < len(own) && !own[i].Out && own[i+1].Out && own[i+1].Minute <= own[i].Minute+180
	}
	var list []impl.Journey
	for i, x := range own {
		if rides(i) {
			list = append(list, full(x.Stop, own[i+1].Stop, x.Minute, own[i+1].Minute))
		} else if !rides(i - 1) {
			list = append(list, half(x.Stop, x.Minute))
		}
	}
	return list
}

// drawnJourneys returns valid journeys, some of which touch, have no minutes or are as long as they may be.
func drawnJourneys(n *numbers, count int) []impl.Journey {
	list := make([]impl.Journey, count)
	now := n.below(2000)
	for i := range list {
		if n.below(3) == 0 {
			list[i] = half(n.below(impl.MaxStops), now)
		} else {
			minutes := []int{0, n.below(impl.MaxRide + 1), impl.MaxRide}[n.below(3)]
			list[i] = full(n.below(impl.MaxStops), n.below(impl.MaxStops), now, now+minutes)
			now += minutes
		}
		now += n.below(2) * n.below(300)
	}
	return list
}

// chainOfRides returns journeys of MaxRide minutes, each one of which begins when the one before it ends.
func chainOfRides(count int) []impl.Journey {
	list := make([]impl.Journey, count)
	for i := range list {
		list[i] = full(i%10, 9-i%10, i*impl.MaxRide, (i+1)*impl.MaxRide)
	}
	return list
}

// journeyLists returns valid journeys: some by hand, and drawn ones of all lengths.
func journeyLists() [][]impl.Journey {
	list := [][]impl.Journey{
		nil,
		{},
		{{}},
		{{Full: true}},
		{full(9, 9, 40319, 40319)},
		{half(9, 40319)},
		{full(0, 9, 40139, 40319)},
		{full(9, 0, 0, 180)},
		{half(3, 500), half(3, 500), half(4, 500)},
		{full(1, 2, 500, 500), full(1, 2, 500, 500), half(1, 500)},
		{full(1, 2, 500, 600), full(2, 3, 600, 700), half(3, 700), full(3, 1, 700, 700)},
		chainOfRides(impl.MaxTaps),
	}
	n := &numbers{state: 4}
	for i := range 400 {
		list = append(list, drawnJourneys(n, i%(impl.MaxTaps+1)))
	}
	return list
}

// invalidJourneys returns journeys that are not valid each, by what is wrong with them.
func invalidJourneys() map[string]impl.Journey {
	list := map[string]impl.Journey{
		"end before begin":                    full(1, 2, 500, 499),
		"a minute too long":                   full(1, 2, 500, 681),
		"a half with two stops":               {From: 1, To: 2, Begin: 500, End: 500},
		"a half with minutes":                 {From: 1, To: 1, Begin: 500, End: 501},
		"a half with two stops and minutes":   {From: 1, To: 2, Begin: 500, End: 530},
		"a half that ends before":             {From: 1, To: 1, Begin: 500, End: 499},
		"end behind time":                     full(1, 2, 40300, 40320),
		"begin before time":                   full(1, 2, -1, 20),
		"begin and end behind time":           full(1, 2, 40320, 40320),
		"begin and end before time":           full(1, 2, -1, -1),
		"a half behind time":                  half(1, 40320),
		"a half before time":                  half(1, -1),
		"everything":                          noJourney,
		"minutes that turn into short ones":   full(1, 2, math.MinInt, math.MaxInt),
		"minutes that turn into negative one": full(1, 2, math.MaxInt, math.MinInt),
	}
	for name, stop := range map[string]int{"below 0": -1, "too great": 10, "least of all": math.MinInt, "greatest of all": math.MaxInt} {
		list["from "+name] = full(stop, 2, 500, 530)
		list["to "+name] = full(1, stop, 500, 530)
		list["stop of a half "+name] = half(stop, 500)
	}
	for name, minute := range map[string]int{"least of all": math.MinInt, "greatest of all": math.MaxInt} {
		list["begin "+name] = full(1, 2, minute, 530)
		list["end "+name] = full(1, 2, 500, minute)
		list["both "+name] = full(1, 2, minute, minute)
	}
	return list
}

// invalidJourneyLists returns journeys that are not valid together, by what is wrong with them.
func invalidJourneyLists() map[string][]impl.Journey {
	list := map[string][]impl.Journey{
		"one too many":                  chainOfRides(impl.MaxTaps + 1),
		"one half too many":             slices.Repeat([]impl.Journey{half(1, 500)}, impl.MaxTaps+1),
		"overlap of one minute":         {full(1, 2, 500, 530), full(2, 3, 529, 540)},
		"a half within a journey":       {full(1, 2, 500, 530), half(2, 520)},
		"the same journey twice":        {full(1, 2, 500, 530), full(1, 2, 500, 530)},
		"one within another":            {full(1, 2, 500, 600), full(2, 3, 510, 520)},
		"out of order":                  {full(1, 2, 500, 530), full(2, 3, 400, 430)},
		"halves out of order":           {half(1, 500), half(1, 499)},
		"a half before a journey":       {full(1, 2, 500, 530), half(1, 499)},
		"overlap of the last":           {full(1, 2, 400, 430), full(1, 2, 500, 530), full(2, 3, 529, 540)},
		"overlap with the next but one": {full(1, 2, 400, 500), half(2, 500), full(1, 2, 499, 530)},
	}
	for name, j := range invalidJourneys() {
		list["alone: "+name] = []impl.Journey{j}
		list["first: "+name] = []impl.Journey{j, full(1, 2, 40200, 40319)}
		list["last: "+name] = []impl.Journey{full(1, 2, 0, 100), j}
		list["between: "+name] = []impl.Journey{full(1, 2, 0, 100), j, full(1, 2, 40200, 40319)}
	}
	return list
}
