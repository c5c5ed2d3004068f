package tests

import (
	"math"
	"slices"
	"strconv"

	"loop.example/transitfares/impl"
)

// noAdjust stands for what is not valid, so that it shows wherever it turns up.
var noAdjust = impl.Adjust{Day: -1, Amount: -2}

// farAmounts are adjustments that fit no amount; many of them would, if sums were taken in fewer bits.
var farAmounts = []int{-100001, 100001, 1 << 31, 1 << 32, 1<<32 - 1, -1 << 32, 1 << 62, -1 << 62, math.MinInt, math.MinInt + 1, math.MinInt + 100000, math.MaxInt, math.MaxInt - 1, math.MaxInt - 100000}

// adjust returns an adjustment.
func adjust(day int, amount int) impl.Adjust {
	return impl.Adjust{Day: day, Amount: amount}
}

// adjusts returns an adjustment for each two numbers, its day and its amount.
func adjusts(numbers ...int) []impl.Adjust {
	var list []impl.Adjust
	for pair := range slices.Chunk(numbers, 2) {
		list = append(list, adjust(pair[0], pair[1]))
	}
	return list
}

// dues returns amounts for all days: 0, but for each two numbers, a day and its amount.
func dues(numbers ...int) []int {
	list := make([]int, 29)
	for pair := range slices.Chunk(numbers, 2) {
		list[pair[0]] = pair[1]
	}
	return list
}

// drawnDues returns amounts for all days. A small limit makes equal ones likely.
func drawnDues(n *numbers) []int {
	limit := []int{2, 5, 1000, 100001}[n.below(4)]
	list := make([]int, 29)
	for i := range list {
		list[i] = []int{n.below(limit), n.below(limit), n.below(limit), 0, 100000}[n.below(5)]
	}
	return list
}

// dueLists returns valid amounts for all days: some by hand, and drawn ones.
func dueLists() [][]int {
	list := [][]int{
		dues(),
		dues(0, 1),
		dues(28, 100000),
		dues(0, 100000, 14, 1, 28, 1),
		slices.Repeat([]int{1}, 29),
		slices.Repeat([]int{100000}, 29),
		cardsFrom(0, 29),
		cardsFrom(99972, 29),
	}
	n := &numbers{state: 114}
	for range 100 {
		list = append(list, drawnDues(n))
	}
	return list
}

// duePairs returns valid amounts before and after: equal ones, those that differ on one of all days, on some, and on all.
func duePairs() [][2][]int {
	n := &numbers{state: 115}
	lists := dueLists()
	var pairs [][2][]int
	for _, list := range lists {
		pairs = append(pairs, [2][]int{list, slices.Clone(list)})
		pairs = append(pairs, [2][]int{list, lists[n.below(len(lists))]})
		for day := range list {
			other := slices.Clone(list)
			other[day] = []int{0, 100000, n.below(100001), max(0, other[day]-1), min(100000, other[day]+1)}[n.below(5)]
			pairs = append(pairs, [2][]int{list, other})
		}
		all := slices.Clone(list)
		for day := range all {
			all[day] = 100000 - all[day]
		}
		pairs = append(pairs, [2][]int{list, all})
	}
	return pairs
}

// drawnChanges returns adjustments that fit amounts, some of which may be 0; each day has one or not.
func drawnChanges(n *numbers, list []int) []impl.Adjust {
	rare := 1 + n.below(10)
	var changes []impl.Adjust
	for day, amount := range list {
		if n.below(rare) == 0 {
			after := []int{0, 100000, amount, n.below(100001)}[n.below(4)]
			changes = append(changes, adjust(day, after-amount))
		}
	}
	return changes
}

// invalidDues returns what are no amounts for all days, by what is wrong with them.
func invalidDues() map[string][]int {
	list := map[string][]int{
		"no amount":             nil,
		"no amount, but a list": {},
		"one day":               {500},
		"a day too short":       make([]int, 28),
		"a day too long":        make([]int, 30),
		"days too long":         make([]int, 58),
		"many days":             make([]int, 1000),
	}
	for _, amount := range badSums {
		for _, day := range []int{0, 1, 14, 27, 28} {
			list["amount "+strconv.Itoa(amount)+" of day "+strconv.Itoa(day)] = dues(day, amount)
		}
		list["all amounts "+strconv.Itoa(amount)] = slices.Repeat([]int{amount}, 29)
	}
	return list
}

// invalidChanges returns adjustments whose days are not valid, by what is wrong with them.
func invalidChanges() map[string][]impl.Adjust {
	list := map[string][]impl.Adjust{
		"a day twice":                 adjusts(3, 5, 3, 5),
		"a day twice, there and back": adjusts(3, 5, 3, -5),
		"a day twice at last":         adjusts(3, 5, 4, 5, 4, 1),
		"a day again":                 adjusts(3, 5, 4, 5, 3, 5),
		"days that fall":              adjusts(4, 5, 3, 5),
		"days that fall at first":     adjusts(4, 5, 3, 5, 6, 5),
		"days that fall at last":      adjusts(3, 5, 6, 5, 4, 5),
		"days that fall to day 0":     adjusts(1, 5, 0, 5),
		"many changes of a day":       slices.Repeat(adjusts(3, 1), 500),
		"everything":                  {noAdjust},
	}
	for _, day := range badDays {
		name := "day " + strconv.Itoa(day)
		list["alone: "+name] = adjusts(day, 5)
		list["alone without an amount: "+name] = adjusts(day, 0)
		list["first: "+name] = adjusts(day, 5, 27, 5, 28, 5)
		list["last: "+name] = adjusts(0, 5, 1, 5, day, 5)
		list["between: "+name] = adjusts(0, 5, day, 5, 28, 5)
	}
	return list
}

// changesBy returns the adjustments between two lists of amounts, by leaving out days without a change.
func changesBy(before []int, after []int) []impl.Adjust {
	list := make([]impl.Adjust, len(before))
	for day := range list {
		list[day] = adjust(day, after[day]-before[day])
	}
	return slices.DeleteFunc(list, func(a impl.Adjust) bool { return a.Amount == 0 })
}

// adjustedBy returns amounts behind valid adjustments; false if one of them is not within the limits.
func adjustedBy(list []int, changes []impl.Adjust) ([]int, bool) {
	own := slices.Clone(list)
	for _, a := range changes {
		// Amounts that are further away than this do not fit, and their sums could turn around.
		if a.Amount < -100000 || a.Amount > 100000 {
			return nil, false
		}
		own[a.Day] += a.Amount
	}
	if slices.Min(own) < 0 || slices.Max(own) > 100000 {
		return nil, false
	}
	return own, true
}

// daysBy returns what a card has to pay for all days.
func daysBy(x account, card int) []int {
	list := make([]int, 29)
	for _, b := range billsBy(x, card) {
		list[(b.Journey.Begin+1200)/1440] += b.Amount
	}
	return list
}

// lateBy returns the adjustments of a card by a tap that can be added to valid taps.
func lateBy(x account, card int, t impl.Tap) []impl.Adjust {
	more := account{x.rules, collected(append(slices.Clone(x.list), t))}
	return changesBy(daysBy(x, card), daysBy(more, card))
}

// late is a tap that comes late.
type late struct {
	before account
	tap    impl.Tap
	list   []impl.Tap
}

// lateTaps returns taps that come late: each one of accounts as if it had been missing, and drawn ones at stops of the tariff.
func lateTaps() []late {
	n := &numbers{state: 117}
	var list []late
	for _, x := range accounts() {
		for i, t := range x.list {
			list = append(list, late{account{x.rules, without(x.list, i)}, t, x.list})
		}
		t := drawnTap(n, 300)
		t.Validator, t.Stop = 8, n.below(len(x.rules.Tariff.Zones))
		if len(x.list) > 0 && n.below(2) == 0 {
			t.Minute = x.list[n.below(len(x.list))].Minute
		}
		if more := collected(append(slices.Clone(x.list), t)); len(more) == len(x.list)+1 {
			list = append(list, late{x, t, more})
		}
	}
	return list
}
