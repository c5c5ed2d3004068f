package tests

import (
	"math"
	"slices"

	"loop.example/transitfares/impl"
)

// noCharge stands for what is not valid in any field.
var noCharge = impl.Charge{Day: -1, Amount: -2}

// caps are some that are valid: the least and the greatest ones, and some that charges come up to or not.
var caps = []int{0, 1, 2, 500, 900, 3999, 4000, 4001, 20000, 49999, 50000}

// badCaps are caps that are not valid.
var badCaps = []int{-1, 50001, math.MinInt, math.MaxInt}

// charge returns an amount of a day.
func charge(day int, amount int) impl.Charge {
	return impl.Charge{Day: day, Amount: amount}
}

// drawnCharges returns valid charges, many of them on days without a day between, or on the same one.
func drawnCharges(n *numbers, count int) []impl.Charge {
	limit := []int{4, 1000, impl.MaxCharge + 1}[n.below(3)]
	step := []int{1, 2, 3}[n.below(3)]
	list := make([]impl.Charge, count)
	day := n.below(9)
	for i := range list {
		list[i] = charge(day, n.below(limit))
		day = min(impl.MaxDay, day+n.below(step)*n.below(3))
	}
	return list
}

// chargeLists returns valid charges: some by hand, and drawn ones of all numbers.
func chargeLists() [][]impl.Charge {
	weekEnds := []impl.Charge{}
	for day := range impl.MaxDay {
		if day%7 == 6 {
			weekEnds = append(weekEnds, charge(day-1, 300), charge(day, 400), charge(day, 500), charge(day+1, 600), charge(day+1, 700))
		}
	}
	list := [][]impl.Charge{
		nil,
		{},
		{{}},
		{charge(28, 4000)},
		{charge(0, 0), charge(0, 0), charge(28, 0)},
		weekEnds,
		slices.Repeat([]impl.Charge{charge(0, 4000)}, impl.MaxTaps),
		slices.Repeat([]impl.Charge{charge(28, 4000)}, impl.MaxTaps),
		slices.Concat(slices.Repeat([]impl.Charge{charge(6, 4000)}, 12), slices.Repeat([]impl.Charge{charge(7, 4000)}, 12)),
	}
	n := &numbers{state: 32}
	for i := range 400 {
		list = append(list, drawnCharges(n, i%(impl.MaxTaps+1)))
	}
	return list
}

// invalidCharges returns charges that are not valid, by what is wrong with them.
func invalidCharges() map[string][]impl.Charge {
	list := map[string][]impl.Charge{
		"one too many":          slices.Repeat([]impl.Charge{charge(3, 100)}, impl.MaxTaps+1),
		"one of 0 too many":     slices.Repeat([]impl.Charge{{}}, impl.MaxTaps+1),
		"days that fall":        {charge(4, 100), charge(3, 100)},
		"days that fall at end": {charge(3, 100), charge(4, 100), charge(4, 100), charge(3, 100)},
		"a day between":         {charge(3, 100), charge(2, 100), charge(3, 100)},
	}
	for name, c := range map[string]impl.Charge{
		"day below 0":         charge(-1, 100),
		"day too great":       charge(29, 100),
		"least day":           charge(math.MinInt, 100),
		"greatest day":        charge(math.MaxInt, 100),
		"amount below 0":      charge(3, -1),
		"amount too great":    charge(3, 4001),
		"least amount":        charge(3, math.MinInt),
		"greatest amount":     charge(3, math.MaxInt),
		"neither is a number": noCharge,
	} {
		list["alone: "+name] = []impl.Charge{c}
		list["first: "+name] = []impl.Charge{c, charge(28, 100)}
		list["last: "+name] = []impl.Charge{charge(0, 100), c}
		list["between: "+name] = []impl.Charge{charge(0, 100), c, charge(28, 100)}
	}
	return list
}

// amountsOf returns the amounts of charges.
func amountsOf(list []impl.Charge) []int {
	amounts := make([]int, len(list))
	for i, c := range list {
		amounts[i] = c.Amount
	}
	return amounts
}

// totalsOf returns the sums of amounts on the days of charges.
func totalsOf(list []impl.Charge, amounts []int) [29]int {
	var totals [29]int
	for i, c := range list {
		totals[c.Day] += amounts[i]
	}
	return totals
}

// cappedBy returns what is paid of valid charges, by looking at all charges before each one.
func cappedBy(list []impl.Charge, day int, week int) []int {
	paid := make([]int, len(list))
	for i, c := range list {
		dayLeft, weekLeft := day, week
		for j, before := range list[:i] {
			if before.Day == c.Day {
				dayLeft -= paid[j]
			}
			if before.Day/7 == c.Day/7 {
				weekLeft -= paid[j]
			}
		}
		paid[i] = min(c.Amount, dayLeft, weekLeft)
	}
	return paid
}
