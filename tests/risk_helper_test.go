package tests

import (
	"math"
	"slices"
)

// trusts are firsts and steps: the least and the greatest ones, and some between.
var trusts = []int{0, 1, 2, 100, 166, 167, 300, 1250, 2500, 2501, 4900, 4999, 5000}

// badTrusts are firsts and steps that are not valid.
var badTrusts = []int{-1, 5001, -5000, 100000, math.MinInt, math.MaxInt}

// badSums are no amounts in 0..MaxAmount.
var badSums = []int{-1, 100001, math.MinInt, math.MaxInt}

// badPrices are no prices in 0..MaxCharge.
var badPrices = []int{-1, 4001, math.MinInt, math.MaxInt}

// sumsOwed are amounts that are owed or trusted: the least and the greatest ones, and some between.
var sumsOwed = []int{0, 1, 2, 199, 200, 201, 300, 999, 1000, 3999, 4000, 4001, 4999, 5000, 5001, 8000, 49999, 95999, 96000, 96001, 99998, 99999, 100000}

// prices are the least and the greatest ones, and some between.
var prices = []int{0, 1, 2, 3, 199, 200, 201, 300, 1000, 2500, 3999, 4000}

// daysOf returns days of a card: paid for each '+', and not paid for each '-'.
func daysOf(signs string) []bool {
	var list []bool
	for _, sign := range signs {
		list = append(list, sign == '+')
	}
	return list
}

// drawnDays returns days of a card, most of which were paid, most of the time.
func drawnDays(n *numbers, count int) []bool {
	often := 1 + n.below(12)
	list := make([]bool, count)
	for i := range list {
		list[i] = n.below(often) > 0
	}
	return list
}

// dayLists returns the days of cards: some by hand, and drawn ones of all numbers.
func dayLists() [][]bool {
	list := [][]bool{
		nil,
		{},
		daysOf("+"),
		daysOf("-"),
		daysOf("-+++"),
		daysOf("++-+"),
		daysOf("+++-"),
		daysOf("-+-+-"),
		slices.Repeat(daysOf("+"), 30),
		slices.Repeat(daysOf("-"), 30),
		append(daysOf("-"), slices.Repeat(daysOf("+"), 29)...),
		append(slices.Repeat(daysOf("+"), 29), false),
	}
	n := &numbers{state: 105}
	for i := range 200 {
		list = append(list, drawnDays(n, i%31))
	}
	return list
}

// invalidDayLists returns too many days, by what they are.
func invalidDayLists() map[string][]bool {
	return map[string][]bool{
		"31 days that were paid":     slices.Repeat(daysOf("+"), 31),
		"31 days that were not paid": slices.Repeat(daysOf("-"), 31),
		"31 days, the last not paid": append(slices.Repeat(daysOf("+"), 30), false),
		"32 days":                    slices.Repeat(daysOf("+-"), 16),
		"many days":                  slices.Repeat(daysOf("+++-"), 500),
	}
}

// trustBy returns the trust behind days: by how many were paid since the last one that was not, or since the first amount.
func trustBy(rides []bool, first int, step int) int {
	since := 0
	for i, paid := range rides {
		if !paid {
			first, since = 0, i+1
		}
	}
	return min(5000, first+step*(len(rides)-since))
}

// ridesBy returns how often a card may ride, by riding.
func ridesBy(owed int, trust int, price int) int {
	count := 0
	for owed+price <= trust {
		owed += price
		count++
	}
	return count
}
