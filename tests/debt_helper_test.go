package tests

import (
	"math"
	"slices"
	"strconv"

	"loop.example/transitfares/impl"
)

// noDebt stands for what is not valid, so that it shows wherever it turns up.
var noDebt = impl.Debt{Day: -1, Amount: -2}

// badDays are days that there are not.
var badDays = []int{-1, 29, math.MinInt, math.MaxInt}

// debt returns what is owed for a day.
func debt(day int, amount int) impl.Debt {
	return impl.Debt{Day: day, Amount: amount}
}

// daily returns debts of one amount for some days.
func daily(amount int, days ...int) []impl.Debt {
	var list []impl.Debt
	for _, day := range days {
		list = append(list, debt(day, amount))
	}
	return list
}

// drawnDebts returns valid debts for a number of days.
func drawnDebts(n *numbers, count int) []impl.Debt {
	days := mixed(n, cardsFrom(0, 29))[:count]
	slices.Sort(days)
	most := []int{3, 1000, 100000}[n.below(3)]
	list := make([]impl.Debt, count)
	for i, day := range days {
		list[i] = debt(day, []int{1 + n.below(most), 1 + n.below(most), 1, 100000}[n.below(4)])
	}
	return list
}

// debtLists returns valid debts: some by hand, and drawn ones of all numbers.
func debtLists() [][]impl.Debt {
	list := [][]impl.Debt{
		nil,
		{},
		{debt(0, 1)},
		{debt(0, 100000)},
		{debt(28, 1)},
		{debt(28, 100000)},
		{debt(0, 500), debt(28, 700)},
		{debt(13, 500), debt(14, 499), debt(15, 1)},
		daily(1, cardsFrom(0, 29)...),
		daily(100000, cardsFrom(0, 29)...),
	}
	n := &numbers{state: 97}
	for i := range 290 {
		list = append(list, drawnDebts(n, i%30))
	}
	return list
}

// invalidDebts returns debts that are not valid, by what is wrong with them.
func invalidDebts() map[string][]impl.Debt {
	list := map[string][]impl.Debt{
		"a debt twice":              daily(500, 3, 3),
		"a day twice at last":       {debt(3, 500), debt(4, 500), debt(4, 1)},
		"a day again":               {debt(3, 500), debt(4, 500), debt(3, 1)},
		"days that fall":            daily(500, 4, 3),
		"days that fall at first":   daily(500, 4, 3, 5),
		"days that fall at last":    daily(500, 3, 5, 4),
		"all days in reverse order": daily(500, turned(cardsFrom(0, 29))...),
		"a day too many":            daily(500, cardsFrom(0, 30)...),
		"many debts of a day":       slices.Repeat(daily(500, 3), 500),
	}
	wrong := map[string]impl.Debt{"no amount": {}, "everything": noDebt}
	for _, day := range badDays {
		wrong["day "+strconv.Itoa(day)] = debt(day, 500)
	}
	for _, amount := range badAmounts {
		wrong["amount "+strconv.Itoa(amount)] = debt(5, amount)
	}
	for name, d := range wrong {
		list["alone: "+name] = []impl.Debt{d}
		list["first: "+name] = append([]impl.Debt{d}, daily(500, 27, 28)...)
		list["last: "+name] = append(daily(500, 0, 1), d)
		list["between: "+name] = append(append(daily(500, 0, 1), d), daily(500, 27, 28)...)
	}
	return list
}

// anyDebts returns debts that are valid or not.
func anyDebts() [][]impl.Debt {
	return withInvalid(debtLists(), invalidDebts())
}

// owedBy returns the sum of debts.
func owedBy(list []impl.Debt) int {
	owed := 0
	for _, d := range list {
		owed += d.Amount
	}
	return owed
}

// tableOf returns the amounts of debts by their days.
func tableOf(list []impl.Debt) [29]int {
	var table [29]int
	for _, d := range list {
		table[d.Day] += d.Amount
	}
	return table
}

// debtsOf returns those debts of a table that are not 0.
func debtsOf(table [29]int) []impl.Debt {
	var list []impl.Debt
	for day, amount := range table {
		if amount != 0 {
			list = append(list, debt(day, amount))
		}
	}
	return list
}

// addedBy returns valid debts with an amount more; false if that is too much.
func addedBy(list []impl.Debt, day int, amount int) ([]impl.Debt, bool) {
	table := tableOf(list)
	table[day] += amount
	if table[day] > 100000 {
		return nil, false
	}
	return debtsOf(table), true
}

// paidBy returns valid debts after an amount is paid, day by day, and what is left of it.
func paidBy(list []impl.Debt, amount int) ([]impl.Debt, int) {
	table := tableOf(list)
	for day := range table {
		part := min(amount, table[day])
		table[day] -= part
		amount -= part
	}
	return debtsOf(table), amount
}

// oldBy returns the debts whose days are before a day.
func oldBy(list []impl.Debt, day int) []impl.Debt {
	return slices.DeleteFunc(slices.Clone(list), func(d impl.Debt) bool { return d.Day >= day })
}

// payments returns amounts for debts: nothing, what some of them are together, exactly and nearly, and much more.
func payments(n *numbers, list []impl.Debt) []int {
	owed := owedBy(list)
	amounts := []int{0, 1, 100000, 2900000, n.below(owed + 1), n.below(owed + 1), math.MaxInt - 1, math.MaxInt}
	for i := range len(list) + 1 {
		first := owedBy(list[:i])
		amounts = append(amounts, max(0, first-1), first, first+1)
	}
	return amounts
}
