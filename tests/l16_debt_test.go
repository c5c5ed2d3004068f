package tests

import (
	"math"
	"slices"
	"testing"

	"loop.example/transitfares/impl"
)

// mustBeDebts checks that a result is valid debts.
func mustBeDebts(t *testing.T, list []impl.Debt) []impl.Debt {
	t.Helper()
	if !impl.ValidDebts(list) {
		t.Fatalf("ValidDebts(%v) = false", list)
	}
	return list
}

// mustAddDebt returns AddDebt, which has to succeed and make valid debts.
func mustAddDebt(t *testing.T, list []impl.Debt, day int, amount int) []impl.Debt {
	t.Helper()
	more, ok := impl.AddDebt(list, day, amount)
	if !ok {
		t.Fatalf("AddDebt(%v, %d, %d) = %v, false", list, day, amount, more)
	}
	return mustBeDebts(t, more)
}

// mustPay returns PayDebts, which has to succeed and make valid debts.
func mustPay(t *testing.T, list []impl.Debt, amount int) ([]impl.Debt, int) {
	t.Helper()
	behind, left := impl.PayDebts(list, amount)
	if left < 0 {
		t.Fatalf("PayDebts(%v, %d) = %v, %d", list, amount, behind, left)
	}
	return mustBeDebts(t, behind), left
}

func TestValidDebtsWithinLimits(t *testing.T) {
	for _, list := range debtLists() {
		mustBeDebts(t, list)
	}
	for number := -20; number <= 60; number++ {
		if got := impl.ValidDebts(daily(500, number)); got != (number >= 0 && number <= 28) {
			t.Errorf("ValidDebts of day %d = %v", number, got)
		}
		if number >= 0 && number < 29 {
			mustBeDebts(t, daily(500, cardsFrom(0, number)...))
		}
	}
	for _, amount := range []int{-100000, -1, 0, 1, 2, 99999, 100000, 100001, 200000} {
		if got := impl.ValidDebts(daily(amount, 0)); got != (amount >= 1 && amount <= 100000) {
			t.Errorf("ValidDebts of amount %d = %v", amount, got)
		}
	}
}

func TestValidDebtsOfTwoDays(t *testing.T) {
	for a := range 29 {
		for b := range 29 {
			if got := impl.ValidDebts(daily(500, a, b)); got != (a < b) {
				t.Errorf("ValidDebts of days %d and %d = %v", a, b, got)
			}
		}
	}
}

func TestValidDebtsOutsideOfLimits(t *testing.T) {
	for name, list := range invalidDebts() {
		if impl.ValidDebts(list) {
			t.Errorf("%s: ValidDebts(%v) = true", name, list)
		}
	}
}

func TestP97DebtsCanBeLeftOut(t *testing.T) {
	for _, list := range debtLists() {
		for i := range list {
			mustBeDebts(t, without(list, i))
		}
	}
}

func TestDebtOfSomeDebts(t *testing.T) {
	for _, c := range []struct {
		name string
		list []impl.Debt
		want int
	}{
		{"no debts", nil, 0},
		{"the first day", daily(1, 0), 1},
		{"the last day", daily(100000, 28), 100000},
		{"two days", []impl.Debt{debt(3, 500), debt(9, 70)}, 570},
		{"all days", daily(100000, cardsFrom(0, 29)...), 2900000},
		{"days that fall", daily(500, 4, 3), -1},
		{"a day twice", daily(500, 3, 3), -1},
		{"a day below 0", daily(500, -1), -1},
		{"a day too many", daily(500, 29), -1},
		{"no amount", daily(0, 3), -1},
		{"an amount too great", daily(100001, 3), -1},
	} {
		if got := impl.DebtOf(c.list); got != c.want {
			t.Errorf("%s: DebtOf(%v) = %d, want %d", c.name, c.list, got, c.want)
		}
	}
}

func TestP98DebtsAddUp(t *testing.T) {
	for _, list := range debtLists() {
		all := impl.DebtOf(list)
		if want := owedBy(list); all != want {
			t.Fatalf("DebtOf(%v) = %d, want %d", list, all, want)
		}
		for place := range len(list) + 1 {
			if first, others := impl.DebtOf(list[:place]), impl.DebtOf(list[place:]); first+others != all {
				t.Fatalf("DebtOf(%v) = %d, and of parts %d and %d", list, all, first, others)
			}
		}
	}
}

func TestAddDebtOfSomeAmounts(t *testing.T) {
	list := []impl.Debt{debt(3, 500), debt(9, 99000)}
	for _, c := range []struct {
		name        string
		list        []impl.Debt
		day, amount int
		want        []impl.Debt
		ok          bool
	}{
		{"to nothing", nil, 3, 500, daily(500, 3), true},
		{"day 0", nil, 0, 1, daily(1, 0), true},
		{"the last day", nil, 28, 100000, daily(100000, 28), true},
		{"before the first one", list, 2, 7, []impl.Debt{debt(2, 7), debt(3, 500), debt(9, 99000)}, true},
		{"day 0 before the first one", list, 0, 7, []impl.Debt{debt(0, 7), debt(3, 500), debt(9, 99000)}, true},
		{"to the first one", list, 3, 7, []impl.Debt{debt(3, 507), debt(9, 99000)}, true},
		{"behind the first one", list, 4, 7, []impl.Debt{debt(3, 500), debt(4, 7), debt(9, 99000)}, true},
		{"before the last one", list, 8, 7, []impl.Debt{debt(3, 500), debt(8, 7), debt(9, 99000)}, true},
		{"to the last one", list, 9, 7, []impl.Debt{debt(3, 500), debt(9, 99007)}, true},
		{"behind the last one", list, 10, 7, []impl.Debt{debt(3, 500), debt(9, 99000), debt(10, 7)}, true},
		{"the last day behind the last one", list, 28, 7, []impl.Debt{debt(3, 500), debt(9, 99000), debt(28, 7)}, true},
		{"up to MaxAmount", list, 9, 1000, []impl.Debt{debt(3, 500), debt(9, 100000)}, true},
		{"one more than MaxAmount", list, 9, 1001, nil, false},
		{"MaxAmount to a debt", list, 3, 100000, nil, false},
		{"one less than MaxAmount", daily(1, 3), 3, 99999, daily(100000, 3), true},
		{"MaxAmount to a debt of 1", daily(1, 3), 3, 100000, nil, false},
		{"1 to MaxAmount", daily(100000, 3), 3, 1, nil, false},
		{"MaxAmount beside a debt", list, 5, 100000, []impl.Debt{debt(3, 500), debt(5, 100000), debt(9, 99000)}, true},
		{"nothing", list, 5, 0, nil, false},
		{"nothing to a debt", list, 3, 0, nil, false},
		{"one more than MaxAmount, alone", list, 5, 100001, nil, false},
		{"less than nothing", list, 3, -1, nil, false},
		{"the whole debt back", list, 3, -500, nil, false},
		{"a day below 0", list, -1, 7, nil, false},
		{"a day too many", list, 29, 7, nil, false},
	} {
		if got, ok := impl.AddDebt(c.list, c.day, c.amount); ok != c.ok || !slices.Equal(got, c.want) {
			t.Errorf("%s: AddDebt(%v, %d, %d) = %v, %v, want %v, %v", c.name, c.list, c.day, c.amount, got, ok, c.want, c.ok)
		}
	}
}

// amountsFor returns amounts to add to a debt, also those that make exactly MaxAmount and nearly.
func amountsFor(owed int) []int {
	list := []int{1, 500, 99999, 100000}
	for _, amount := range []int{99999 - owed, 100000 - owed, 100001 - owed} {
		if amount >= 1 && amount <= 100000 {
			list = append(list, amount)
		}
	}
	return list
}

func TestP99AddedDebtsAreOwed(t *testing.T) {
	added, many := 0, 0
	for _, list := range debtLists() {
		table := tableOf(list)
		for day, owed := range table {
			for _, amount := range amountsFor(owed) {
				got, ok := impl.AddDebt(list, day, amount)
				want, wantOk := addedBy(list, day, amount)
				if ok != wantOk || !slices.Equal(got, want) {
					t.Fatalf("AddDebt(%v, %d, %d) = %v, %v, want %v", list, day, amount, got, ok, want)
				}
				if !ok {
					many++
					continue
				}
				added++
				if impl.DebtOf(mustBeDebts(t, got)) != impl.DebtOf(list)+amount {
					t.Fatalf("DebtOf of AddDebt(%v, %d, %d) = %d", list, day, amount, impl.DebtOf(got))
				}
			}
		}
	}
	if added < 10000 || many < 5000 {
		t.Errorf("only %d amounts were added, and %d were too many", added, many)
	}
}

func TestP100TheOrderOfDebtsDoesNotMatter(t *testing.T) {
	n := &numbers{state: 100}
	same := 0
	for _, list := range debtLists() {
		for a := range 29 {
			b := []int{a, n.below(29), n.below(29)}[n.below(3)]
			one, other := 1+n.below(40000), 1+n.below(40000)
			first, okFirst := addBoth(list, debt(a, one), debt(b, other))
			second, okSecond := addBoth(list, debt(b, other), debt(a, one))
			if okFirst != okSecond || !slices.Equal(first, second) {
				t.Fatalf("%d for day %d and %d for day %d more than %v are %v, and in the other order %v", one, a, other, b, list, first, second)
			}
			if okFirst {
				same++
			}
		}
	}
	if same < 3000 {
		t.Errorf("only %d times both were added", same)
	}
}

// addBoth adds two debts, one after the other; false if one of them is too much.
func addBoth(list []impl.Debt, first impl.Debt, second impl.Debt) ([]impl.Debt, bool) {
	more, ok := impl.AddDebt(list, first.Day, first.Amount)
	if !ok {
		return nil, false
	}
	return impl.AddDebt(more, second.Day, second.Amount)
}

// Debts that are added in any order are those of all days.
func TestAddDebtAgainAndAgain(t *testing.T) {
	n := &numbers{state: 16}
	for range 100 {
		var got []impl.Debt
		var table [29]int
		for _, day := range mixed(n, slices.Repeat(cardsFrom(0, 29), 3)) {
			amount := 1 + n.below(30000)
			got = mustAddDebt(t, got, day, amount)
			table[day] += amount
		}
		if want := debtsOf(table); !slices.Equal(got, want) {
			t.Fatalf("AddDebt again and again = %v, want %v", got, want)
		}
	}
}

func TestAddDebtOfInvalidArguments(t *testing.T) {
	for _, list := range debtLists() {
		for _, day := range badDays {
			checkNotAdded(t, "day", list, day, 500)
			checkNotAdded(t, "day and amount", list, day, 0)
		}
		for _, amount := range badAmounts {
			for day := range 29 {
				checkNotAdded(t, "amount", list, day, amount)
			}
		}
	}
	for name, list := range invalidDebts() {
		for day := range 29 {
			checkNotAdded(t, name, list, day, 500)
		}
		checkNotAdded(t, name, list, 29, 0)
	}
}

// An amount that is not valid is not added to debts that are not valid either, though the sum would be.
func TestAddDebtDoesNotMakeDebtsValid(t *testing.T) {
	for _, c := range [][2]int{{-5, 10}, {0, 10}, {-99999, 100000}, {100001, -1}, {200000, -100000}, {math.MinInt, math.MaxInt}, {math.MaxInt, math.MinInt}, {10, -5}, {500, 0}, {100000, -99999}} {
		checkNotAdded(t, "sum", daily(c[0], 3), 3, c[1])
		checkNotAdded(t, "sum beside others", daily(c[0], 2, 3, 4), 3, c[1])
	}
}

// checkNotAdded checks that AddDebt returns nil and false.
func checkNotAdded(t *testing.T, name string, list []impl.Debt, day int, amount int) {
	t.Helper()
	if got, ok := impl.AddDebt(list, day, amount); ok || got != nil {
		t.Errorf("%s: AddDebt(%v, %d, %d) = %v, %v", name, list, day, amount, got, ok)
	}
}

func TestPayDebtsOfSomeAmounts(t *testing.T) {
	list := []impl.Debt{debt(0, 500), debt(9, 300), debt(28, 200)}
	for _, c := range []struct {
		name   string
		list   []impl.Debt
		amount int
		want   []impl.Debt
		left   int
	}{
		{"nothing", list, 0, list, 0},
		{"the least amount", list, 1, []impl.Debt{debt(0, 499), debt(9, 300), debt(28, 200)}, 0},
		{"a part of the first one", list, 200, []impl.Debt{debt(0, 300), debt(9, 300), debt(28, 200)}, 0},
		{"all but 1 of the first one", list, 499, []impl.Debt{debt(0, 1), debt(9, 300), debt(28, 200)}, 0},
		{"exactly the first one", list, 500, []impl.Debt{debt(9, 300), debt(28, 200)}, 0},
		{"one more", list, 501, []impl.Debt{debt(9, 299), debt(28, 200)}, 0},
		{"a part of the second one", list, 600, []impl.Debt{debt(9, 200), debt(28, 200)}, 0},
		{"exactly two", list, 800, []impl.Debt{debt(28, 200)}, 0},
		{"a part of the last one", list, 999, []impl.Debt{debt(28, 1)}, 0},
		{"exactly all", list, 1000, nil, 0},
		{"one more than all", list, 1001, nil, 1},
		{"more than all", list, 5000, nil, 4000},
		{"the greatest amount", list, math.MaxInt, nil, math.MaxInt - 1000},
		{"nothing of no debts", nil, 0, nil, 0},
		{"1 of no debts", nil, 1, nil, 1},
		{"the greatest amount of no debts", nil, math.MaxInt, nil, math.MaxInt},
		{"a debt of 1", daily(1, 3), 1, nil, 0},
		{"a debt of MaxAmount", daily(100000, 3), 99999, daily(1, 3), 0},
		{"a negative amount", list, -1, nil, -1},
		{"the least number", list, math.MinInt, nil, -1},
		{"a negative amount of no debts", nil, -1, nil, -1},
	} {
		if got, left := impl.PayDebts(c.list, c.amount); left != c.left || !slices.Equal(got, c.want) {
			t.Errorf("%s: PayDebts(%v, %d) = %v, %d, want %v, %d", c.name, c.list, c.amount, got, left, c.want, c.left)
		}
	}
}

func TestP101WhatIsPaidIsNotOwedAnyMore(t *testing.T) {
	n := &numbers{state: 101}
	part, over := 0, 0
	for _, list := range debtLists() {
		for _, amount := range payments(n, list) {
			got, left := mustPay(t, list, amount)
			if want, wantLeft := paidBy(list, amount); left != wantLeft || !slices.Equal(got, want) {
				t.Fatalf("PayDebts(%v, %d) = %v, %d, want %v, %d", list, amount, got, left, want, wantLeft)
			}
			if owed := impl.DebtOf(got); owed != impl.DebtOf(list)-(amount-left) || left > 0 && owed != 0 {
				t.Fatalf("PayDebts(%v, %d) = %v, %d", list, amount, got, left)
			}
			if left > 0 {
				over++
			} else {
				part++
			}
		}
	}
	if part < 5000 || over < 1000 {
		t.Errorf("only %d amounts were used up, and %d were not", part, over)
	}
}

func TestP102OldDebtsArePaidFirst(t *testing.T) {
	n := &numbers{state: 102}
	for _, list := range debtLists() {
		for _, amount := range payments(n, list) {
			got, _ := mustPay(t, list, amount)
			if len(got) == 0 {
				continue
			}
			before := list[len(list)-len(got):]
			if !slices.Equal(got[1:], before[1:]) || got[0].Day != before[0].Day || got[0].Amount > before[0].Amount {
				t.Fatalf("PayDebts(%v, %d) = %v", list, amount, got)
			}
		}
	}
}

func TestP103AmountsCanBePaidInParts(t *testing.T) {
	n := &numbers{state: 103}
	for _, list := range debtLists() {
		for _, amount := range payments(n, list) {
			want, wantLeft := mustPay(t, list, amount)
			for _, part := range []int{0, min(1, amount), amount / 2, amount, min(amount, impl.DebtOf(list))} {
				first, left := mustPay(t, list, part)
				got, rest := mustPay(t, first, left+amount-part)
				if rest != wantLeft || !slices.Equal(got, want) {
					t.Fatalf("PayDebts(%v, %d) in parts = %v, %d, want %v, %d", list, amount, got, rest, want, wantLeft)
				}
				if got, rest = mustPay(t, first, amount-part); left+rest != wantLeft || !slices.Equal(got, want) {
					t.Fatalf("PayDebts(%v, %d) behind a part = %v, %d, want %v, %d", list, amount, got, rest, want, wantLeft)
				}
			}
		}
	}
}

func TestP159DebtsCanBePaid(t *testing.T) {
	checked := 0
	for _, list := range debtLists() {
		checkAllPaid(t, list)
		for day := range 29 {
			if more, ok := impl.AddDebt(list, day, 300); ok {
				checked++
				checkAllPaid(t, more)
			}
		}
	}
	if checked < 3000 {
		t.Errorf("only %d times a debt was added", checked)
	}
}

// checkAllPaid checks that paying all that is owed leaves no debts and nothing.
func checkAllPaid(t *testing.T, list []impl.Debt) {
	t.Helper()
	if got, left := impl.PayDebts(list, impl.DebtOf(list)); len(got) != 0 || left != 0 {
		t.Errorf("PayDebts(%v, %d) = %v, %d", list, impl.DebtOf(list), got, left)
	}
}

func TestPayDebtsOfInvalidArguments(t *testing.T) {
	for _, list := range debtLists() {
		for _, amount := range []int{-1, -2, -500, -100000, math.MinInt} {
			checkNotPaid(t, "amount", list, amount)
		}
	}
	for name, list := range invalidDebts() {
		for _, amount := range []int{0, 1, 500, 1000, math.MaxInt, -1, math.MinInt} {
			checkNotPaid(t, name, list, amount)
		}
	}
}

// checkNotPaid checks that PayDebts returns nil and -1.
func checkNotPaid(t *testing.T, name string, list []impl.Debt, amount int) {
	t.Helper()
	if got, left := impl.PayDebts(list, amount); left != -1 || got != nil {
		t.Errorf("%s: PayDebts(%v, %d) = %v, %d", name, list, amount, got, left)
	}
}

func TestOldDebtsOfSomeDays(t *testing.T) {
	list := []impl.Debt{debt(3, 500), debt(9, 300), debt(10, 200)}
	for _, c := range []struct {
		name string
		list []impl.Debt
		day  int
		many int
	}{
		{"before the first one", list, 2, 0},
		{"the day of the first one", list, 3, 0},
		{"behind the first one", list, 4, 1},
		{"the day of the second one", list, 9, 1},
		{"the day of the last one", list, 10, 2},
		{"behind the last one", list, 11, 3},
		{"the first day", list, 0, 0},
		{"the last day", list, 28, 3},
		{"behind all days", list, 29, 3},
		{"a negative day", list, -1, 0},
		{"the least day", list, math.MinInt, 0},
		{"the greatest day", list, math.MaxInt, 3},
		{"a debt of day 0, at it", daily(1, 0), 0, 0},
		{"a debt of day 0, behind it", daily(1, 0), 1, 1},
		{"a debt of the last day, at it", daily(1, 28), 28, 0},
		{"a debt of the last day, behind it", daily(1, 28), 29, 1},
		{"no debts", nil, 5, 0},
	} {
		if got := impl.OldDebts(c.list, c.day); !slices.Equal(got, c.list[:c.many]) {
			t.Errorf("%s: OldDebts(%v, %d) = %v", c.name, c.list, c.day, got)
		}
	}
}

// anyDays are all days, and those around and far from them.
var anyDays = append(cardsFrom(-3, 35), math.MinInt, math.MinInt+1, math.MaxInt-1, math.MaxInt)

func TestP104OldDebtsAreABeginning(t *testing.T) {
	some := 0
	for _, list := range debtLists() {
		for _, day := range anyDays {
			got := mustBeDebts(t, impl.OldDebts(list, day))
			if !slices.Equal(got, oldBy(list, day)) || !slices.Equal(got, list[:len(got)]) {
				t.Fatalf("OldDebts(%v, %d) = %v", list, day, got)
			}
			for _, d := range list[len(got):] {
				if d.Day < day {
					t.Fatalf("OldDebts(%v, %d) = %v, without %v", list, day, got, d)
				}
			}
			if len(got) > 0 && len(got) < len(list) {
				some++
			}
		}
	}
	if some < 3000 {
		t.Errorf("only %d times some of the debts were old", some)
	}
}

func TestP160LaterDaysHaveMoreOldDebts(t *testing.T) {
	days := slices.Sorted(slices.Values(anyDays))
	for _, list := range debtLists() {
		var before []impl.Debt
		for _, day := range days {
			got := impl.OldDebts(list, day)
			if len(got) < len(before) || !slices.Equal(got[:len(before)], before) {
				t.Fatalf("OldDebts(%v, %d) = %v, and %v of an earlier day", list, day, got, before)
			}
			before = got
		}
		if !slices.Equal(before, list) {
			t.Fatalf("OldDebts(%v) of the last day = %v", list, before)
		}
	}
}

func TestDebtsOfInvalidLists(t *testing.T) {
	for name, list := range invalidDebts() {
		if got := impl.DebtOf(list); got != -1 {
			t.Errorf("%s: DebtOf(%v) = %d", name, list, got)
		}
		for _, day := range anyDays {
			if got := impl.OldDebts(list, day); got != nil {
				t.Errorf("%s: OldDebts(%v, %d) = %v", name, list, day, got)
			}
		}
	}
}

// debtCalls returns the debts that the functions of the chapter make of some, by their names.
func debtCalls(list []impl.Debt) map[string][]impl.Debt {
	made := map[string][]impl.Debt{}
	for name, day := range map[string]int{" day 0": 0, " day 3": 3, " day 14": 14, " day 28": 28, " day 29": 29} {
		made["AddDebt for"+name], _ = impl.AddDebt(list, day, 1)
		made["OldDebts of"+name] = impl.OldDebts(list, day)
	}
	for name, amount := range map[string]int{" nothing": 0, " 1": 1, " 1000": 1000, " 150000": 150000, " all": 2900000, " less than nothing": -1} {
		made["PayDebts of"+name], _ = impl.PayDebts(list, amount)
	}
	return made
}

func TestDebtsChangeNothing(t *testing.T) {
	for _, list := range anyDebts() {
		list = widened(list, noDebt)
		before := whole(list)
		impl.ValidDebts(list)
		impl.DebtOf(list)
		for _, made := range debtCalls(list) {
			fill(made, noDebt)
		}
		if !slices.Equal(before, whole(list)) {
			t.Fatalf("a call changed the debts %v to %v, or shares memory with them", before, whole(list))
		}
	}
}

func TestDebtsAreNewMemory(t *testing.T) {
	for _, list := range debtLists() {
		want := debtCalls(list)
		changing := widened(list, noDebt)
		got := debtCalls(changing)
		fill(changing, noDebt)
		for name := range want {
			if !slices.Equal(got[name], want[name]) {
				t.Fatalf("%s of %v = %v behind a change of the debts, before %v", name, list, got[name], want[name])
			}
		}
		for name := range want {
			got = debtCalls(list)
			made := whole(got[name])
			for other := range want {
				if other != name {
					fill(got[other], noDebt)
				}
			}
			if !slices.Equal(made, whole(got[name])) {
				t.Fatalf("%s of %v shares memory with another result", name, list)
			}
		}
	}
}
