package tests

import (
	"math"
	"slices"
	"testing"

	"loop.example/transitfares/impl"
)

// mustCap returns CapCharges, which has to have an amount for each charge.
func mustCap(t *testing.T, list []impl.Charge, day int, week int) []int {
	t.Helper()
	paid := impl.CapCharges(list, day, week)
	if len(paid) != len(list) {
		t.Fatalf("CapCharges(%v, %d, %d) = %v", list, day, week, paid)
	}
	return paid
}

// mustCharge returns ChargesOf, which has to succeed.
func mustCharge(t *testing.T, list []impl.Journey, amounts []int) []impl.Charge {
	t.Helper()
	charges, ok := impl.ChargesOf(list, amounts)
	if !ok || len(charges) != len(list) {
		t.Fatalf("ChargesOf(%v, %v) = %v, %v", list, amounts, charges, ok)
	}
	return charges
}

// drawnAmounts returns amounts of charges, some of which are the least or the greatest ones.
func drawnAmounts(n *numbers, count int) []int {
	amounts := make([]int, count)
	for i := range amounts {
		amounts[i] = []int{0, n.below(impl.MaxCharge + 1), impl.MaxCharge}[n.below(3)]
	}
	return amounts
}

func TestCapChargesOfSomeCharges(t *testing.T) {
	for _, c := range []struct {
		name      string
		day, week int
		list      []impl.Charge
		want      []int
	}{
		{"none", 900, 3000, nil, nil},
		{"less than the cap", 900, 3000, []impl.Charge{charge(1, 899)}, []int{899}},
		{"as much as the cap", 900, 3000, []impl.Charge{charge(1, 900), charge(1, 1)}, []int{900, 0}},
		{"more than the cap", 900, 3000, []impl.Charge{charge(1, 901)}, []int{900}},
		{"what is left of a day", 900, 3000, []impl.Charge{charge(1, 500), charge(1, 600), charge(1, 600)}, []int{500, 400, 0}},
		{"another day", 900, 3000, []impl.Charge{charge(1, 500), charge(1, 600), charge(2, 600)}, []int{500, 400, 600}},
		{"what is left of a week", 900, 2000, []impl.Charge{charge(1, 900), charge(2, 900), charge(3, 900), charge(4, 900)}, []int{900, 900, 200, 0}},
		{"what is not paid uses up no week", 900, 1000, []impl.Charge{charge(1, 4000), charge(2, 90), charge(2, 90)}, []int{900, 90, 10}},
		{"what is not paid uses up no day", 900, 500, []impl.Charge{charge(6, 700), charge(7, 300), charge(7, 300)}, []int{500, 300, 200}},
		{"a week that ends", 900, 1000, []impl.Charge{charge(5, 900), charge(6, 900), charge(7, 900), charge(8, 900)}, []int{900, 100, 900, 100}},
		{"the last day alone", 900, 1000, []impl.Charge{charge(6, 800), charge(6, 800), charge(7, 800), charge(7, 800)}, []int{800, 100, 800, 100}},
		{"a week in between", 900, 1000, []impl.Charge{charge(0, 900), charge(14, 900), charge(20, 900), charge(21, 900)}, []int{900, 900, 100, 900}},
		{"the last week has one day", 900, 1000, []impl.Charge{charge(27, 900), charge(27, 900), charge(28, 900), charge(28, 900)}, []int{900, 0, 900, 0}},
		{"day cap 0", 0, 50000, []impl.Charge{charge(1, 1), charge(2, 4000)}, []int{0, 0}},
		{"week cap 0", 50000, 0, []impl.Charge{charge(1, 1), charge(8, 4000)}, []int{0, 0}},
		{"both caps 0", 0, 0, []impl.Charge{charge(0, 0), charge(28, 4000)}, []int{0, 0}},
		{"a week less than a day", 900, 300, []impl.Charge{charge(1, 200), charge(1, 200), charge(2, 200)}, []int{200, 100, 0}},
		{"charges of nothing", 900, 1000, []impl.Charge{charge(1, 0), charge(1, 900), charge(1, 0), charge(2, 0)}, []int{0, 900, 0, 0}},
		{"MaxCap for a day", 50000, 50000, slices.Repeat([]impl.Charge{charge(3, 4000)}, 14), append(slices.Repeat([]int{4000}, 12), 2000, 0)},
		{"a charge too small for what is left", 900, 1000, []impl.Charge{charge(1, 899), charge(1, 500), charge(2, 99), charge(2, 2)}, []int{899, 1, 99, 1}},
	} {
		if got := impl.CapCharges(c.list, c.day, c.week); !slices.Equal(got, c.want) {
			t.Errorf("%s: CapCharges = %v, want %v", c.name, got, c.want)
		}
	}
}

func TestCapChargesOfManyCharges(t *testing.T) {
	for _, list := range chargeLists() {
		for _, day := range caps {
			for _, week := range caps {
				if got, want := impl.CapCharges(list, day, week), cappedBy(list, day, week); !slices.Equal(got, want) {
					t.Fatalf("CapCharges(%v, %d, %d) = %v, want %v", list, day, week, got, want)
				}
			}
		}
	}
}

// Two charges are put on each two days, with a week cap that only one of them comes up to.
func TestCapChargesAtEndsOfAllWeeks(t *testing.T) {
	for last := range impl.MaxDay + 1 {
		for first := range last + 1 {
			want := []int{700, 700}
			if first/7 == last/7 {
				want[1] = 300
			}
			if first == last {
				want[1] = 200
			}
			if got := impl.CapCharges([]impl.Charge{charge(first, 700), charge(last, 700)}, 900, 1000); !slices.Equal(got, want) {
				t.Errorf("CapCharges on the days %d and %d = %v, want %v", first, last, got, want)
			}
		}
	}
}

func TestP32CapsAreKept(t *testing.T) {
	for _, list := range chargeLists() {
		for _, day := range caps {
			for _, week := range caps {
				paid := mustCap(t, list, day, week)
				var weeks [5]int
				for i, amount := range totalsOf(list, paid) {
					weeks[i/7] += amount
					if amount > day || weeks[i/7] > week {
						t.Fatalf("CapCharges(%v, %d, %d) = %v", list, day, week, paid)
					}
				}
				for i, amount := range paid {
					if amount < 0 || amount > list[i].Amount {
						t.Fatalf("CapCharges(%v, %d, %d) = %v", list, day, week, paid)
					}
				}
			}
		}
	}
}

func TestP33LaterChargesDoNotMatter(t *testing.T) {
	for _, list := range chargeLists() {
		for _, day := range []int{0, 900, 4000, 50000} {
			for _, week := range []int{0, 1500, 8000, 50000} {
				all := mustCap(t, list, day, week)
				for i := range len(list) + 1 {
					if first := mustCap(t, list[:i], day, week); !slices.Equal(first, all[:i]) {
						t.Fatalf("CapCharges(%v, %d, %d) = %v, of the first %d %v", list, day, week, all, i, first)
					}
				}
			}
		}
	}
}

func TestP34LargeCapsChangeNothing(t *testing.T) {
	large := 0
	for _, list := range chargeLists() {
		amounts := amountsOf(list)
		for _, more := range []int{0, 1, 1000} {
			limit := sum(amounts) + more
			if limit > impl.MaxCap {
				continue
			}
			large++
			for _, pair := range [][2]int{{limit, limit}, {limit, impl.MaxCap}, {impl.MaxCap, limit}} {
				if got := impl.CapCharges(list, pair[0], pair[1]); !slices.Equal(got, amounts) {
					t.Fatalf("CapCharges(%v, %v) = %v", list, pair, got)
				}
			}
		}
	}
	if large < 100 {
		t.Errorf("only %d caps are large", large)
	}
}

func TestP35HigherCapsCostAtLeastAsMuch(t *testing.T) {
	for _, list := range chargeLists() {
		for _, week := range caps {
			least := 0
			for _, day := range caps {
				paid := sum(mustCap(t, list, day, week))
				if paid < least {
					t.Fatalf("CapCharges(%v, %d, %d) have the sum %d, with a lower day cap %d", list, day, week, paid, least)
				}
				least = paid
			}
		}
	}
}

func TestP137WeeksPayWhatTheirDaysMayPay(t *testing.T) {
	for _, list := range chargeLists() {
		for _, day := range caps {
			for _, week := range caps {
				var weeks [5]int
				for i, amount := range totalsOf(list, amountsOf(list)) {
					weeks[i/7] += min(day, amount)
				}
				want := 0
				for _, amount := range weeks {
					want += min(week, amount)
				}
				if got := mustCap(t, list, day, week); sum(got) != want {
					t.Fatalf("CapCharges(%v, %d, %d) = %v, want the sum %d", list, day, week, got, want)
				}
			}
		}
	}
}

func TestDayTotalsOfSomeCharges(t *testing.T) {
	for _, c := range []struct {
		name string
		list []impl.Charge
		want map[int]int
	}{
		{"none", nil, nil},
		{"the first day", []impl.Charge{charge(0, 5)}, map[int]int{0: 5}},
		{"the last day", []impl.Charge{charge(28, 5), charge(28, 6)}, map[int]int{28: 11}},
		{"several days", []impl.Charge{charge(1, 500), charge(1, 600), charge(2, 0), charge(7, 600)}, map[int]int{1: 1100, 7: 600}},
		{"more than any cap", slices.Repeat([]impl.Charge{charge(9, 4000)}, 24), map[int]int{9: 96000}},
	} {
		want := make([]int, 29)
		for day, amount := range c.want {
			want[day] = amount
		}
		if got := impl.DayTotals(c.list); !slices.Equal(got, want) {
			t.Errorf("%s: DayTotals = %v", c.name, got)
		}
	}
}

func TestP36DaysHaveSums(t *testing.T) {
	for _, list := range chargeLists() {
		got, want := impl.DayTotals(list), totalsOf(list, amountsOf(list))
		if len(got) != 29 || !slices.Equal(got, want[:]) || sum(got) != sum(amountsOf(list)) {
			t.Fatalf("DayTotals(%v) = %v", list, got)
		}
	}
}

func TestP138TotalsAddUp(t *testing.T) {
	for _, list := range chargeLists() {
		all := impl.DayTotals(list)
		for i := range len(list) + 1 {
			first, others := impl.DayTotals(list[:i]), impl.DayTotals(list[i:])
			if len(all) != 29 || len(first) != 29 || len(others) != 29 {
				t.Fatalf("DayTotals(%v) = %v, of the first %d %v and of the others %v", list, all, i, first, others)
			}
			for day := range all {
				if first[day]+others[day] != all[day] {
					t.Fatalf("DayTotals(%v) = %v, of the first %d %v and of the others %v", list, all, i, first, others)
				}
			}
		}
	}
}

func TestP37CapsSaveMoney(t *testing.T) {
	for _, list := range chargeLists() {
		for _, day := range caps {
			for _, week := range caps {
				saved, paid := impl.SavedBy(list, day, week), mustCap(t, list, day, week)
				if saved < 0 || saved+sum(paid) != sum(amountsOf(list)) {
					t.Fatalf("SavedBy(%v, %d, %d) = %d, CapCharges %v", list, day, week, saved, paid)
				}
			}
		}
	}
}

func TestP139LowerCapsSaveMore(t *testing.T) {
	for _, list := range chargeLists() {
		for _, day := range caps {
			most := sum(amountsOf(list))
			for _, week := range caps {
				saved := impl.SavedBy(list, day, week)
				if saved > most || saved < 0 {
					t.Fatalf("SavedBy(%v, %d, %d) = %d, with a lower week cap %d", list, day, week, saved, most)
				}
				most = saved
			}
		}
		if got := impl.SavedBy(list, 0, 0); got != sum(amountsOf(list)) {
			t.Fatalf("SavedBy(%v, 0, 0) = %d", list, got)
		}
	}
}

func TestSavedBySomeCaps(t *testing.T) {
	list := []impl.Charge{charge(1, 500), charge(1, 600), charge(2, 600), charge(6, 600), charge(7, 600)}
	for pair, want := range map[[2]int]int{{900, 1500}: 800, {900, 1200}: 1100, {900, 50000}: 200, {50000, 1500}: 800, {1100, 2300}: 0, {1099, 2300}: 1, {1100, 2299}: 1, {0, 0}: 2900, {0, 50000}: 2900, {50000, 0}: 2900, {50000, 50000}: 0} {
		if got := impl.SavedBy(list, pair[0], pair[1]); got != want {
			t.Errorf("SavedBy the caps %v = %d, want %d", pair, got, want)
		}
	}
	if got := impl.SavedBy(nil, 900, 3000); got != 0 {
		t.Errorf("SavedBy without charges = %d", got)
	}
}

// checkNoCaps checks that nothing is paid or saved for charges and caps that are not valid together.
func checkNoCaps(t *testing.T, name string, list []impl.Charge, day int, week int) {
	t.Helper()
	if got := impl.CapCharges(list, day, week); got != nil {
		t.Errorf("%s: CapCharges(%v, %d, %d) = %v", name, list, day, week, got)
	}
	if got := impl.SavedBy(list, day, week); got != -1 {
		t.Errorf("%s: SavedBy(%v, %d, %d) = %d", name, list, day, week, got)
	}
}

func TestCapsOfInvalidCharges(t *testing.T) {
	for name, list := range invalidCharges() {
		for _, day := range []int{-1, 0, 900, 50000, 50001} {
			for _, week := range []int{-1, 0, 900, 50000, 50001} {
				checkNoCaps(t, name, list, day, week)
			}
		}
		if got := impl.DayTotals(list); got != nil {
			t.Errorf("%s: DayTotals = %v", name, got)
		}
	}
}

func TestInvalidCaps(t *testing.T) {
	for _, list := range [][]impl.Charge{nil, {charge(0, 0)}, {charge(1, 500), charge(9, 600)}} {
		for _, bad := range badCaps {
			for _, other := range slices.Concat(caps, badCaps) {
				checkNoCaps(t, "a day", list, bad, other)
				checkNoCaps(t, "a week", list, other, bad)
			}
		}
	}
}

func TestChargesUpToMaxTaps(t *testing.T) {
	list := slices.Repeat([]impl.Charge{charge(28, 4000)}, 25)
	checkNoCaps(t, "one charge too many", list, 900, 3000)
	if got := impl.DayTotals(list); got != nil {
		t.Errorf("DayTotals of 25 charges = %v", got)
	}
	list = list[1:]
	if got := impl.CapCharges(list, 50000, 50000); len(got) != 24 || sum(got) != 50000 {
		t.Errorf("CapCharges of 24 charges = %v", got)
	}
	if got := impl.SavedBy(list, 50000, 50000); got != 46000 {
		t.Errorf("SavedBy of 24 charges = %d", got)
	}
	if got := impl.DayTotals(list); len(got) != 29 || got[28] != 96000 {
		t.Errorf("DayTotals of 24 charges = %v", got)
	}
}

func TestChargesOfSomeJourneys(t *testing.T) {
	weekEnd := 6*impl.DayMinutes + impl.DayBegin // day 7 begins there
	for _, c := range []struct {
		name    string
		list    []impl.Journey
		amounts []int
		want    []impl.Charge
	}{
		{"none", nil, nil, nil},
		{"the first night", []impl.Journey{full(0, 1, 0, 10), full(0, 1, 239, 245), full(0, 1, 245, 250)}, []int{5, 6, 7}, []impl.Charge{charge(0, 5), charge(0, 6), charge(1, 7)}},
		{"by the begin, not the end", []impl.Journey{full(0, 1, 1679, 1700), half(1, 1700)}, []int{4000, 0}, []impl.Charge{charge(1, 4000), charge(2, 0)}},
		{"the last day of a week", []impl.Journey{half(3, weekEnd-1), half(3, weekEnd)}, []int{1, 2}, []impl.Charge{charge(6, 1), charge(7, 2)}},
		{"the last minute", []impl.Journey{half(9, 40319)}, []int{3}, []impl.Charge{charge(28, 3)}},
	} {
		if got, ok := impl.ChargesOf(c.list, c.amounts); !ok || !slices.Equal(got, c.want) {
			t.Errorf("%s: ChargesOf = %v, %v, want %v", c.name, got, ok, c.want)
		}
	}
}

func TestP38ChargesHaveDays(t *testing.T) {
	n := &numbers{state: 38}
	for _, list := range journeyLists() {
		amounts := drawnAmounts(n, len(list))
		got := mustCharge(t, list, amounts)
		for i, c := range got {
			if want := charge((list[i].Begin+1200)/1440, amounts[i]); c != want || i > 0 && c.Day < got[i-1].Day {
				t.Fatalf("ChargesOf(%v, %v) = %v", list, amounts, got)
			}
		}
		mustCap(t, got, 900, 3000)
		if totals := impl.DayTotals(got); len(totals) != 29 {
			t.Fatalf("DayTotals(%v) = %v", got, totals)
		}
	}
}

// checkNoCharges checks that there are no charges of journeys and amounts that are not valid together.
func checkNoCharges(t *testing.T, name string, list []impl.Journey, amounts []int) {
	t.Helper()
	if got, ok := impl.ChargesOf(list, amounts); got != nil || ok {
		t.Errorf("%s: ChargesOf(%v, %v) = %v, %v", name, list, amounts, got, ok)
	}
}

func TestChargesOfInvalidArguments(t *testing.T) {
	for name, list := range invalidJourneyLists() {
		checkNoCharges(t, name, list, make([]int, len(list)))
	}
	n := &numbers{state: 39}
	for _, list := range journeyLists() {
		amounts := drawnAmounts(n, len(list)+1)
		checkNoCharges(t, "an amount too many", list, amounts)
		if len(list) == 0 {
			continue
		}
		checkNoCharges(t, "an amount too few", list, amounts[:len(list)-1])
		for _, bad := range []int{-1, 4001, math.MinInt, math.MaxInt} {
			wrong := amounts[:len(list)]
			at := n.below(len(list))
			wrong[at] = bad
			checkNoCharges(t, "an amount that is not valid", list, wrong)
			wrong[at] = 0
			mustCharge(t, list, wrong)
		}
	}
	checkNoCharges(t, "no amounts", chainOfRides(3), nil)
}

func TestCapsChangeNothing(t *testing.T) {
	lists := chargeLists()
	for _, list := range invalidCharges() {
		lists = append(lists, list)
	}
	for _, list := range lists {
		list = widened(list, noCharge)
		before := whole(list)
		for _, limit := range []int{-1, 0, 900, 50000} {
			writeOverCaps(list, limit)
			impl.SavedBy(list, 900, limit)
		}
		if !slices.Equal(before, whole(list)) {
			t.Fatalf("a call changed %v to %v, or shares memory with it", before, whole(list))
		}
	}
}

// writeOverCaps calls the functions of charges that return numbers, and writes over their results.
func writeOverCaps(list []impl.Charge, day int) {
	fill(impl.CapCharges(list, day, 3000), -9)
	fill(impl.DayTotals(list), -9)
}

func TestCapsAreNewMemory(t *testing.T) {
	for _, list := range chargeLists() {
		paid, totals := impl.CapCharges(list, 900, 3000), impl.DayTotals(list)
		writeOverCaps(list, 900)
		writeOverCaps(slices.Repeat([]impl.Charge{charge(28, 4000)}, impl.MaxTaps), 900)
		if !slices.Equal(paid, cappedBy(list, 900, 3000)) {
			t.Fatalf("CapCharges = %v behind a change of later results", paid)
		}
		if want := totalsOf(list, amountsOf(list)); !slices.Equal(totals, want[:]) {
			t.Fatalf("DayTotals = %v behind a change of later results", totals)
		}
	}
}

func TestChargesChangeNothingAndAreNewMemory(t *testing.T) {
	n := &numbers{state: 40}
	lists := journeyLists()
	for _, list := range invalidJourneyLists() {
		lists = append(lists, list)
	}
	for _, list := range lists {
		list, amounts := widened(list, noJourney), spare(drawnAmounts(n, len(list)))
		journeys, numbers := whole(list), whole(amounts)
		got, _ := impl.ChargesOf(list, amounts)
		want := slices.Clone(got)
		again, _ := impl.ChargesOf(list, amounts)
		fill(again, noCharge)
		if !slices.Equal(got, want) {
			t.Fatalf("ChargesOf = %v behind a change of a later result, before %v", got, want)
		}
		if !slices.Equal(journeys, whole(list)) || !slices.Equal(numbers, whole(amounts)) {
			t.Fatalf("ChargesOf changed %v or %v", journeys, numbers)
		}
	}
}
