package tests

import (
	"math"
	"slices"
	"testing"

	"loop.example/transitfares/impl"
)

// mustOwe returns DueOf, which must not be for other arguments.
func mustOwe(t *testing.T, r impl.Rules, list []impl.Tap, card int) int {
	t.Helper()
	due := impl.DueOf(r, list, card)
	if due < 0 {
		t.Fatalf("DueOf(%v, %v, %d) = %d", r, list, card, due)
	}
	return due
}

// mustDays returns DueByDay, which has to have an amount for each day.
func mustDays(t *testing.T, r impl.Rules, list []impl.Tap, card int) []int {
	t.Helper()
	days := impl.DueByDay(r, list, card)
	if len(days) != 29 {
		t.Fatalf("DueByDay(%v, %v, %d) = %v", r, list, card, days)
	}
	return days
}

func TestBillsOfSomeTaps(t *testing.T) {
	weekEnd := 6*impl.DayMinutes + impl.DayBegin // day 7 begins there
	for _, c := range []struct {
		name  string
		rules impl.Rules
		list  []impl.Tap
		want  []impl.Bill
	}{
		{"no taps", onRules(30, 900, 3000), nil, nil},
		{"a journey", onRules(30, 900, 3000), []impl.Tap{in(1, 7, 600, 0), out(2, 7, 630, 4)}, []impl.Bill{bill(full(0, 4, 600, 630), 140, 140)}},
		{"a transfer", onRules(30, 900, 3000), []impl.Tap{in(1, 7, 600, 0), out(2, 7, 630, 4), in(3, 7, 660, 4), out(4, 7, 670, 3)}, []impl.Bill{bill(full(0, 4, 600, 630), 140, 140), bill(full(4, 3, 660, 670), 0, 0)}},
		{"no transfer", onRules(30, 900, 3000), []impl.Tap{in(1, 7, 600, 0), out(2, 7, 630, 4), in(3, 7, 661, 4), out(4, 7, 670, 3)}, []impl.Bill{bill(full(0, 4, 600, 630), 140, 140), bill(full(4, 3, 661, 670), 110, 110)}},
		{"window 0", onRules(0, 900, 3000), []impl.Tap{in(1, 7, 600, 0), out(2, 7, 630, 4), in(3, 7, 630, 4), out(4, 7, 670, 3)}, []impl.Bill{bill(full(0, 4, 600, 630), 140, 140), bill(full(4, 3, 630, 670), 0, 0)}},
		{"a half", onRules(30, 900, 3000), []impl.Tap{in(1, 7, 600, 5)}, []impl.Bill{bill(half(5, 600), 900, 900)}},
		{"more than the day cap", onRules(30, 1000, 3000), []impl.Tap{in(1, 7, 600, 5), in(2, 7, 700, 6), in(3, 7, 1800, 6)}, []impl.Bill{bill(half(5, 600), 900, 900), bill(half(6, 700), 900, 100), bill(half(6, 1800), 900, 900)}},
		{"a week that ends", onRules(30, 900, 1000), []impl.Tap{in(1, 7, weekEnd-1500, 5), in(2, 7, weekEnd-1, 5), in(3, 7, weekEnd, 5)}, []impl.Bill{bill(half(5, weekEnd-1500), 900, 900), bill(half(5, weekEnd-1), 900, 100), bill(half(5, weekEnd), 900, 900)}},
		{"a transfer over the end of a week", onRules(30, 130, 130), []impl.Tap{in(1, 7, weekEnd-20, 1), out(2, 7, weekEnd-10, 0), in(3, 7, weekEnd, 0), out(4, 7, weekEnd+5, 4)}, []impl.Bill{bill(full(1, 0, weekEnd-20, weekEnd-10), 110, 110), bill(full(0, 4, weekEnd, weekEnd+5), 30, 30)}},
		{"a journey over the end of a week", onRules(0, 130, 130), []impl.Tap{in(1, 7, weekEnd-20, 4), out(2, 7, weekEnd+5, 0), in(3, 7, weekEnd+9, 0), out(4, 7, weekEnd+10, 0)}, []impl.Bill{bill(full(4, 0, weekEnd-20, weekEnd+5), 140, 130), bill(full(0, 0, weekEnd+9, weekEnd+10), 100, 100)}},
		{"day cap 0", onRules(30, 0, 3000), []impl.Tap{in(1, 7, 600, 0), out(2, 7, 630, 4)}, []impl.Bill{bill(full(0, 4, 600, 630), 140, 0)}},
		{"week cap 0", onRules(30, 900, 0), []impl.Tap{in(1, 7, 600, 5)}, []impl.Bill{bill(half(5, 600), 900, 0)}},
		{"the caps limit what linked prices leave", onRules(30, 150, 3000), []impl.Tap{in(1, 7, 600, 0), out(2, 7, 610, 4), in(3, 7, 620, 4), out(4, 7, 630, 0), in(5, 7, 700, 0), out(6, 7, 710, 0)}, []impl.Bill{bill(full(0, 4, 600, 610), 140, 140), bill(full(4, 0, 620, 630), 0, 0), bill(full(0, 0, 700, 710), 100, 10)}},
		{"another card between", onRules(30, 900, 3000), []impl.Tap{in(1, 7, 600, 0), in(2, 3, 605, 5), out(3, 3, 606, 6), out(4, 7, 630, 4), in(5, 3, 631, 0), in(6, 7, 640, 0), out(7, 7, 650, 0)}, []impl.Bill{bill(full(0, 4, 600, 630), 140, 140), bill(full(0, 0, 640, 650), 0, 0)}},
		{"other cards alone", onRules(30, 900, 3000), []impl.Tap{in(1, 8, 600, 0), out(2, 8, 630, 4)}, nil},
	} {
		if got := impl.BillsOf(c.rules, c.list, 7); !slices.Equal(got, c.want) {
			t.Errorf("%s: BillsOf = %v, want %v", c.name, got, c.want)
		}
		if got, want := impl.DueOf(c.rules, c.list, 7), dueBy(c.want); got != want {
			t.Errorf("%s: DueOf = %d, want %d", c.name, got, want)
		}
	}
}

// The caps of a card are its own.
func TestRevenueOfSomeTaps(t *testing.T) {
	list := []impl.Tap{in(1, 7, 600, 5), in(2, 3, 601, 5), in(3, 7, 700, 5), in(4, 99, 2000, 5), in(5, 7, 2000, 5)}
	for pair, want := range map[[2]int]int{{900, 3000}: 3600, {50000, 50000}: 4500, {1000, 50000}: 3700, {900, 1000}: 2800, {0, 3000}: 0, {900, 0}: 0} {
		r := onRules(30, pair[0], pair[1])
		if got := impl.RevenueOf(r, list); got != want {
			t.Errorf("RevenueOf with the caps %v = %d, want %d", pair, got, want)
		}
	}
	days := make([]int, 29)
	days[1], days[2] = 900, 100
	if got := impl.DueByDay(onRules(30, 900, 1000), list, 7); !slices.Equal(got, days) {
		t.Errorf("DueByDay = %v", got)
	}
}

func TestAccountsOfManyTaps(t *testing.T) {
	for _, x := range accounts() {
		revenue := 0
		for _, card := range slices.Concat(cardsOf(x.list), cardless) {
			want := billsBy(x, card)
			if got := impl.BillsOf(x.rules, x.list, card); !slices.Equal(got, want) {
				t.Fatalf("BillsOf(%v, %d) = %v, want %v", x, card, got, want)
			}
			if got := impl.DueOf(x.rules, x.list, card); got != dueBy(want) {
				t.Fatalf("DueOf(%v, %d) = %d, want %d", x, card, got, dueBy(want))
			}
			var days [29]int
			for _, b := range want {
				days[(b.Journey.Begin+1200)/1440] += b.Amount
			}
			if got := impl.DueByDay(x.rules, x.list, card); !slices.Equal(got, days[:]) {
				t.Fatalf("DueByDay(%v, %d) = %v, want %v", x, card, got, days)
			}
			revenue += dueBy(want)
		}
		if got := impl.RevenueOf(x.rules, x.list); got != revenue {
			t.Fatalf("RevenueOf(%v) = %d, want %d", x, got, revenue)
		}
	}
}

func TestP39BillsAreMadeStepByStep(t *testing.T) {
	for _, x := range accounts() {
		for _, card := range cardsOf(x.list) {
			bills, journeys := impl.BillsOf(x.rules, x.list, card), impl.JourneysOf(x.list, card)
			prices := impl.LinkedPrices(x.rules.Tariff, journeys, x.rules.Window)
			charges := mustCharge(t, journeys, prices)
			amounts := mustCap(t, charges, x.rules.DayCap, x.rules.WeekCap)
			if len(bills) != len(journeys) || len(bills) == 0 {
				t.Fatalf("BillsOf(%v, %d) = %v", x, card, bills)
			}
			for i, b := range bills {
				if want := bill(journeys[i], prices[i], amounts[i]); b != want || b.Amount > b.Price {
					t.Fatalf("BillsOf(%v, %d) has %v, want %v", x, card, b, want)
				}
			}
		}
	}
}

func TestP40WhatIsDueIsTheSumOfTheBills(t *testing.T) {
	for _, x := range accounts() {
		for _, card := range slices.Concat(cardsOf(x.list), cardless) {
			due, bills, days := impl.DueOf(x.rules, x.list, card), impl.BillsOf(x.rules, x.list, card), mustDays(t, x.rules, x.list, card)
			if due != dueBy(bills) || due != sum(days) {
				t.Fatalf("DueOf(%v, %d) = %d, BillsOf %v, DueByDay %v", x, card, due, bills, days)
			}
		}
	}
}

func TestP41LateTapsChangeNothingInTheEnd(t *testing.T) {
	n := &numbers{state: 41}
	for _, x := range accounts() {
		for _, order := range [][]impl.Tap{turned(x.list), mixed(n, x.list), mixed(n, x.list)} {
			late := impl.CollectTaps(order)
			for _, card := range cardsOf(x.list) {
				if got, want := mustOwe(t, x.rules, late, card), dueBy(billsBy(x, card)); got != want {
					t.Fatalf("DueOf(%v, %d) = %d, in the order %v %d", x, card, want, order, got)
				}
			}
		}
	}
}

func TestP42CardsPayForThemselves(t *testing.T) {
	for _, x := range accounts() {
		for _, card := range slices.Concat(cardsOf(x.list), cardless) {
			all, alone := mustOwe(t, x.rules, x.list, card), mustOwe(t, x.rules, impl.CardTaps(x.list, card), card)
			if all != alone {
				t.Fatalf("DueOf(%v, %d) = %d, of the taps of the card alone %d", x, card, all, alone)
			}
		}
	}
}

func TestP43DaysKeepTheirCaps(t *testing.T) {
	for _, x := range accounts() {
		for _, card := range cardsOf(x.list) {
			days := mustDays(t, x.rules, x.list, card)
			var weeks [5]int
			for day, amount := range days {
				weeks[day/7] += amount
				if amount < 0 || amount > x.rules.DayCap || weeks[day/7] > x.rules.WeekCap {
					t.Fatalf("DueByDay(%v, %d) = %v", x, card, days)
				}
			}
		}
	}
}

func TestP20CardsHaveTheirTaps(t *testing.T) {
	for _, list := range tapLists() {
		count := 0
		for _, card := range impl.CardsOf(list) {
			own := impl.CardTaps(list, card)
			if len(own) == 0 {
				t.Fatalf("CardTaps(%v, %d) are none", list, card)
			}
			count += len(own)
		}
		if count != len(list) {
			t.Fatalf("the cards of %v have %d taps", list, count)
		}
	}
}

func TestP44CardsAreToldOnce(t *testing.T) {
	for _, list := range tapLists() {
		got := impl.CardsOf(list)
		for i, card := range got {
			if i > 0 && card <= got[i-1] {
				t.Fatalf("CardsOf(%v) = %v", list, got)
			}
		}
		for _, x := range list {
			if !slices.Contains(got, x.Card) {
				t.Fatalf("CardsOf(%v) = %v, without the card of %v", list, got, x)
			}
		}
		if want := cardsOf(list); !slices.Equal(got, want) {
			t.Fatalf("CardsOf(%v) = %v, want %v", list, got, want)
		}
	}
}

func TestCardsOfSomeTaps(t *testing.T) {
	many := fullTaps()
	for i := range many {
		many[i].Card = 99 - 4*i
	}
	for _, c := range []struct {
		name string
		list []impl.Tap
		want []int
	}{
		{"no taps", nil, nil},
		{"one card", fullTaps(), []int{7}},
		{"cards that fall", []impl.Tap{in(1, 99, 500, 0), in(2, 3, 501, 0), in(3, 0, 502, 0)}, []int{0, 3, 99}},
		{"cards that come again", []impl.Tap{in(1, 9, 500, 0), in(2, 3, 501, 0), out(3, 9, 502, 0), out(4, 3, 503, 0)}, []int{3, 9}},
		{"a card for each tap", many, []int{7, 11, 15, 19, 23, 27, 31, 35, 39, 43, 47, 51, 55, 59, 63, 67, 71, 75, 79, 83, 87, 91, 95, 99}},
	} {
		if got := impl.CardsOf(c.list); !slices.Equal(got, c.want) {
			t.Errorf("%s: CardsOf = %v, want %v", c.name, got, c.want)
		}
	}
}

func TestP142NewCardsAreTold(t *testing.T) {
	n := &numbers{state: 142}
	for _, list := range tapLists() {
		for range 5 {
			x := drawnTap(n, 300)
			x.Card = n.below(impl.MaxCard + 1)
			more, ok := impl.AddTap(list, x)
			if !ok || isNumbered(list, x) {
				continue
			}
			want := append(impl.CardsOf(list), x.Card)
			slices.Sort(want)
			if got := impl.CardsOf(more); !slices.Equal(got, slices.Compact(want)) || !slices.Contains(got, x.Card) {
				t.Fatalf("CardsOf(%v) = %v, behind AddTap of %v %v", list, impl.CardsOf(list), x, got)
			}
		}
	}
}

func TestP45AllPayTogether(t *testing.T) {
	for _, x := range accounts() {
		want := 0
		for card := range impl.MaxCard + 1 {
			want += mustOwe(t, x.rules, x.list, card)
		}
		if got := impl.RevenueOf(x.rules, x.list); got != want {
			t.Fatalf("RevenueOf(%v) = %d, want %d", x, got, want)
		}
		for _, none := range [][]impl.Tap{nil, {}} {
			if got := impl.RevenueOf(x.rules, none); got != 0 {
				t.Fatalf("RevenueOf(%v) without taps = %d", x.rules, got)
			}
		}
	}
}

func TestP46LowerCapsEarnLess(t *testing.T) {
	for _, x := range accounts() {
		revenue, r := impl.RevenueOf(x.rules, x.list), x.rules
		r.DayCap = 0
		if got := impl.RevenueOf(r, x.list); got != 0 {
			t.Fatalf("RevenueOf(%v, %v) = %d", r, x.list, got)
		}
		r.DayCap, r.WeekCap = impl.MaxCap, impl.MaxCap
		if got := impl.RevenueOf(r, x.list); got < revenue || revenue < 0 {
			t.Fatalf("RevenueOf(%v, %v) = %d, with the caps %d and %d %d", r, x.list, got, x.rules.DayCap, x.rules.WeekCap, revenue)
		}
	}
}

func TestP140LongerWindowsCostNoMore(t *testing.T) {
	less := 0
	for _, x := range accounts() {
		longest := x.rules
		longest.Window = impl.MaxWindow
		for _, card := range cardsOf(x.list) {
			due, least := mustOwe(t, x.rules, x.list, card), mustOwe(t, longest, x.list, card)
			if least > due {
				t.Fatalf("DueOf(%v, %d) = %d, with the longest window %d", x, card, due, least)
			}
			if least < due {
				less++
			}
		}
	}
	if less < 30 {
		t.Errorf("only %d cards pay less with the longest window", less)
	}
}

func TestP141WhoDoesNotRideDoesNotPay(t *testing.T) {
	for _, x := range accounts() {
		for _, card := range cardless {
			if got := impl.DueOf(x.rules, x.list, card); got != 0 {
				t.Fatalf("DueOf(%v, %d) = %d", x, card, got)
			}
			if got := impl.BillsOf(x.rules, x.list, card); len(got) != 0 {
				t.Fatalf("BillsOf(%v, %d) = %v", x, card, got)
			}
			if got := mustDays(t, x.rules, x.list, card); slices.Max(got) != 0 || slices.Min(got) != 0 {
				t.Fatalf("DueByDay(%v, %d) = %v", x, card, got)
			}
		}
		for _, card := range []int{0, 7, 99} {
			if got := impl.DueOf(x.rules, nil, card); got != 0 {
				t.Fatalf("DueOf(%v, nil, %d) = %d", x.rules, card, got)
			}
			if got := impl.BillsOf(x.rules, nil, card); len(got) != 0 {
				t.Fatalf("BillsOf(%v, nil, %d) = %v", x.rules, card, got)
			}
		}
	}
}

// checkNoAccount checks that there are no bills for rules and taps that are not valid together.
func checkNoAccount(t *testing.T, name string, r impl.Rules, list []impl.Tap) {
	t.Helper()
	for _, card := range []int{7, 3, 50, -1} {
		if got := impl.BillsOf(r, list, card); got != nil {
			t.Errorf("%s: BillsOf(%v, %d) = %v", name, list, card, got)
		}
		if got := impl.DueOf(r, list, card); got != -1 {
			t.Errorf("%s: DueOf(%v, %d) = %d", name, list, card, got)
		}
		if got := impl.DueByDay(r, list, card); got != nil {
			t.Errorf("%s: DueByDay(%v, %d) = %v", name, list, card, got)
		}
	}
	if got := impl.RevenueOf(r, list); got != -1 {
		t.Errorf("%s: RevenueOf(%v) = %d", name, list, got)
	}
}

func TestAccountsOfInvalidRules(t *testing.T) {
	for name, r := range invalidRules() {
		for _, list := range [][]impl.Tap{nil, {in(1, 7, 600, 0)}, {in(1, 7, 600, 0), out(2, 7, 630, 0)}} {
			checkNoAccount(t, name, r, list)
		}
	}
}

func TestAccountsOfInvalidTaps(t *testing.T) {
	for name, list := range invalidLists() {
		checkNoAccount(t, name, onRules(30, 900, 3000), list)
		if got := impl.CardsOf(list); got != nil {
			t.Errorf("%s: CardsOf = %v", name, got)
		}
	}
}

// A tap at a stop that the tariff does not have leaves no card with bills, not even those that were elsewhere.
func TestAccountsOfTapsAtAbsentStops(t *testing.T) {
	for stops := 1; stops < impl.MaxStops; stops++ {
		r := onRules(30, 900, 3000)
		r.Tariff.Zones = r.Tariff.Zones[:stops]
		good := []impl.Tap{in(1, 7, 600, 0), out(2, 7, 630, stops-1)}
		if got := impl.DueOf(r, good, 7); got < 100 {
			t.Errorf("DueOf at %d stops = %d", stops, got)
		}
		for _, stop := range []int{stops, 9} {
			for _, bad := range []impl.Tap{in(9, 7, 500, stop), out(9, 7, 500, stop), in(9, 3, 610, stop), out(9, 7, 610, stop), in(9, 3, 700, stop)} {
				checkNoAccount(t, "an absent stop", r, sorted(append(good, bad)))
				checkNoAccount(t, "an absent stop alone", r, []impl.Tap{bad})
			}
		}
	}
}

func TestAccountsAtLimits(t *testing.T) {
	r := impl.Rules{Tariff: impl.Tariff{Prices: square(5, 2000), Zones: []int{0, 1, 2, 3, 4, 0, 1, 2, 3, 4}, Peaks: []impl.Band{{From: 0, To: 1440}}, Extra: 100, Top: 4000}, Window: 120, DayCap: 50000, WeekCap: 50000}
	list := fullTaps()
	for i := range list {
		list[i].Out = false
	}
	if got := impl.BillsOf(r, list, 7); len(got) != 24 || got[11].Amount != 4000 || got[12].Amount != 2000 || got[13].Amount != 0 || got[23].Price != 4000 {
		t.Errorf("BillsOf MaxTaps halves = %v", got)
	}
	if got := impl.RevenueOf(r, list); got != 50000 {
		t.Errorf("RevenueOf MaxTaps halves = %d", got)
	}
	checkNoAccount(t, "one tap too many", r, append(list, in(500, 7, 9000, 0)))
	if got := impl.DueOf(r, fullTaps(), 7); got != 4000 {
		t.Errorf("DueOf MaxTaps taps in turns = %d", got)
	}
}

// callAccount calls every function of the chapter, and writes over its results.
func callAccount(r impl.Rules, list []impl.Tap, card int) {
	fill(impl.BillsOf(r, list, card), noBill)
	fill(impl.DueByDay(r, list, card), -9)
	fill(impl.CardsOf(list), -9)
	impl.DueOf(r, list, card)
	impl.RevenueOf(r, list)
}

func TestAccountsChangeNothing(t *testing.T) {
	all := accounts()
	for _, r := range invalidRules() {
		all = append(all, account{r, fullTaps()})
	}
	for _, list := range invalidLists() {
		all = append(all, account{onRules(30, 900, 3000), list})
	}
	for _, x := range all {
		r, list := x.rules, widened(x.list, noTap)
		r.Tariff = spareTariff(r.Tariff)
		numbers, taps := memory(r.Tariff), whole(list)
		for _, card := range []int{0, 7, 99, math.MaxInt} {
			callAccount(r, list, card)
		}
		if !slices.Equal(numbers, memory(r.Tariff)) || !slices.Equal(taps, whole(list)) {
			t.Fatalf("a call changed the arguments %v, or shares memory with them", x)
		}
	}
}

func TestAccountsAreNewMemory(t *testing.T) {
	for _, x := range accounts() {
		for _, card := range []int{0, 7, 99} {
			bills, days := impl.BillsOf(x.rules, x.list, card), impl.DueByDay(x.rules, x.list, card)
			cards := impl.CardsOf(x.list)
			wantBills, wantDays, wantCards := slices.Clone(bills), slices.Clone(days), slices.Clone(cards)
			callAccount(x.rules, x.list, card)
			if !slices.Equal(bills, wantBills) || !slices.Equal(days, wantDays) || !slices.Equal(cards, wantCards) {
				t.Fatalf("results for %v changed with those of later calls", x)
			}
		}
	}
}
