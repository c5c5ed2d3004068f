package tests

import (
	"math"
	"slices"
	"testing"

	"loop.example/transitfares/impl"
)

// steps are some that are valid: the least and the greatest ones, and ones that prices come up to or not.
var steps = []int{1, 2, 3, 5, 7, 10, 25, 49, 50}

// mustReduce returns Reduced, which must not be for other arguments.
func mustReduce(t *testing.T, price int, discount int, step int) int {
	t.Helper()
	got := impl.Reduced(price, discount, step)
	if got < 0 {
		t.Fatalf("Reduced(%d, %d, %d) = %d", price, discount, step, got)
	}
	return got
}

// The stops 0 and 4 of the city are in zone 0, 1 and 2 in zone 1, and 3 and 5 in zone 2.
func TestPassCoversSomeJourneys(t *testing.T) {
	day3 := 2*impl.DayMinutes + impl.DayBegin
	morning := full(0, 3, day3+200, day3+230)
	for _, c := range []struct {
		name    string
		pass    impl.Pass
		journey impl.Journey
		want    bool
	}{
		{"the day alone", pass(3, 3, 0, 2), morning, true},
		{"from the day on", pass(3, 28, 0, 2), morning, true},
		{"up to the day", pass(0, 3, 0, 2), morning, true},
		{"from the day after on", pass(4, 28, 0, 2), morning, false},
		{"up to the day before", pass(0, 2, 0, 2), morning, false},
		{"the day before alone", pass(2, 2, 0, 2), morning, false},
		{"the day after alone", pass(4, 4, 0, 2), morning, false},
		{"around the day", pass(2, 4, 0, 2), morning, true},
		{"all days and zones", widest(), morning, true},
		{"the first minute of the day", pass(3, 3, 0, 2), full(0, 3, day3, day3+30), true},
		{"the last minute of the day before", pass(3, 3, 0, 2), full(0, 3, day3-1, day3+30), false},
		{"from the day before into the day", pass(2, 2, 0, 2), full(0, 3, day3-1, day3+30), true},
		{"the first night", pass(0, 0, 0, 2), full(0, 3, 239, 300), true},
		{"behind the first night", pass(0, 0, 0, 2), full(0, 3, 240, 300), false},
		{"the first minute", pass(0, 0, 0, 2), full(0, 3, 0, 0), true},
		{"the last minute", pass(28, 28, 0, 2), full(0, 3, 40319, 40319), true},
		{"no zones", pass(0, 28), morning, false},
		{"empty zones", impl.Pass{To: 28, Zones: []int{}}, morning, false},
		{"no zones, within a zone", pass(0, 28), full(0, 0, 600, 610), false},
		{"the zone of the first stop alone", pass(0, 28, 0), morning, false},
		{"the zone of the last stop alone", pass(0, 28, 2), morning, false},
		{"the zone between alone", pass(0, 28, 1), morning, false},
		{"the zone of the first stop and the one between", pass(0, 28, 0, 1), morning, false},
		{"the zone of the last stop and the one between", pass(0, 28, 1, 2), morning, false},
		{"both zones and the one between", pass(0, 28, 0, 1, 2), morning, true},
		{"zones that the tariff does not have", pass(0, 28, 3, 4), morning, false},
		{"both zones and one that the tariff does not have", pass(0, 28, 0, 2, 4), morning, true},
		{"within a zone", pass(0, 28, 1), full(1, 2, 600, 610), true},
		{"within another zone", pass(0, 28, 0, 2), full(1, 2, 600, 610), false},
		{"stops are not zones", pass(0, 28, 3, 4), full(3, 4, 600, 610), false},
		{"a stop whose number no zone has", pass(0, 28, 2), full(5, 3, 600, 610), true},
		{"a half", widest(), half(0, day3+200), false},
		{"a half with the same values as a journey", widest(), half(0, 600), false},
		{"a journey without minutes at one stop", widest(), full(0, 0, 600, 600), true},
		{"the zero value", impl.Pass{}, full(0, 0, 0, 0), false},
		{"a journey of MaxRide", widest(), full(0, 3, 600, 780), true},
	} {
		if got := impl.PassCovers(city(), c.pass, c.journey); got != c.want {
			t.Errorf("%s: PassCovers(%v, %v) = %v", c.name, c.pass, c.journey, got)
		}
		want := []impl.Journey{c.journey}
		if c.want {
			want = nil
		}
		if got := impl.NotCovered(city(), []impl.Pass{c.pass}, []impl.Journey{c.journey}); !slices.Equal(got, want) {
			t.Errorf("%s: NotCovered = %v, want %v", c.name, got, want)
		}
	}
}

// Each set of zones is held against a journey from each zone to each zone, with days around that of the journey.
func TestPassCoversAllZones(t *testing.T) {
	for bits := range 32 {
		var zones []int
		for zone := range 5 {
			if bits>>zone&1 == 1 {
				zones = append(zones, zone)
			}
		}
		for from := range 10 {
			for to := range 10 {
				for _, p := range []impl.Pass{pass(3, 3, zones...), pass(2, 2, zones...), pass(4, 4, zones...), pass(2, 4, zones...)} {
					j := full(from, to, 4000, 4100)
					if got, want := impl.PassCovers(line(), p, j), coversBy(line(), p, j); got != want {
						t.Fatalf("PassCovers(%v, %v) = %v", p, j, got)
					}
				}
			}
		}
	}
}

// A journey on each day is held against passes of all days.
func TestPassCoversAllDays(t *testing.T) {
	for day := range 29 {
		begin := max(0, (day-1)*impl.DayMinutes+impl.DayBegin)
		end := min(impl.MaxMinute, day*impl.DayMinutes+impl.DayBegin-1)
		for _, j := range []impl.Journey{full(0, 9, begin, begin+10), full(0, 9, end, end)} {
			for from := range 29 {
				for to := from; to < 29; to++ {
					if got := impl.PassCovers(line(), pass(from, to, 0), j); got != (from <= day && day <= to) {
						t.Fatalf("PassCovers on the days %d to %d of %v on day %d = %v", from, to, j, day, got)
					}
				}
			}
		}
	}
}

func TestP47PassesCoverDaysAndZones(t *testing.T) {
	covered := 0
	for _, x := range holders() {
		for _, p := range append(x.passes, widest()) {
			for _, j := range x.list {
				got := impl.PassCovers(x.tariff, p, j)
				if got != coversBy(x.tariff, p, j) {
					t.Fatalf("PassCovers(%v, %v, %v) = %v", x.tariff, p, j, got)
				}
				if !got {
					continue
				}
				covered++
				all := widest()
				for _, wide := range []impl.Pass{all, pass(p.From, p.To, all.Zones...), pass(0, 28, p.Zones...)} {
					if !j.Full || !impl.PassCovers(x.tariff, wide, j) {
						t.Fatalf("%v covers %v, and %v does not", p, j, wide)
					}
				}
			}
		}
	}
	if covered < 1000 {
		t.Errorf("only %d journeys are covered", covered)
	}
}

func TestP47HalvesAreNeverCovered(t *testing.T) {
	for _, x := range holders() {
		for _, p := range append(x.passes, widest()) {
			for _, j := range x.list {
				if impl.PassCovers(x.tariff, p, half(j.From, j.Begin)) {
					t.Fatalf("PassCovers(%v, %v) covers a half at %v", x.tariff, p, j)
				}
			}
		}
	}
}

func TestP48PassesCoverBothDirections(t *testing.T) {
	for _, x := range holders() {
		for _, p := range append(x.passes, widest()) {
			for _, j := range x.list {
				back := j
				back.From, back.To = j.To, j.From
				if there, again := impl.PassCovers(x.tariff, p, j), impl.PassCovers(x.tariff, p, back); there != again || there != coversBy(x.tariff, p, back) {
					t.Fatalf("PassCovers(%v, %v) of %v = %v, and of the way back %v", x.tariff, p, j, there, again)
				}
			}
		}
	}
}

func TestP143PassesEnd(t *testing.T) {
	checked := 0
	for _, x := range holders() {
		for _, p := range append(x.passes, widest()) {
			for _, j := range x.list {
				if !impl.PassCovers(x.tariff, p, j) {
					continue
				}
				day := impl.ServiceDay(j.Begin)
				for _, other := range []impl.Pass{pass(min(p.From, day-1), day-1, p.Zones...), pass(day+1, max(p.To, day+1), p.Zones...)} {
					checked++
					if impl.PassCovers(x.tariff, other, j) {
						t.Fatalf("%v covers %v, which is on day %d", other, j, day)
					}
				}
				for _, own := range []impl.Pass{pass(p.From, day, p.Zones...), pass(day, p.To, p.Zones...), pass(day, day, p.Zones...)} {
					if !impl.PassCovers(x.tariff, own, j) {
						t.Fatalf("%v does not cover %v, which is on day %d", own, j, day)
					}
				}
			}
		}
	}
	if checked < 1000 {
		t.Errorf("only %d passes were checked", checked)
	}
}

func TestP49WhatIsNotCoveredIsPaid(t *testing.T) {
	left := 0
	for _, x := range holders() {
		got := impl.NotCovered(x.tariff, x.passes, x.list)
		var want []impl.Journey
		for _, j := range x.list {
			if !slices.ContainsFunc(x.passes, func(p impl.Pass) bool { return impl.PassCovers(x.tariff, p, j) }) {
				want = append(want, j)
			}
		}
		if !slices.Equal(got, want) || !slices.Equal(got, openBy(x)) {
			t.Fatalf("NotCovered(%v) = %v, want %v", x, got, want)
		}
		if len(x.passes) > 0 && len(got) > 0 && len(got) < len(x.list) {
			left++
		}
	}
	if left < 200 {
		t.Errorf("only %d holders have journeys of both kinds", left)
	}
}

func TestP50MorePassesCoverMore(t *testing.T) {
	n := &numbers{state: 50}
	fewer := 0
	for _, x := range holders() {
		for _, none := range [][]impl.Pass{nil, {}} {
			if got := impl.NotCovered(x.tariff, none, x.list); !slices.Equal(got, x.list) {
				t.Fatalf("NotCovered(%v, %v) without passes = %v", x.tariff, x.list, got)
			}
		}
		before := x.list
		for i := range impl.MaxPasses {
			passes := slices.Clone(x.passes[:min(i, len(x.passes))])
			for len(passes) <= i {
				passes = append(passes, drawnPass(n, x.list))
			}
			x.passes = passes
			got := impl.NotCovered(x.tariff, passes, x.list)
			if !slices.Equal(got, openBy(x)) || slices.ContainsFunc(got, func(j impl.Journey) bool { return !slices.Contains(before, j) }) {
				t.Fatalf("NotCovered(%v) = %v, with a pass less %v", x, got, before)
			}
			if len(got) < len(before) {
				fewer++
			}
			before = got
		}
	}
	if fewer < 500 {
		t.Errorf("only %d passes cover more", fewer)
	}
}

// One pass of several covers each journey, whichever place it has.
func TestNotCoveredByOneOfSeveralPasses(t *testing.T) {
	j, other := full(0, 9, 4000, 4100), full(0, 9, 9000, 9100)
	for count := 1; count <= 4; count++ {
		for place := range count {
			passes := slices.Repeat([]impl.Pass{pass(20, 25, 4)}, count)
			passes[place] = pass(3, 3, 0)
			if got := impl.NotCovered(line(), passes, []impl.Journey{j, half(1, 5000), other}); !slices.Equal(got, []impl.Journey{half(1, 5000), other}) {
				t.Errorf("NotCovered with %v = %v", passes, got)
			}
		}
	}
}

// Zones and days of different passes do not add up.
func TestNotCoveredByPassesTogether(t *testing.T) {
	j := full(0, 4, 4000, 4100)
	passes := []impl.Pass{pass(3, 3, 0), pass(3, 3, 4), pass(2, 2, 0, 4), pass(4, 4, 0, 4)}
	if got := impl.NotCovered(line(), passes, []impl.Journey{j}); !slices.Equal(got, []impl.Journey{j}) {
		t.Errorf("NotCovered with %v = %v", passes, got)
	}
}

func TestNotCoveredUpToMaxPasses(t *testing.T) {
	list := []impl.Journey{half(0, 600), full(0, 9, 4000, 4100)}
	for count := range 5 {
		want := list
		if count > 0 {
			want = list[:1]
		}
		if got := impl.NotCovered(line(), slices.Repeat([]impl.Pass{widest()}, count), list); !slices.Equal(got, want) {
			t.Errorf("NotCovered with %d passes = %v", count, got)
		}
	}
	for _, count := range []int{5, 6, 100} {
		for _, p := range []impl.Pass{widest(), {}} {
			if got := impl.NotCovered(line(), slices.Repeat([]impl.Pass{p}, count), list); got != nil {
				t.Errorf("NotCovered with %d passes = %v", count, got)
			}
		}
	}
}

func TestNotCoveredUpToMaxTaps(t *testing.T) {
	list := chainOfRides(impl.MaxTaps + 1)
	if got := impl.NotCovered(line(), nil, list[:24]); !slices.Equal(got, list[:24]) {
		t.Errorf("NotCovered of 24 journeys = %v", got)
	}
	if got := impl.NotCovered(line(), nil, list); got != nil {
		t.Errorf("NotCovered of 25 journeys = %v", got)
	}
}

// The journeys have a half among them, so that something would be left if the passes were valid.
func TestInvalidPassesCoverNothing(t *testing.T) {
	j := full(0, 9, 4000, 4100)
	list := []impl.Journey{half(0, 600), j}
	for name, p := range invalidPasses() {
		for _, one := range []impl.Journey{j, full(3, 4, 600, 610), full(0, 0, 0, 0), full(9, 9, 40319, 40319)} {
			if impl.PassCovers(line(), p, one) {
				t.Errorf("%s: PassCovers(%v, %v) = true", name, p, one)
			}
		}
		for _, passes := range [][]impl.Pass{{p}, {p, widest()}, {widest(), p}, {widest(), p, widest()}, {{}, {}, {}, p}} {
			for _, journeys := range [][]impl.Journey{nil, list} {
				if got := impl.NotCovered(line(), passes, journeys); got != nil {
					t.Errorf("%s: NotCovered(%v, %v) = %v", name, passes, journeys, got)
				}
			}
		}
	}
}

// checkNotPassed checks that nothing is covered or left for a tariff and journeys that are not valid together.
func checkNotPassed(t *testing.T, name string, a impl.Tariff, list []impl.Journey) {
	t.Helper()
	for _, passes := range [][]impl.Pass{nil, {widest()}, {pass(0, 0)}} {
		if got := impl.NotCovered(a, passes, list); got != nil {
			t.Errorf("%s: NotCovered(%v, %v) = %v", name, passes, list, got)
		}
	}
}

func TestPassesOfInvalidTariffs(t *testing.T) {
	for name, a := range invalidTariffs() {
		checkNotPassed(t, name, a, nil)
		for _, j := range []impl.Journey{full(0, 0, 600, 610), full(0, 1, 600, 610), full(9, 9, 600, 610), half(0, 600)} {
			checkNotPassed(t, name, a, []impl.Journey{j})
			if impl.PassCovers(a, widest(), j) {
				t.Errorf("%s: PassCovers of %v = true", name, j)
			}
		}
	}
}

func TestPassesOfInvalidJourneys(t *testing.T) {
	for name, list := range invalidJourneyLists() {
		checkNotPassed(t, name, line(), list)
	}
	for name, j := range invalidJourneys() {
		for _, j.Full = range []bool{j.Full, false} {
			if impl.PassCovers(line(), widest(), j) {
				t.Errorf("%s: PassCovers of %v = true", name, j)
			}
		}
	}
}

// The journeys are valid, but the tariff has fewer stops.
func TestPassesOfJourneysAtAbsentStops(t *testing.T) {
	for stops := 1; stops < impl.MaxStops; stops++ {
		a := line()
		a.Zones = a.Zones[:stops]
		good, last := full(0, stops-1, 500, 510), full(stops-1, 0, 700, 710)
		if !impl.PassCovers(a, widest(), good) || !impl.PassCovers(a, widest(), last) {
			t.Errorf("PassCovers at %d stops = false", stops)
		}
		for _, bad := range []impl.Journey{full(0, stops, 600, 610), full(stops, 0, 600, 610), full(9, 9, 600, 610), half(stops, 600), half(9, 600)} {
			if impl.PassCovers(a, widest(), bad) {
				t.Errorf("PassCovers of %v at %d stops = true", bad, stops)
			}
			for _, list := range [][]impl.Journey{{bad}, {good, bad}, {bad, last}, {good, bad, last}} {
				checkNotPassed(t, "an absent stop", a, list)
			}
		}
	}
}

func TestReducedOfSomePrices(t *testing.T) {
	for _, c := range []struct {
		price, discount, step, want int
	}{
		{0, 0, 1, 0},
		{0, 50, 50, 0},
		{333, 0, 1, 333},
		{333, 0, 5, 335},
		{335, 0, 5, 335},
		{336, 0, 5, 340},
		{333, 50, 1, 167},
		{334, 50, 1, 167},
		{335, 50, 1, 168},
		{333, 50, 5, 170},
		{340, 50, 5, 170},
		{341, 50, 5, 175},
		{300, 25, 1, 225},
		{300, 25, 25, 225},
		{300, 25, 50, 250},
		{1, 0, 50, 50},
		{1, 99, 1, 1},
		{1, 99, 50, 50},
		{1, 100, 50, 0},
		{50, 0, 50, 50},
		{51, 0, 50, 100},
		{100, 99, 1, 1},
		{101, 99, 1, 2},
		{4000, 0, 1, 4000},
		{4000, 0, 50, 4000},
		{4000, 0, 49, 4018},
		{3999, 1, 50, 4000},
		{4000, 99, 50, 50},
		{4000, 100, 1, 0},
		{4000, 100, 50, 0},
	} {
		if got := impl.Reduced(c.price, c.discount, c.step); got != c.want {
			t.Errorf("Reduced(%d, %d, %d) = %d, want %d", c.price, c.discount, c.step, got, c.want)
		}
	}
}

func TestP51DiscountsAreRoundedUp(t *testing.T) {
	for price := range impl.MaxCharge + 1 {
		for discount := range 101 {
			for _, step := range steps {
				got, exact := impl.Reduced(price, discount, step), price*(100-discount) // hundred times as much
				if got%step != 0 || got*100 < exact || (got-step)*100 >= exact {
					t.Fatalf("Reduced(%d, %d, %d) = %d", price, discount, step, got)
				}
			}
		}
	}
}

func TestP52GreaterDiscountsCostLess(t *testing.T) {
	for price := range impl.MaxCharge + 1 {
		if got := impl.Reduced(price, 0, 1); got != price {
			t.Fatalf("Reduced(%d, 0, 1) = %d", price, got)
		}
		for step := 1; step <= impl.MaxStep; step++ {
			if got := impl.Reduced(price, 100, step); got != 0 {
				t.Fatalf("Reduced(%d, 100, %d) = %d", price, step, got)
			}
		}
		for _, step := range steps {
			before := mustReduce(t, price, 0, step)
			for discount := 1; discount <= 100; discount++ {
				got := mustReduce(t, price, discount, step)
				if got > before {
					t.Fatalf("Reduced(%d, %d, %d) = %d, with 1 percent less %d", price, discount, step, got, before)
				}
				before = got
			}
		}
	}
}

func TestP144RoundingUpCostsMore(t *testing.T) {
	for price := 0; price <= impl.MaxCharge; price += 7 {
		for discount := range 101 {
			least := mustReduce(t, price, discount, 1)
			for step := 1; step <= impl.MaxStep; step++ {
				up := least
				for up%step != 0 {
					up++
				}
				if got := impl.Reduced(price, discount, step); got != up || got < least {
					t.Fatalf("Reduced(%d, %d, %d) = %d, with the step 1 %d", price, discount, step, got, least)
				}
			}
		}
	}
}

// Amounts that are a multiple of the step already stay as they are.
func TestReducedOfMultiples(t *testing.T) {
	for step := 1; step <= impl.MaxStep; step++ {
		for price := 0; price <= impl.MaxCharge; price += step {
			if got := impl.Reduced(price, 0, step); got != price {
				t.Fatalf("Reduced(%d, 0, %d) = %d", price, step, got)
			}
			if got := impl.Reduced(2*price, 50, step); 2*price <= impl.MaxCharge && got != price {
				t.Fatalf("Reduced(%d, 50, %d) = %d", 2*price, step, got)
			}
			if got := impl.Reduced(price+1, 0, step); price < impl.MaxCharge && got != price+step {
				t.Fatalf("Reduced(%d, 0, %d) = %d", price+1, step, got)
			}
		}
	}
}

func TestReducedOfInvalidArguments(t *testing.T) {
	for _, c := range [][3]int{
		{-1, 50, 5}, {4001, 50, 5}, {math.MinInt, 50, 5}, {math.MaxInt, 50, 5}, {-1, 100, 1}, {4001, 100, 1},
		{300, -1, 5}, {300, 101, 5}, {300, math.MinInt, 5}, {300, math.MaxInt, 5}, {0, -1, 1}, {0, 101, 1},
		{300, 50, 0}, {300, 50, -1}, {300, 50, 51}, {300, 50, math.MinInt}, {300, 50, math.MaxInt}, {0, 0, 0}, {0, 100, 51},
		{-1, -1, -1}, {4001, 101, 51}, {-1, 50, 0}, {-1, 101, 5},
	} {
		if got := impl.Reduced(c[0], c[1], c[2]); got != -1 {
			t.Errorf("Reduced(%d, %d, %d) = %d", c[0], c[1], c[2], got)
		}
	}
}

func TestPassesChangeNothing(t *testing.T) {
	all := holders()
	for _, a := range invalidTariffs() {
		all = append(all, holder{trip{a, chainOfRides(3)}, []impl.Pass{widest()}})
	}
	for _, list := range invalidJourneyLists() {
		all = append(all, holder{trip{line(), list}, []impl.Pass{widest()}})
	}
	for _, p := range invalidPasses() {
		all = append(all, holder{onLine(chainOfRides(3)...), []impl.Pass{pass(1, 2, 0), p}})
	}
	for _, x := range all {
		a, passes, list := spareTariff(x.tariff), sparePasses(x.passes), widened(x.list, noJourney)
		numbers, before, journeys := memory(a), passMemory(passes), whole(list)
		for _, p := range passes {
			for _, j := range list {
				impl.PassCovers(a, p, j)
			}
		}
		fill(impl.NotCovered(a, passes, list), noJourney)
		fill(impl.NotCovered(a, nil, list), noJourney)
		if !slices.Equal(numbers, memory(a)) || !slices.Equal(before, passMemory(passes)) || !slices.Equal(journeys, whole(list)) {
			t.Fatalf("a call changed the arguments %v, or shares memory with them", x)
		}
	}
}

func TestNotCoveredIsNewMemory(t *testing.T) {
	for _, x := range holders() {
		list := widened(x.list, noJourney)
		got := impl.NotCovered(x.tariff, x.passes, list)
		fill(list, noJourney)
		fill(impl.NotCovered(x.tariff, x.passes, x.list), noJourney)
		if want := openBy(x); !slices.Equal(got, want) {
			t.Fatalf("NotCovered(%v) = %v behind changes of the journeys and of a later result, want %v", x, got, want)
		}
	}
}
