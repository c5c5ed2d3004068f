package tests

import (
	"math"
	"slices"
	"testing"

	"loop.example/transitfares/impl"
)

// windows are some that are valid: the least and the greatest ones, and ones around them.
var windows = []int{0, 1, 2, 29, 30, 31, 60, 119, 120}

// badWindows are windows that are not valid.
var badWindows = []int{-1, 121, math.MinInt, math.MaxInt}

// onLine returns journeys of the line with a tariff for them.
func onLine(list ...impl.Journey) trip {
	return trip{line(), list}
}

func TestPricesOfSomeJourneys(t *testing.T) {
	day := impl.DayMinutes // a workday; the peaks of the city lie on it
	for _, c := range []struct {
		name string
		list []impl.Journey
		want []int
	}{
		{"none", nil, nil},
		{"in a zone", []impl.Journey{full(1, 2, 600, 630)}, []int{150}},
		{"to another zone, and back", []impl.Journey{full(0, 3, 600, 630), full(3, 0, 630, 640)}, []int{455, 470}},
		{"a half", []impl.Journey{half(5, 600)}, []int{700}},
		{"a half in the peak", []impl.Journey{half(5, day+450)}, []int{700}},
		{"into the peak", []impl.Journey{full(0, 3, day+419, day+500)}, []int{455}},
		{"out of the peak", []impl.Journey{full(0, 3, day+539, day+600)}, []int{605}},
		{"where there is no peak any more", []impl.Journey{full(0, 3, day+540, day+600)}, []int{455}},
		{"halves between", []impl.Journey{half(0, 500), full(3, 5, 600, 600), half(0, 600), full(4, 4, 600, 780)}, []int{700, 0, 700, 199}},
	} {
		if got := impl.PricesOf(city(), c.list); !slices.Equal(got, c.want) {
			t.Errorf("%s: PricesOf = %v, want %v", c.name, got, c.want)
		}
	}
}

func TestP27JourneysThatAreNotCompleteCostTop(t *testing.T) {
	for _, x := range trips() {
		got := impl.PricesOf(x.tariff, x.list)
		if want := pricesBy(x); !slices.Equal(got, want) {
			t.Fatalf("PricesOf(%v) = %v, want %v", x, got, want)
		}
		for i, j := range x.list {
			want := x.tariff.Top
			if j.Full {
				want = impl.FareOf(x.tariff, j.From, j.To, j.Begin)
			}
			if got[i] != want {
				t.Fatalf("PricesOf(%v) has %d for %v, want %d", x, got[i], j, want)
			}
		}
	}
}

func TestP134TopIsForHalvesAlone(t *testing.T) {
	for _, x := range trips() {
		before := impl.PricesOf(x.tariff, x.list)
		x.tariff.Top = (x.tariff.Top + 1) % (2*impl.MaxPrice + 1)
		behind := impl.PricesOf(x.tariff, x.list)
		if len(before) != len(x.list) || len(behind) != len(x.list) {
			t.Fatalf("PricesOf(%v) = %v, with another Top %v", x, before, behind)
		}
		for i, j := range x.list {
			if (before[i] != behind[i]) == j.Full {
				t.Fatalf("PricesOf(%v) has %d for %v, with another Top %d", x, before[i], j, behind[i])
			}
		}
	}
}

func TestLinkedPricesOfSomeJourneys(t *testing.T) {
	for _, c := range []struct {
		name   string
		window int
		trip   trip
		want   []int
	}{
		{"none", 30, onLine(), nil},
		{"one", 30, onLine(full(0, 1, 600, 610)), []int{110}},
		{"a half", 30, onLine(half(0, 600)), []int{900}},
		{"just within the window", 30, onLine(full(0, 0, 600, 610), full(0, 4, 640, 650)), []int{100, 40}},
		{"a minute later", 30, onLine(full(0, 0, 600, 610), full(0, 4, 641, 650)), []int{100, 140}},
		{"window 0, without a minute between", 0, onLine(full(0, 0, 600, 610), full(0, 4, 610, 650)), []int{100, 40}},
		{"window 0, a minute later", 0, onLine(full(0, 0, 600, 610), full(0, 4, 611, 650)), []int{100, 140}},
		{"window 0, journeys without minutes", 0, onLine(full(0, 0, 600, 600), full(0, 1, 600, 600), full(0, 0, 600, 600)), []int{100, 10, 0}},
		{"MaxWindow", 120, onLine(full(0, 0, 600, 610), full(0, 4, 730, 750)), []int{100, 40}},
		{"a minute behind MaxWindow", 120, onLine(full(0, 0, 600, 610), full(0, 4, 731, 750)), []int{100, 140}},
		{"the window counts from the end", 30, onLine(full(0, 0, 600, 700), full(0, 4, 720, 880), full(0, 4, 910, 911)), []int{100, 40, 0}},
		{"cheaper ones", 30, onLine(full(0, 4, 600, 610), full(0, 3, 620, 630), full(0, 2, 640, 650)), []int{140, 0, 0}},
		{"dearer ones", 30, onLine(full(0, 2, 600, 610), full(0, 3, 620, 630), full(0, 4, 640, 650)), []int{120, 10, 10}},
		{"cheaper and dearer ones", 30, onLine(full(0, 2, 600, 610), full(0, 0, 620, 630), full(0, 3, 640, 650), full(0, 1, 655, 656), full(0, 4, 660, 665)), []int{120, 0, 10, 0, 10}},
		{"as dear ones", 30, onLine(full(0, 2, 600, 610), full(2, 0, 620, 630), full(7, 9, 640, 650)), []int{120, 0, 0}},
		{"a new beginning", 30, onLine(full(0, 4, 600, 610), full(0, 3, 641, 650), full(0, 4, 660, 670)), []int{140, 130, 10}},
		{"a half between", 30, onLine(full(0, 4, 600, 610), half(2, 615), full(0, 4, 620, 630)), []int{140, 900, 140}},
		{"a half between without a minute", 30, onLine(full(0, 4, 600, 610), half(2, 610), full(0, 4, 610, 630)), []int{140, 900, 140}},
		{"behind a half", 30, onLine(half(2, 600), full(0, 4, 600, 610), full(0, 4, 610, 630)), []int{900, 140, 0}},
		{"halves alone", 120, onLine(half(2, 600), half(2, 600), half(2, 601)), []int{900, 900, 900}},
		{"over the night", 30, onLine(full(0, 2, 1600, 1670), full(0, 4, 1690, 1700)), []int{120, 20}},
	} {
		if got := impl.LinkedPrices(c.trip.tariff, c.trip.list, c.window); !slices.Equal(got, c.want) {
			t.Errorf("%s: LinkedPrices = %v, want %v", c.name, got, c.want)
		}
	}
}

// The price of each journey is that of its own begin, also where journeys belong together.
func TestLinkedPricesInPeaks(t *testing.T) {
	day := impl.DayMinutes
	list := []impl.Journey{full(0, 3, day+400, day+419), full(0, 3, day+420, day+430), full(0, 3, day+535, day+560), full(0, 3, day+561, day+570)}
	for window, want := range map[int][]int{0: {455, 605, 605, 455}, 1: {455, 150, 605, 0}, 104: {455, 150, 605, 0}, 105: {455, 150, 0, 0}} {
		if got := impl.LinkedPrices(city(), list, window); !slices.Equal(got, want) {
			t.Errorf("LinkedPrices with the window %d = %v, want %v", window, got, want)
		}
	}
}

func TestLinkedPricesOfManyJourneys(t *testing.T) {
	for _, x := range trips() {
		for _, window := range windows {
			if got, want := impl.LinkedPrices(x.tariff, x.list, window), linkedBy(x, window); !slices.Equal(got, want) {
				t.Fatalf("LinkedPrices(%v, %d) = %v, want %v", x, window, got, want)
			}
			if got, want := impl.TransferCount(x.list, window), transfersBy(x.list, window); got != want {
				t.Fatalf("TransferCount(%v, %d) = %d, want %d", x.list, window, got, want)
			}
		}
	}
}

// Two journeys are put at each distance from each other, at every window.
func TestLinkedPricesAtEndsOfAllWindows(t *testing.T) {
	for window := range 121 {
		for gap := range 125 {
			list := []impl.Journey{full(0, 0, 600, 610), full(0, 4, 610+gap, 620+gap)}
			paid, count := []int{100, 140}, 0
			if gap <= window {
				paid, count = []int{100, 40}, 1
			}
			if got := impl.LinkedPrices(line(), list, window); !slices.Equal(got, paid) {
				t.Fatalf("LinkedPrices of journeys %d minutes apart with the window %d = %v", gap, window, got)
			}
			if got := impl.TransferCount(list, window); got != count {
				t.Fatalf("TransferCount of journeys %d minutes apart with the window %d = %d", gap, window, got)
			}
		}
	}
}

func TestP28TransfersNeverCostMore(t *testing.T) {
	for _, x := range trips() {
		prices := impl.PricesOf(x.tariff, x.list)
		for _, window := range windows {
			paid := impl.LinkedPrices(x.tariff, x.list, window)
			if len(paid) != len(x.list) || len(prices) != len(x.list) {
				t.Fatalf("LinkedPrices(%v, %d) = %v, PricesOf %v", x, window, paid, prices)
			}
			for i := range paid {
				if paid[i] < 0 || paid[i] > prices[i] || i == 0 && paid[i] != prices[i] {
					t.Fatalf("LinkedPrices(%v, %d) = %v, PricesOf %v", x, window, paid, prices)
				}
			}
		}
	}
}

func TestP29JourneysThatBelongTogetherCostAsMuchAsTheDearest(t *testing.T) {
	n := &numbers{state: 29}
	for i := range 500 {
		a := drawn(n)
		for _, window := range windows {
			list := atStops(a, joinedRides(n, 1+i%impl.MaxTaps, window))
			greatest := slices.Max(pricesBy(trip{a, list}))
			if got := impl.LinkedPrices(a, list, window); len(got) != len(list) || sum(got) != greatest {
				t.Fatalf("LinkedPrices(%v, %v, %d) = %v, want the sum %d", a, list, window, got, greatest)
			}
			if got := impl.TransferCount(list, window); got != len(list)-1 {
				t.Fatalf("TransferCount(%v, %d) = %d", list, window, got)
			}
		}
	}
}

func TestP30LongerWindowsCostLess(t *testing.T) {
	fell := 0
	for _, x := range trips() {
		least := sum(impl.PricesOf(x.tariff, x.list))
		for window := range impl.MaxWindow + 1 {
			paid := impl.LinkedPrices(x.tariff, x.list, window)
			if len(paid) != len(x.list) || sum(paid) > least {
				t.Fatalf("LinkedPrices(%v, %d) = %v, before %d together", x, window, paid, least)
			}
			if sum(paid) < least {
				fell++
			}
			least = sum(paid)
		}
	}
	if fell < 100 {
		t.Errorf("only %d windows cost less than the one before", fell)
	}
}

func TestP31LongerWindowsHaveMoreTransfers(t *testing.T) {
	rose := 0
	for _, x := range trips() {
		most := 0
		for window := range impl.MaxWindow + 1 {
			count := impl.TransferCount(x.list, window)
			if count < most || count > max(0, len(x.list)-1) {
				t.Fatalf("TransferCount(%v, %d) = %d, before %d", x.list, window, count, most)
			}
			if count > most {
				rose++
			}
			most = count
		}
	}
	if rose < 100 {
		t.Errorf("only %d windows have more transfers than the one before", rose)
	}
}

func TestP135LaterJourneysDoNotMatter(t *testing.T) {
	for _, x := range trips() {
		for _, window := range []int{0, 30, 120} {
			all := impl.LinkedPrices(x.tariff, x.list, window)
			for i := range len(x.list) + 1 {
				if first := impl.LinkedPrices(x.tariff, x.list[:i], window); len(first) != i || len(all) < i || !slices.Equal(first, all[:i]) {
					t.Fatalf("LinkedPrices(%v, %d) = %v, of the first %d %v", x, window, all, i, first)
				}
			}
		}
	}
}

func TestP136HalvesAreNoTransfers(t *testing.T) {
	for _, x := range trips() {
		halves := slices.Clone(x.list)
		for i, j := range halves {
			halves[i] = half(j.From, j.Begin)
		}
		for _, window := range windows {
			if got := impl.TransferCount(halves, window); got != 0 {
				t.Fatalf("TransferCount(%v, %d) = %d", halves, window, got)
			}
			for i := range x.list {
				if got := impl.TransferCount(x.list[i:i+1], window); got != 0 {
					t.Fatalf("TransferCount(%v, %d) = %d", x.list[i:i+1], window, got)
				}
			}
		}
	}
}

func TestTransferCountOfSomeJourneys(t *testing.T) {
	for _, c := range []struct {
		name   string
		window int
		want   int
		list   []impl.Journey
	}{
		{"none", 0, 0, nil},
		{"one", 120, 0, []impl.Journey{full(0, 1, 600, 610)}},
		{"a half first", 120, 0, []impl.Journey{half(0, 600), full(0, 1, 600, 610)}},
		{"a half last", 120, 0, []impl.Journey{full(0, 1, 600, 610), half(0, 610)}},
		{"a half between", 120, 0, []impl.Journey{full(0, 1, 600, 610), half(0, 610), full(0, 1, 610, 620)}},
		{"a half between two pairs", 120, 2, []impl.Journey{full(0, 1, 600, 610), full(0, 1, 610, 620), half(0, 630), full(0, 1, 640, 650), full(0, 1, 660, 670)}},
		{"window 0", 0, 1, []impl.Journey{full(0, 1, 600, 610), full(0, 1, 610, 620), full(0, 1, 621, 630)}},
		{"as many as there may be", 0, 23, chainOfRides(24)},
	} {
		if got := impl.TransferCount(c.list, c.window); got != c.want {
			t.Errorf("%s: TransferCount = %d, want %d", c.name, got, c.want)
		}
	}
}

func TestPricesOfInvalidTariffs(t *testing.T) {
	for name, a := range invalidTariffs() {
		for _, list := range [][]impl.Journey{nil, {half(0, 600)}, {full(0, 0, 600, 610)}, {full(0, 0, 600, 610), full(0, 0, 610, 620)}} {
			checkNoPrices(t, name, a, list, 30)
		}
	}
}

func TestPricesOfInvalidJourneys(t *testing.T) {
	for name, list := range invalidJourneyLists() {
		for _, window := range slices.Concat(badWindows, windows) {
			checkNoPrices(t, name, line(), list, window)
			if got := impl.TransferCount(list, window); got != -1 {
				t.Errorf("%s: TransferCount with the window %d = %d", name, window, got)
			}
		}
	}
}

// The journeys are valid, but the tariff has fewer stops.
func TestPricesOfJourneysAtAbsentStops(t *testing.T) {
	for stops := 1; stops < impl.MaxStops; stops++ {
		a := line()
		a.Zones = a.Zones[:stops]
		good, last := full(0, stops-1, 500, 510), full(stops-1, 0, 700, 710)
		if got := impl.PricesOf(a, []impl.Journey{good, half(stops-1, 600), last}); len(got) != 3 {
			t.Errorf("PricesOf at %d stops = %v", stops, got)
		}
		for _, bad := range []impl.Journey{full(0, stops, 600, 610), full(stops, 0, 600, 610), full(9, 9, 600, 610), half(stops, 600), half(9, 600)} {
			for _, list := range [][]impl.Journey{{bad}, {good, bad}, {bad, last}, {good, bad, last}} {
				checkNoPrices(t, "an absent stop", a, list, 30)
				if got := impl.TransferCount(list, 30); got < 0 {
					t.Errorf("TransferCount(%v, 30) = %d, though there is no tariff", list, got)
				}
			}
		}
	}
}

// checkNoPrices checks that there are no prices for a tariff, journeys and a window that are not valid together.
func checkNoPrices(t *testing.T, name string, a impl.Tariff, list []impl.Journey, window int) {
	t.Helper()
	if got := impl.PricesOf(a, list); got != nil {
		t.Errorf("%s: PricesOf(%v) = %v", name, list, got)
	}
	if got := impl.LinkedPrices(a, list, window); got != nil {
		t.Errorf("%s: LinkedPrices(%v, %d) = %v", name, list, window, got)
	}
}

func TestLinkedPricesOfInvalidWindows(t *testing.T) {
	for _, window := range badWindows {
		for _, x := range trips() {
			if got := impl.LinkedPrices(x.tariff, x.list, window); got != nil {
				t.Fatalf("LinkedPrices(%v, %d) = %v", x, window, got)
			}
			if got := impl.TransferCount(x.list, window); got != -1 {
				t.Fatalf("TransferCount(%v, %d) = %d", x.list, window, got)
			}
		}
	}
}

func TestPricesUpToMaxTaps(t *testing.T) {
	list := chainOfRides(impl.MaxTaps + 1)
	if prices, paid := impl.PricesOf(line(), list[:24]), impl.LinkedPrices(line(), list[:24], 0); len(prices) != 24 || len(paid) != 24 || sum(paid) != slices.Max(prices) {
		t.Errorf("PricesOf 24 journeys = %v, LinkedPrices %v", prices, paid)
	}
	checkNoPrices(t, "one journey too many", line(), list, 0)
	dear := impl.Tariff{Prices: square(1, impl.MaxPrice), Zones: make([]int, 10), Peaks: []impl.Band{{From: 0, To: 1440}}, Extra: 100, Top: 2 * impl.MaxPrice}
	if got := impl.PricesOf(dear, []impl.Journey{full(0, 9, 600, 610), half(9, 610)}); !slices.Equal(got, []int{4000, 4000}) {
		t.Errorf("the greatest prices are %v", got)
	}
}

func TestPricesChangeNothing(t *testing.T) {
	lists := trips()
	for _, a := range invalidTariffs() {
		lists = append(lists, trip{a, chainOfRides(3)})
	}
	for _, list := range invalidJourneyLists() {
		lists = append(lists, trip{line(), list})
	}
	for _, x := range lists {
		a, list := spareTariff(x.tariff), widened(x.list, noJourney)
		numbers, journeys := memory(a), whole(list)
		writeOverPrices(trip{a, list})
		for _, window := range []int{-1, 0, 30, 120} {
			fill(impl.LinkedPrices(a, list, window), -9)
			impl.TransferCount(list, window)
		}
		if !slices.Equal(numbers, memory(a)) || !slices.Equal(journeys, whole(list)) {
			t.Fatalf("a call changed the arguments %v, or shares memory with them", x)
		}
	}
}

// writeOverPrices calls every function of the chapter that returns numbers, and writes over its results.
func writeOverPrices(x trip) {
	fill(impl.PricesOf(x.tariff, x.list), -9)
	fill(impl.LinkedPrices(x.tariff, x.list, 30), -9)
}

func TestPricesAreNewMemory(t *testing.T) {
	for _, x := range trips() {
		prices, paid := impl.PricesOf(x.tariff, x.list), impl.LinkedPrices(x.tariff, x.list, 30)
		writeOverPrices(x)
		writeOverPrices(trip{line(), chainOfRides(impl.MaxTaps)})
		if !slices.Equal(prices, pricesBy(x)) {
			t.Fatalf("PricesOf = %v behind a change of later results", prices)
		}
		if !slices.Equal(paid, linkedBy(x, 30)) {
			t.Fatalf("LinkedPrices = %v behind a change of later results", paid)
		}
	}
}
