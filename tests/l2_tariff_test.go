package tests

import (
	"math"
	"reflect"
	"slices"
	"testing"

	"loop.example/transitfares/impl"
)

// withPrices returns a tariff with other prices.
func withPrices(t impl.Tariff, prices [][]int) impl.Tariff {
	t.Prices = prices
	return t
}

// leastSums returns the least sums of prices of ways with 1, 2, .. prices, as many as there are zones.
func leastSums(prices [][]int) [][]int {
	size := len(prices)
	least := square(size, math.MaxInt)
	now := prices
	for range size {
		next := square(size, math.MaxInt)
		for a := range size {
			for b := range size {
				least[a][b] = min(least[a][b], now[a][b])
				for c := range size {
					next[a][c] = min(next[a][c], now[a][b]+prices[b][c])
				}
			}
		}
		now = next
	}
	return least
}

// unfair returns all three zones with a detour that costs less, in any order.
func unfair(prices [][]int) [][]int {
	var list [][]int
	for c := range prices {
		for b := range prices {
			for a := range prices {
				if prices[a][c] > prices[a][b]+prices[b][c] {
					list = append(list, []int{a, b, c})
				}
			}
		}
	}
	return list
}

// isFair reports whether FirstUnfair tells no zones.
func isFair(t *testing.T, a impl.Tariff) bool {
	zones, found := impl.FirstUnfair(a)
	if found != (len(zones) == 3) {
		t.Fatalf("FirstUnfair(%v) = %v, %v", a, zones, found)
	}
	return !found
}

func TestValidTariffs(t *testing.T) {
	for _, a := range tariffs() {
		if !impl.ValidTariff(a) {
			t.Errorf("ValidTariff(%v) = false", a)
		}
	}
	for _, bands := range validBands() {
		if a := changed(func(t *impl.Tariff) { t.Peaks = bands }); !impl.ValidTariff(a) {
			t.Errorf("ValidTariff(%v) = false", a)
		}
	}
}

func TestInvalidTariffs(t *testing.T) {
	for name, a := range invalidTariffs() {
		if impl.ValidTariff(a) {
			t.Errorf("%s: ValidTariff = true", name)
		}
		if got := impl.BasePrice(a, 0, 0); got != -1 {
			t.Errorf("%s: BasePrice = %d", name, got)
		}
		if got := impl.FareOf(a, 0, 0, 600); got != -1 {
			t.Errorf("%s: FareOf = %d", name, got)
		}
		if zones, found := impl.FirstUnfair(a); zones != nil || found {
			t.Errorf("%s: FirstUnfair = %v, %v", name, zones, found)
		}
		if got := impl.FairPrices(a); got != nil {
			t.Errorf("%s: FairPrices = %v", name, got)
		}
	}
}

// An invalid tariff with an unfair detour has none to tell.
func TestFirstUnfairOfInvalidTariff(t *testing.T) {
	a := changed(func(t *impl.Tariff) { t.Prices, t.Top = [][]int{{0, 9, 1}, {0, 0, 0}, {0, 1, 0}}, -1 })
	if zones, found := impl.FirstUnfair(a); zones != nil || found {
		t.Errorf("FirstUnfair = %v, %v", zones, found)
	}
}

func TestP7TariffsCanLoseStops(t *testing.T) {
	for _, a := range tariffs() {
		for len(a.Zones) > 1 {
			a.Zones = a.Zones[:len(a.Zones)-1]
			if !impl.ValidTariff(a) {
				t.Fatalf("ValidTariff(%v) = false", a)
			}
		}
		a.Zones = nil
		if impl.ValidTariff(a) {
			t.Fatalf("ValidTariff(%v) = true", a)
		}
	}
}

func TestP8StopsOfOneZoneCostTheSame(t *testing.T) {
	for _, a := range tariffs() {
		for from, zoneFrom := range a.Zones {
			for to, zoneTo := range a.Zones {
				if got := impl.BasePrice(a, from, to); got != a.Prices[zoneFrom][zoneTo] {
					t.Fatalf("BasePrice(%v, %d, %d) = %d", a, from, to, got)
				}
			}
		}
	}
}

func TestPricesOfAbsentStops(t *testing.T) {
	a := city()
	for _, stop := range []int{-1, 6, 7, 10, math.MinInt, math.MaxInt} {
		for _, other := range []int{0, 5, stop} {
			if got := impl.BasePrice(a, stop, other); got != -1 {
				t.Errorf("BasePrice from %d to %d = %d", stop, other, got)
			}
			if got := impl.BasePrice(a, other, stop); got != -1 {
				t.Errorf("BasePrice from %d to %d = %d", other, stop, got)
			}
			if got := impl.FareOf(a, stop, other, 450); got != -1 {
				t.Errorf("FareOf from %d to %d = %d", stop, other, got)
			}
			if got := impl.FareOf(a, other, stop, 600); got != -1 {
				t.Errorf("FareOf from %d to %d = %d", other, stop, got)
			}
		}
	}
}

func TestFareOfAtMinutesOutsideOfTime(t *testing.T) {
	flat := changed(func(t *impl.Tariff) { t.Peaks, t.Extra = nil, 0 })
	free := withPrices(city(), square(3, 0))
	for _, minute := range []int{-1, -1440, impl.MaxMinute + 1, impl.MaxMinute + 450, math.MinInt, math.MaxInt} {
		for _, a := range []impl.Tariff{city(), flat, free} {
			if got := impl.FareOf(a, 0, 1, minute); got != -1 {
				t.Errorf("FareOf at minute %d = %d", minute, got)
			}
		}
	}
}

func TestFareOfAtEndsOfPeaks(t *testing.T) {
	day := 8 * impl.DayMinutes // the service day 9 begins there; the bands lie on it
	for clock, want := range map[int]int{0: 310, 419: 310, 420: 412, 539: 412, 540: 310, 959: 310, 960: 412, 1079: 412, 1080: 310, 1439: 310} {
		if got := impl.FareOf(city(), 0, 1, day+clock); got != want {
			t.Errorf("FareOf at %d of the day = %d, want %d", clock, got, want)
		}
	}
	if got := impl.FareOf(city(), 0, 1, impl.MaxMinute); got != 310 {
		t.Errorf("FareOf at the last minute = %d", got)
	}
	if got := impl.FareOf(city(), 0, 1, 0); got != 310 {
		t.Errorf("FareOf at the first minute = %d", got)
	}
}

// Day 5 is the first one of a weekend.
func TestFareOfInTheNightBehindTheLastWorkday(t *testing.T) {
	night := changed(func(t *impl.Tariff) { t.Peaks, t.Extra = []impl.Band{{From: 0, To: 1440}}, 50 })
	weekend := 4*impl.DayMinutes + impl.DayBegin
	for minute, want := range map[int]int{weekend - 1: 465, weekend: 310, weekend + 2*impl.DayMinutes - 1: 310, weekend + 2*impl.DayMinutes: 465} {
		if got := impl.FareOf(night, 0, 1, minute); got != want {
			t.Errorf("FareOf at minute %d = %d, want %d", minute, got, want)
		}
	}
}

func TestP9PeaksCostMore(t *testing.T) {
	for _, a := range tariffs() {
		for minute := 0; minute <= impl.MaxMinute; minute += 97 {
			base, fare := impl.BasePrice(a, 0, len(a.Zones)-1), impl.FareOf(a, 0, len(a.Zones)-1, minute)
			if !impl.IsPeak(a.Peaks, minute) && fare != base {
				t.Fatalf("FareOf(%v) at %d = %d, but BasePrice is %d", a, minute, fare, base)
			}
			if fare < base || (fare-base)*100 > base*a.Extra {
				t.Fatalf("FareOf(%v) at %d = %d, too far from %d", a, minute, fare, base)
			}
		}
	}
}

// The least price of a peak is the greatest one that is not more than Extra percent higher.
func TestFareOfRoundsDown(t *testing.T) {
	for price := 0; price <= impl.MaxPrice; price += 7 {
		for extra := range impl.MaxExtra + 1 {
			a := impl.Tariff{Prices: [][]int{{price}}, Zones: []int{0}, Peaks: []impl.Band{{From: 420, To: 540}}, Extra: extra}
			more := impl.FareOf(a, 0, 0, 450) - price
			if more*100 > price*extra || (more+1)*100 <= price*extra {
				t.Fatalf("price %d, extra %d: %d more", price, extra, more)
			}
		}
	}
}

func TestP10WithoutPeaksTimesDoNotMatter(t *testing.T) {
	for _, a := range tariffs() {
		a.Peaks = nil
		for minute := 0; minute <= impl.MaxMinute; minute += 311 {
			if base, fare := impl.BasePrice(a, 0, 0), impl.FareOf(a, 0, 0, minute); base < 0 || fare != base {
				t.Fatalf("FareOf(%v) at %d = %d, but BasePrice is %d", a, minute, fare, base)
			}
		}
	}
}

func TestP11UnfairDetoursCostLess(t *testing.T) {
	for _, a := range tariffs() {
		zones, found := impl.FirstUnfair(a)
		all := unfair(a.Prices)
		if found != (len(all) > 0) {
			t.Fatalf("FirstUnfair(%v) = %v, %v", a, zones, found)
		}
		if !found {
			if zones != nil {
				t.Fatalf("FirstUnfair(%v) = %v without a detour", a, zones)
			}
			continue
		}
		if a.Prices[zones[0]][zones[1]]+a.Prices[zones[1]][zones[2]] >= a.Prices[zones[0]][zones[2]] {
			t.Fatalf("FirstUnfair(%v) = %v is no detour that costs less", a, zones)
		}
		if first := slices.MinFunc(all, slices.Compare[[]int]); !slices.Equal(zones, first) {
			t.Fatalf("FirstUnfair(%v) = %v, but %v is before it", a, zones, first)
		}
	}
}

func TestFirstUnfairOfSomePrices(t *testing.T) {
	for _, c := range []struct {
		name   string
		prices [][]int
		want   []int
	}{
		{"an equal detour is fair", [][]int{{0, 1, 2}, {1, 0, 1}, {2, 1, 0}}, nil},
		{"a detour that costs 1 less", [][]int{{0, 1, 3}, {1, 0, 1}, {3, 1, 0}}, []int{0, 1, 2}},
		{"there and back within a zone", [][]int{{500, 100}, {100, 0}}, []int{0, 1, 0}},
		{"one direction alone", [][]int{{0, 9, 1}, {9, 0, 9}, {9, 1, 0}}, []int{0, 2, 1}},
		{"the zone between comes before the end", [][]int{{0, 1, 9, 9}, {9, 0, 9, 1}, {9, 1, 0, 9}, {9, 9, 1, 0}}, []int{0, 1, 3}},
		{"the last zones", [][]int{{0, 2, 2}, {2, 0, 2}, {2, 1, 4}}, []int{2, 1, 2}},
		{"one zone", [][]int{{2000}}, nil},
	} {
		zones, found := impl.FirstUnfair(withPrices(impl.Tariff{Zones: []int{0}}, c.prices))
		if found != (c.want != nil) || !reflect.DeepEqual(zones, c.want) {
			t.Errorf("%s: FirstUnfair = %v, %v, want %v", c.name, zones, found, c.want)
		}
	}
}

func TestP12FairPricesHaveNoDetours(t *testing.T) {
	for _, a := range tariffs() {
		prices := impl.FairPrices(a)
		fair := withPrices(a, prices)
		if !impl.ValidTariff(fair) {
			t.Fatalf("FairPrices(%v) = %v", a, prices)
		}
		if zones, found := impl.FirstUnfair(fair); found {
			t.Fatalf("FairPrices(%v) = %v with the detour %v", a, prices, zones)
		}
		if again := impl.FairPrices(fair); !reflect.DeepEqual(again, prices) {
			t.Fatalf("FairPrices of fair prices %v = %v", prices, again)
		}
	}
}

func TestP13FairPricesAreNotHigher(t *testing.T) {
	for _, a := range tariffs() {
		prices := impl.FairPrices(a)
		if len(prices) != len(a.Prices) {
			t.Fatalf("FairPrices(%v) = %v", a, prices)
		}
		for i, row := range prices {
			if len(row) != len(prices) {
				t.Fatalf("FairPrices(%v) = %v", a, prices)
			}
			for j, price := range row {
				if price > a.Prices[i][j] {
					t.Fatalf("FairPrices(%v) = %v is higher", a, prices)
				}
			}
		}
		if same := reflect.DeepEqual(prices, a.Prices); same != isFair(t, a) {
			t.Fatalf("FairPrices(%v) = %v, equal: %v", a, prices, same)
		}
	}
}

func TestFairPricesAreLeastSums(t *testing.T) {
	for _, a := range tariffs() {
		if got, want := impl.FairPrices(a), leastSums(a.Prices); !reflect.DeepEqual(got, want) {
			t.Fatalf("FairPrices(%v) = %v, want %v", a.Prices, got, want)
		}
	}
}

func TestFairPricesOfSomePrices(t *testing.T) {
	for _, c := range []struct {
		name   string
		prices [][]int
		want   [][]int
	}{
		{"a zone by itself costs at least one price", [][]int{{70, 30}, {90, 80}}, [][]int{{70, 30}, {90, 80}}},
		{"there and back costs less than a zone by itself", [][]int{{500, 100}, {120, 250}}, [][]int{{220, 100}, {120, 220}}},
		{"over one zone", [][]int{{0, 900, 200}, {900, 0, 100}, {200, 100, 0}}, [][]int{{0, 300, 200}, {300, 0, 100}, {200, 100, 0}}},
		{"over three zones", chain([]int{0, 3, 1, 4, 2}), leastSums(chain([]int{0, 3, 1, 4, 2}))},
		{"one zone", [][]int{{2000}}, [][]int{{2000}}},
	} {
		if got := impl.FairPrices(withPrices(impl.Tariff{Zones: []int{0}}, c.prices)); !reflect.DeepEqual(got, c.want) {
			t.Errorf("%s: FairPrices = %v, want %v", c.name, got, c.want)
		}
	}
	if got := impl.FairPrices(withPrices(impl.Tariff{Zones: []int{0}}, chain([]int{0, 3, 1, 4, 2})))[0][2]; got != 4 {
		t.Errorf("four prices of 1 make %d", got)
	}
}

func TestP128StopsOfOneZoneHaveOneFare(t *testing.T) {
	for _, a := range tariffs() {
		for minute := 0; minute <= impl.MaxMinute; minute += 997 {
			fares := map[[2]int]int{}
			for from := range a.Zones {
				for to := range a.Zones {
					zones := [2]int{a.Zones[from], to}
					fare := impl.FareOf(a, from, to, minute)
					if first, known := fares[zones]; known && first != fare || fare < 0 {
						t.Fatalf("FareOf(%v, %d, %d, %d) = %d, but %d for another stop", a, from, to, minute, fare, first)
					}
					fares[zones] = fare
				}
			}
		}
	}
}

// callAll calls every function of the chapter.
func callAll(a impl.Tariff) {
	impl.ValidTariff(a)
	impl.BasePrice(a, 0, len(a.Zones)-1)
	impl.FareOf(a, 0, len(a.Zones)-1, 450)
	impl.FirstUnfair(a)
	impl.FairPrices(a)
}

func TestTariffsAreNotChanged(t *testing.T) {
	list := tariffs()
	for _, a := range invalidTariffs() {
		list = append(list, a)
	}
	for _, a := range list {
		a = spareTariff(a)
		before := memory(a)
		callAll(a)
		if after := memory(a); !slices.Equal(before, after) {
			t.Fatalf("a call changed %v to %v", before, after)
		}
	}
}

func TestFairPricesAreNewMemory(t *testing.T) {
	for _, a := range tariffs() {
		a = spareTariff(a)
		before := memory(a)
		prices, want := impl.FairPrices(a), impl.FairPrices(a)
		for i, row := range prices {
			fill(row, -1)
			for j := i + 1; j < len(prices); j++ {
				if !slices.Equal(prices[j], want[j]) {
					t.Fatalf("row %d of FairPrices(%v) shares memory with row %d", i, a, j)
				}
			}
		}
		for i := range prices[:cap(prices)] {
			prices[:cap(prices)][i] = nil
		}
		if !slices.Equal(before, memory(a)) {
			t.Fatalf("FairPrices shares memory with the tariff %v", a)
		}
		if again := impl.FairPrices(a); !reflect.DeepEqual(again, want) {
			t.Fatalf("FairPrices = %v behind a change of its result, before %v", again, want)
		}
	}
}

func TestFirstUnfairIsNewMemory(t *testing.T) {
	for _, a := range tariffs() {
		a = spareTariff(a)
		before := memory(a)
		zones, found := impl.FirstUnfair(a)
		if !found {
			continue
		}
		want := slices.Clone(zones)
		fill(zones, -1)
		if again, _ := impl.FirstUnfair(a); !slices.Equal(again, want) || !slices.Equal(before, memory(a)) {
			t.Fatalf("FirstUnfair = %v behind a change of its result, before %v", again, want)
		}
	}
}
