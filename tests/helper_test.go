package tests

import "loop.example/transitfares/impl"

// numbers makes the same numbers in every run.
type numbers struct{ state uint32 }

// below returns the next number in 0..limit-1.
func (n *numbers) below(limit int) int {
	n.state = n.state*1664525 + 1013904223
	return int(n.state>>8) % limit
}

// spare returns a list with memory behind it that holds its last number turned around, so that a write into it shows.
func spare(list []int) []int {
	wide := make([]int, len(list), len(list)+3)
	copy(wide, list)
	for i := len(list); i < cap(wide); i++ {
		wide[:cap(wide)][i] = -7 - i
	}
	return wide
}

// spareTariff returns a tariff all of whose slices have memory behind them.
func spareTariff(t impl.Tariff) impl.Tariff {
	rows := make([][]int, 0, len(t.Prices)+2)
	for _, row := range t.Prices {
		rows = append(rows, spare(row))
	}
	wide := append(rows, []int{-1}, []int{-2})
	t.Prices = wide[:len(rows)]
	t.Zones = spare(t.Zones)
	t.Peaks = append(append(make([]impl.Band, 0, len(t.Peaks)+1), t.Peaks...), impl.Band{From: -3, To: -4})[:len(t.Peaks)]
	return t
}

// memory lists all numbers of a tariff, with those behind its slices.
func memory(t impl.Tariff) []int {
	list := []int{len(t.Prices), len(t.Zones), len(t.Peaks), t.Extra, t.Top}
	for _, row := range t.Prices[:cap(t.Prices)] {
		list = append(append(list, len(row)), row[:cap(row)]...)
	}
	list = append(list, t.Zones[:cap(t.Zones)]...)
	for _, b := range t.Peaks[:cap(t.Peaks)] {
		list = append(list, b.From, b.To)
	}
	return list
}

// square returns rows of one price.
func square(size int, price int) [][]int {
	rows := make([][]int, size)
	for i := range rows {
		rows[i] = make([]int, size)
		for j := range rows[i] {
			rows[i][j] = price
		}
	}
	return rows
}

// city returns a tariff of three zones with different prices in both directions.
func city() impl.Tariff {
	return impl.Tariff{
		Prices: [][]int{{199, 310, 455}, {305, 150, 260}, {470, 255, 0}},
		Zones:  []int{0, 1, 1, 2, 0, 2},
		Peaks:  []impl.Band{{From: 420, To: 540}, {From: 960, To: 1080}},
		Extra:  33,
		Top:    700,
	}
}

// chain returns prices by which zones that follow each other in an order cost 1, and all others 1000.
func chain(order []int) [][]int {
	rows := square(len(order), 1000)
	for i := 1; i < len(order); i++ {
		rows[order[i-1]][order[i]] = 1
	}
	return rows
}

// orders returns all orders of the first numbers.
func orders(size int) [][]int {
	if size == 0 {
		return [][]int{{}}
	}
	var list [][]int
	for _, short := range orders(size - 1) {
		for at := range size {
			long := append([]int{}, short[:at]...)
			long = append(long, size-1)
			list = append(list, append(long, short[at:]...))
		}
	}
	return list
}

// drawn returns a valid tariff of drawn numbers; small prices make many equal sums.
func drawn(n *numbers) impl.Tariff {
	limit := []int{4, 40, impl.MaxPrice + 1}[n.below(3)]
	t := impl.Tariff{Prices: square(1+n.below(impl.MaxZones), 0), Zones: make([]int, 1+n.below(impl.MaxStops)), Extra: n.below(impl.MaxExtra + 1), Top: n.below(2*impl.MaxPrice + 1)}
	for _, row := range t.Prices {
		for i := range row {
			row[i] = n.below(limit)
		}
	}
	for i := range t.Zones {
		t.Zones[i] = n.below(len(t.Prices))
	}
	from := n.below(400)
	for range n.below(impl.MaxBands + 1) {
		to := from + 1 + n.below(250)
		t.Peaks = append(t.Peaks, impl.Band{From: from, To: to})
		from = to + n.below(2)*n.below(90)
	}
	return t
}

// tariffs returns valid tariffs: the one of a city, the smallest and the largest ones, chains, and drawn ones.
func tariffs() []impl.Tariff {
	list := []impl.Tariff{
		city(),
		{Prices: [][]int{{0}}, Zones: []int{0}},
		{Prices: square(5, 2000), Zones: []int{4, 4, 3, 3, 2, 2, 1, 1, 0, 0}, Peaks: []impl.Band{{From: 0, To: 700}, {From: 700, To: 701}, {From: 701, To: 1440}}, Extra: 100, Top: 4000},
		{Prices: [][]int{{0, 900, 200}, {900, 0, 100}, {200, 100, 0}}, Zones: []int{0, 1, 2}},
	}
	for _, order := range orders(5) {
		list = append(list, impl.Tariff{Prices: chain(order), Zones: []int{0, 1, 2, 3, 4}, Peaks: []impl.Band{{From: 1, To: 3}}, Extra: 1})
	}
	n := &numbers{state: 1}
	for range 300 {
		list = append(list, drawn(n))
	}
	return list
}

// changed returns the tariff of a city after a change.
func changed(change func(t *impl.Tariff)) impl.Tariff {
	t := city()
	change(&t)
	return t
}

// invalidTariffs returns tariffs that are not valid, by what is wrong with them.
func invalidTariffs() map[string]impl.Tariff {
	list := map[string]impl.Tariff{
		"nothing":          {},
		"no prices":        changed(func(t *impl.Tariff) { t.Prices = nil }),
		"empty prices":     changed(func(t *impl.Tariff) { t.Prices = [][]int{} }),
		"six zones":        changed(func(t *impl.Tariff) { t.Prices = square(6, 100) }),
		"a short row":      changed(func(t *impl.Tariff) { t.Prices[1] = []int{1, 2} }),
		"a long row":       changed(func(t *impl.Tariff) { t.Prices[2] = []int{1, 2, 3, 4} }),
		"a nil row":        changed(func(t *impl.Tariff) { t.Prices[0] = nil }),
		"a row missing":    changed(func(t *impl.Tariff) { t.Prices, t.Zones = t.Prices[:2], []int{0, 1} }),
		"one row of two":   {Prices: [][]int{{1, 2}}, Zones: []int{0}},
		"two rows of one":  {Prices: [][]int{{1}, {2}}, Zones: []int{0}},
		"price below 0":    changed(func(t *impl.Tariff) { t.Prices[2][2] = -1 }),
		"price too high":   changed(func(t *impl.Tariff) { t.Prices[2][0] = impl.MaxPrice + 1 }),
		"no zones":         changed(func(t *impl.Tariff) { t.Zones = nil }),
		"eleven stops":     changed(func(t *impl.Tariff) { t.Zones = make([]int, impl.MaxStops+1) }),
		"zone below 0":     changed(func(t *impl.Tariff) { t.Zones[0] = -1 }),
		"zone without row": changed(func(t *impl.Tariff) { t.Zones[5] = 3 }),
		"extra below 0":    changed(func(t *impl.Tariff) { t.Extra = -1 }),
		"extra too high":   changed(func(t *impl.Tariff) { t.Extra = impl.MaxExtra + 1 }),
		"top below 0":      changed(func(t *impl.Tariff) { t.Top = -1 }),
		"top too high":     changed(func(t *impl.Tariff) { t.Top = 2*impl.MaxPrice + 1 }),
	}
	for name, bands := range invalidBands() {
		list["bands: "+name] = changed(func(t *impl.Tariff) { t.Peaks = bands })
	}
	return list
}
