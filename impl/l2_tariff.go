package impl

// MaxZones is the largest number of zones.
const MaxZones = 5

// MaxStops is the largest number of stops.
const MaxStops = 10

// MaxPrice is the largest price.
const MaxPrice = 2000

// MaxExtra is the largest extra of a peak, in percent.
const MaxExtra = 100

// Tariff is the prices between stops.
type Tariff struct {
	Prices [][]int
	Zones  []int
	Peaks  []Band
	Extra  int
	Top    int
}

// matrix keeps the prices of a tariff row by row in one slice, so that they can be changed without the tariff.
type matrix struct {
	size  int
	cells []int
}

func matrixOf(rows [][]int) matrix {
	m := matrix{size: len(rows)}
	for _, row := range rows {
		m.cells = append(m.cells, row...)
	}
	return m
}

func (m matrix) at(from int, to int) int {
	return m.cells[from*m.size+to]
}

func (m matrix) lower(from int, to int, price int) {
	cell := &m.cells[from*m.size+to]
	*cell = min(*cell, price)
}

// rows copies each row by itself, so that no two rows share memory.
func (m matrix) rows() [][]int {
	list := make([][]int, m.size)
	for i := range list {
		list[i] = make([]int, m.size)
		copy(list[i], m.cells[i*m.size:])
	}
	return list
}

func validPrices(rows [][]int) bool {
	if len(rows) < 1 || len(rows) > MaxZones {
		return false
	}
	for _, row := range rows {
		if len(row) != len(rows) || !allWithin(row, MaxPrice) {
			return false
		}
	}
	return true
}

func validZones(zones []int, count int) bool {
	return len(zones) >= 1 && len(zones) <= MaxStops && allWithin(zones, count-1)
}

// allWithin reports whether all numbers are in 0..most.
func allWithin(list []int, most int) bool {
	for _, n := range list {
		if n < 0 || n > most {
			return false
		}
	}
	return true
}

func (t Tariff) hasStop(stop int) bool {
	return stop >= 0 && stop < len(t.Zones)
}

// ValidTariff reports whether a tariff is valid.
func ValidTariff(t Tariff) bool {
	return validPrices(t.Prices) && validZones(t.Zones, len(t.Prices)) && validBands(t.Peaks) &&
		t.Extra >= 0 && t.Extra <= MaxExtra && t.Top >= 0 && t.Top <= 2*MaxPrice
}

// BasePrice returns the price between the zones of two stops; -1 for invalid arguments.
func BasePrice(t Tariff, from int, to int) int {
	if !ValidTariff(t) || !t.hasStop(from) || !t.hasStop(to) {
		return -1
	}
	return t.Prices[t.Zones[from]][t.Zones[to]]
}

// FareOf returns the price of a journey that begins at a minute; -1 for invalid arguments.
func FareOf(t Tariff, from int, to int, minute int) int {
	price := BasePrice(t, from, to)
	if price < 0 || !moment(minute).valid() {
		return -1
	}
	if IsPeak(t.Peaks, minute) {
		price += price * t.Extra / 100
	}
	return price
}

// FirstUnfair returns three zones with a detour that costs less.
func FirstUnfair(t Tariff) ([]int, bool) {
	if !ValidTariff(t) {
		return nil, false
	}
	m := matrixOf(t.Prices)
	for a := range m.size {
		for b := range m.size {
			for c := range m.size {
				if m.at(a, b)+m.at(b, c) < m.at(a, c) {
					return []int{a, b, c}, true
				}
			}
		}
	}
	return nil, false
}

// FairPrices returns the least prices over any zones; nil for an invalid tariff.
func FairPrices(t Tariff) [][]int {
	if !ValidTariff(t) {
		return nil
	}
	m := matrixOf(t.Prices)
	// The zone between is the outer loop, so that detours over several zones are found, too.
	for between := range m.size {
		for from := range m.size {
			for to := range m.size {
				m.lower(from, to, m.at(from, between)+m.at(between, to))
			}
		}
	}
	return m.rows()
}
