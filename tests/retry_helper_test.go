package tests

import "math"

// badWaits are first waits that are not valid.
var badWaits = []int{0, 1441, -1, 2000, math.MinInt, math.MaxInt}

// badTries are numbers that no try has.
var badTries = []int{0, 5, -1, 6, 64, math.MinInt, math.MaxInt}

// begins are minutes at which tries begin: the first and the last ones, and some between.
var begins = []int{0, 1, 2, 239, 240, 1440, 20000, 34559, 34560, 36000, 37439, 37440, 38879, 38880, 39999, 40300, 40309, 40316, 40317, 40318, 40319}

// firstWaits are first waits: the least and the greatest ones, and those around which later ones would pass MaxWait.
var firstWaits = []int{1, 2, 3, 10, 19, 20, 60, 179, 180, 181, 359, 360, 361, 500, 719, 720, 721, 1000, 1439, 1440}

// waitBy returns the minutes before a try without those before the others.
func waitBy(first int, try int) int {
	return min(1440, first*[]int{0, 1, 2, 4, 8}[try])
}

// triesBy returns the minutes of all tries, each by the sum of all waits up to it.
func triesBy(begin int, first int) []int {
	var list []int
	for try := 1; try <= 4; try++ {
		minute := begin
		for before := 1; before <= try; before++ {
			minute += waitBy(first, before)
		}
		if minute <= 40319 {
			list = append(list, minute)
		}
	}
	return list
}

// minutesAround returns minutes at and around tries and their begin, and those far before and behind them.
func minutesAround(begin int, tries []int) []int {
	list := []int{math.MinInt, math.MinInt + 1, -40320, -1, 0, 1, 40318, 40319, 40320, 40321, math.MaxInt - 1, math.MaxInt, begin - 1, begin, begin + 1}
	for _, try := range tries {
		list = append(list, try-1, try, try+1)
	}
	return list
}
