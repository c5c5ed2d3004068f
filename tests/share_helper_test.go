package tests

import (
	"math"
	"slices"
	"strconv"

	"loop.example/transitfares/impl"
)

// noLeg stands for what is not valid, so that it shows wherever it turns up.
var noLeg = impl.Leg{Operator: -1, Length: -2}

// badOperators are numbers that no operator has.
var badOperators = []int{-1, 4, 5, 1000000, math.MinInt, math.MaxInt}

// badLengths are lengths that no leg has.
var badLengths = []int{0, 501, -1, -500, math.MinInt, math.MaxInt}

// fares are amounts to share: the least and the greatest ones, and some between.
var fares = []int{0, 1, 2, 3, 4, 5, 7, 10, 99, 100, 101, 999, 1000, 3997, 4000, 12345, 65537, 99996, 99997, 99998, 99999, 100000}

// leg returns a leg.
func leg(operator int, length int) impl.Leg {
	return impl.Leg{Operator: operator, Length: length}
}

// legs returns a leg for each two numbers, its operator and its length.
func legs(numbers ...int) []impl.Leg {
	var list []impl.Leg
	for pair := range slices.Chunk(numbers, 2) {
		list = append(list, leg(pair[0], pair[1]))
	}
	return list
}

// drawnLegs returns valid legs. Few operators make neighbours of one operator likely, and few lengths equal rests and sums around MaxLength.
func drawnLegs(n *numbers, count int) []impl.Leg {
	operators := 1 + n.below(4)
	first := n.below(5 - operators)
	lengths := [][]int{{1}, {1, 2, 3}, {100, 101, 300, 400}, {250, 251, 249, 1}, {500, 1, 499}, {1 + n.below(500), 1 + n.below(500), 1 + n.below(500)}}[n.below(6)]
	list := make([]impl.Leg, count)
	for i := range list {
		list[i] = leg(first+n.below(operators), lengths[n.below(len(lengths))])
	}
	return list
}

// legLists returns valid legs: some by hand, and drawn ones of all numbers.
func legLists() [][]impl.Leg {
	list := [][]impl.Leg{
		legs(0, 1),
		legs(3, 500),
		legs(0, 1, 1, 1, 2, 1),
		legs(3, 1, 1, 2),
		legs(3, 1, 2, 1, 1, 1, 0, 1),
		legs(0, 300, 0, 100, 1, 5, 0, 400, 0, 101),
		legs(2, 250, 2, 250, 2, 250, 2, 250),
		legs(0, 500, 1, 500, 2, 500, 3, 500, 0, 500, 1, 500, 2, 500, 3, 500),
		slices.Repeat(legs(3, 500), 8),
		slices.Repeat(legs(1, 1), 8),
	}
	n := &numbers{state: 109}
	for i := range 600 {
		list = append(list, drawnLegs(n, 1+i%8))
	}
	return list
}

// invalidLegs returns legs that are not valid each, by what is wrong with them.
func invalidLegs() map[string]impl.Leg {
	list := map[string]impl.Leg{"no length": {}, "everything": noLeg}
	for _, operator := range badOperators {
		list["operator "+strconv.Itoa(operator)] = leg(operator, 5)
	}
	for _, length := range badLengths {
		list["length "+strconv.Itoa(length)] = leg(1, length)
	}
	return list
}

// invalidLegLists returns legs that are not valid together, by what is wrong with them.
func invalidLegLists() map[string][]impl.Leg {
	list := map[string][]impl.Leg{
		"no leg":                  nil,
		"no leg, but a list":      {},
		"a leg too many":          slices.Repeat(legs(1, 5), 9),
		"a leg too many, in turn": append(slices.Repeat(legs(1, 5, 2, 5), 4), leg(1, 5)),
		"many legs":               slices.Repeat(legs(0, 1, 3, 500), 300),
	}
	for name, g := range invalidLegs() {
		list["alone: "+name] = []impl.Leg{g}
		list["first: "+name] = append([]impl.Leg{g}, legs(1, 5, 2, 7)...)
		list["last: "+name] = append(legs(1, 5, 2, 7), g)
		list["between: "+name] = []impl.Leg{leg(1, 5), g, leg(1, 5)}
	}
	return list
}

// lengthBy returns the length of the legs of an operator, by leaving out all others.
func lengthBy(list []impl.Leg, operator int) int {
	length := 0
	for _, g := range slices.DeleteFunc(slices.Clone(list), func(g impl.Leg) bool { return g.Operator != operator }) {
		length += g.Length
	}
	return length
}

// wholeBy returns the length of all legs.
func wholeBy(list []impl.Leg) int {
	return lengthBy(list, 0) + lengthBy(list, 1) + lengthBy(list, 2) + lengthBy(list, 3)
}

// sharesBy returns the shares of valid legs. It gives 1 more to each operator which has fewer in front of it than there is left.
func sharesBy(list []impl.Leg, amount int) []int {
	whole, left := wholeBy(list), amount
	var rests [4]int
	shares := make([]int, 4)
	for operator := range shares {
		shares[operator] = amount * lengthBy(list, operator) / whole
		rests[operator] = amount*lengthBy(list, operator) - shares[operator]*whole
		left -= shares[operator]
	}
	for operator, rest := range rests {
		inFront := 0
		for other, otherRest := range rests {
			if otherRest > rest || otherRest == rest && other < operator {
				inFront++
			}
		}
		if inFront < left {
			shares[operator]++
		}
	}
	return shares
}

// joinedBy returns legs that are joined: again and again, as many as one leg can be of those that are left.
func joinedBy(list []impl.Leg) []impl.Leg {
	var made []impl.Leg
	for len(list) > 0 {
		many := 1
		for many < len(list) && list[many].Operator == list[0].Operator && wholeBy(list[:many+1]) <= 500 {
			many++
		}
		made = append(made, leg(list[0].Operator, wholeBy(list[:many])))
		list = list[many:]
	}
	return made
}
