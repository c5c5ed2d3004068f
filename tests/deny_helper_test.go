package tests

import (
	"math"
	"slices"

	"loop.example/transitfares/impl"
)

// badCards are numbers that no card has.
var badCards = []int{-1, 100, math.MinInt, math.MaxInt}

// deny returns a deny list.
func deny(version int, cards ...int) impl.Deny {
	return impl.Deny{Version: version, Cards: cards}
}

// delta returns what leads from a version to another one.
func delta(from int, to int, add []int, remove []int) impl.Delta {
	return impl.Delta{From: from, To: to, Add: add, Remove: remove}
}

// back returns a delta the other way around.
func back(x impl.Delta) impl.Delta {
	return delta(x.To, x.From, x.Remove, x.Add)
}

// sameDeny reports whether two deny lists are equal.
func sameDeny(a impl.Deny, b impl.Deny) bool {
	return a.Version == b.Version && slices.Equal(a.Cards, b.Cards)
}

// sameDelta reports whether two deltas are equal.
func sameDelta(a impl.Delta, b impl.Delta) bool {
	return a.From == b.From && a.To == b.To && slices.Equal(a.Add, b.Add) && slices.Equal(a.Remove, b.Remove)
}

// cardsFrom returns a number of cards that follow each other.
func cardsFrom(first int, count int) []int {
	cards := make([]int, count)
	for i := range cards {
		cards[i] = first + i
	}
	return cards
}

// drawnCards returns cards, ascending. A small limit makes cards likely that lists have in common.
func drawnCards(n *numbers, count int, limit int) []int {
	var cards []int
	for len(cards) < min(count, limit) {
		if card := n.below(limit); !slices.Contains(cards, card) {
			cards = append(cards, card)
		}
	}
	slices.Sort(cards)
	return cards
}

// denyLists returns valid deny lists: some by hand, and drawn ones of all lengths.
func denyLists() []impl.Deny {
	list := []impl.Deny{
		{},
		{Cards: []int{}},
		deny(999),
		deny(0, 0),
		deny(999, 99),
		deny(3, 0, 99),
		deny(4, cardsFrom(0, 12)...),
		deny(5, cardsFrom(88, 12)...),
		deny(6, 0, 9, 18, 27, 36, 45, 54, 63, 72, 81, 90, 99),
	}
	n := &numbers{state: 53}
	for i := range 150 {
		limit := []int{13, 30, 100}[n.below(3)]
		list = append(list, deny(n.below([]int{5, 1000}[n.below(2)]), drawnCards(n, i%13, limit)...))
	}
	return list
}

// minus returns the cards of one list that another one does not have.
func minus(list []int, other []int) []int {
	return slices.DeleteFunc(slices.Clone(list), func(card int) bool { return slices.Contains(other, card) })
}

// deltaBy returns what leads from a deny list to another one.
func deltaBy(a impl.Deny, b impl.Deny) impl.Delta {
	return delta(a.Version, b.Version, minus(b.Cards, a.Cards), minus(a.Cards, b.Cards))
}

// appliedBy returns the cards of a deny list after a delta, by asking for each card there may be.
func appliedBy(d impl.Deny, x impl.Delta) []int {
	var cards []int
	for card := range 100 {
		if slices.Contains(x.Add, card) || slices.Contains(d.Cards, card) && !slices.Contains(x.Remove, card) {
			cards = append(cards, card)
		}
	}
	return cards
}

// drawnDelta returns a delta that fits a deny list, and leads to a valid one.
func drawnDelta(n *numbers, d impl.Deny) impl.Delta {
	x := impl.Delta{From: d.Version, To: []int{d.Version, n.below(1000)}[n.below(2)]}
	for _, card := range d.Cards {
		if n.below(3) == 0 {
			x.Remove = append(x.Remove, card)
		}
	}
	place := impl.MaxDenied - len(d.Cards) + len(x.Remove)
	x.Add = minus(drawnCards(n, n.below(place+1), []int{30, 100}[n.below(2)]), d.Cards)
	return x
}

// invalidCards returns cards that are not valid in a deny list, by what is wrong with them.
func invalidCards() map[string][]int {
	list := map[string][]int{
		"one too many":        cardsFrom(20, 13),
		"all cards":           cardsFrom(0, 100),
		"a card twice":        {5, 5},
		"a card twice at end": {3, 4, 7, 7},
		"a card again":        {5, 6, 5},
		"cards that fall":     {6, 5},
		"that fall at end":    {3, 8, 7},
		"that fall at first":  {8, 3, 9},
	}
	for i, name := range []string{" below 0", " too great", " least of all", " greatest of all"} {
		list["alone:"+name] = []int{badCards[i]}
		list["first:"+name] = []int{badCards[i], 4, 7}
		list["last:"+name] = []int{4, 7, badCards[i]}
		list["between:"+name] = []int{4, badCards[i], 7}
	}
	return list
}

// invalidDenies returns deny lists that are not valid, by what is wrong with them.
func invalidDenies() map[string]impl.Deny {
	list := map[string]impl.Deny{
		"version below 0":          deny(-1, 4, 7),
		"version too great":        deny(1000, 4, 7),
		"least version":            deny(math.MinInt, 4, 7),
		"greatest version":         deny(math.MaxInt, 4, 7),
		"version below 0, empty":   deny(-1),
		"version too great, empty": deny(1000),
	}
	for name, cards := range invalidCards() {
		list["cards, "+name] = deny(3, cards...)
	}
	return list
}

// spareDeny returns a deny list with memory behind its cards.
func spareDeny(d impl.Deny) impl.Deny {
	return deny(d.Version, spare(d.Cards)...)
}

// spareDelta returns a delta with memory behind its cards.
func spareDelta(x impl.Delta) impl.Delta {
	return delta(x.From, x.To, spare(x.Add), spare(x.Remove))
}

// fillDelta writes a number into all memory of a delta.
func fillDelta(x impl.Delta, number int) {
	fill(x.Add, number)
	fill(x.Remove, number)
}
