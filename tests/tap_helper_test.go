package tests

import (
	"maps"
	"math"
	"slices"

	"loop.example/transitfares/impl"
)

// noTap and noJourney stand for what is not valid in any field, so that they show wherever they turn up.
var (
	noTap     = impl.Tap{Validator: -1, Number: -2, Card: -3, Minute: -4, Stop: -5}
	noJourney = impl.Journey{From: -1, To: -2, Begin: -3, End: -4}
)

// widened returns a list with memory behind it that holds a value, so that a write into it shows.
func widened[T any](list []T, behind T) []T {
	wide := slices.Grow(slices.Clone(list), len(list)+4)
	for i := len(list); i < cap(wide); i++ {
		wide[:cap(wide)][i] = behind
	}
	return wide
}

// whole returns a copy of all memory of a list, with that behind it.
func whole[T any](list []T) []T {
	return slices.Clone(list[:cap(list)])
}

// fill writes a value into all memory of a list.
func fill[T any](list []T, value T) {
	for i := range list[:cap(list)] {
		list[:cap(list)][i] = value
	}
}

// in returns a way in: the tap of a number of validator 1.
func in(number int, card int, minute int, stop int) impl.Tap {
	return impl.Tap{Validator: 1, Number: number, Card: card, Minute: minute, Stop: stop}
}

// out returns a way out.
func out(number int, card int, minute int, stop int) impl.Tap {
	t := in(number, card, minute, stop)
	t.Out = true
	return t
}

// at returns a tap of another validator.
func at(validator int, t impl.Tap) impl.Tap {
	t.Validator = validator
	return t
}

// isTap tells valid taps field by field, with the numbers of the document.
func isTap(t impl.Tap) bool {
	limits := [][2]int{{t.Validator, 9}, {t.Number, 999}, {t.Card, 99}, {t.Minute, 40319}, {t.Stop, 9}}
	return !slices.ContainsFunc(limits, func(l [2]int) bool { return l[0] < 0 || l[0] > l[1] })
}

// sorted returns taps in their order.
func sorted(list []impl.Tap) []impl.Tap {
	key := func(t impl.Tap) int { return (t.Minute*10+t.Validator)*1000 + t.Number }
	own := slices.Clone(list)
	slices.SortFunc(own, func(a impl.Tap, b impl.Tap) int { return key(a) - key(b) })
	return own
}

// collected returns the taps that are taken from a list: the first valid one of each number of a validator, until there are MaxTaps.
func collected(list []impl.Tap) []impl.Tap {
	var taken []impl.Tap
	known := map[[2]int]bool{}
	for _, t := range list {
		key := [2]int{t.Validator, t.Number}
		if isTap(t) && !known[key] && len(taken) < 24 {
			known[key] = true
			taken = append(taken, t)
		}
	}
	return sorted(taken)
}

// without returns a list without one of its elements.
func without[T any](list []T, i int) []T {
	return slices.Delete(slices.Clone(list), i, i+1)
}

// withInvalid returns values that are valid, and then those that are not.
func withInvalid[T any](valid []T, invalid map[string]T) []T {
	return slices.AppendSeq(valid, maps.Values(invalid))
}

// turned returns a list in reverse order.
func turned[T any](list []T) []T {
	own := slices.Clone(list)
	slices.Reverse(own)
	return own
}

// mixed returns a list in a drawn order.
func mixed[T any](n *numbers, list []T) []T {
	own := slices.Clone(list)
	for i := len(own) - 1; i > 0; i-- {
		j := n.below(i + 1)
		own[i], own[j] = own[j], own[i]
	}
	return own
}

// ofCard returns those taps that have a card.
func ofCard(list []impl.Tap, card int) []impl.Tap {
	return slices.DeleteFunc(slices.Clone(list), func(t impl.Tap) bool { return t.Card != card })
}

// drawnTap returns a valid tap. A small spread makes equal minutes and numbers likely.
func drawnTap(n *numbers, spread int) impl.Tap {
	return impl.Tap{
		Validator: n.below(3),
		Number:    n.below(min(1000, 3+spread)),
		Card:      n.below(3) * 7,
		Minute:    1000 + n.below(1+40*spread),
		Stop:      n.below(impl.MaxStops),
		Out:       n.below(2) == 0,
	}
}

// drawnTaps returns taps in any order, with some that come twice and some that are not valid.
func drawnTaps(n *numbers, count int) []impl.Tap {
	spread := []int{0, 4, 30, 300}[n.below(4)]
	list := make([]impl.Tap, count)
	for i := range list {
		list[i] = drawnTap(n, spread)
		switch n.below(8) {
		case 0:
			list[i] = list[n.below(i+1)]
		case 1:
			list[i].Stop = impl.MaxStops * n.below(2)
		}
	}
	return list
}

// fullTaps returns MaxTaps valid taps of card 7, in and out in turns, ten minutes apart.
func fullTaps() []impl.Tap {
	list := make([]impl.Tap, impl.MaxTaps)
	for i := range list {
		list[i] = impl.Tap{Validator: 9 - i%10, Number: 100 - i, Card: 7, Minute: 500 + 10*i, Stop: i % 10, Out: i%2 == 1}
	}
	return list
}

// tapLists returns taps that are valid and in order: some by hand, and drawn ones of all lengths.
func tapLists() [][]impl.Tap {
	list := [][]impl.Tap{
		nil,
		{},
		{{}},
		{{Validator: 9, Number: 999, Card: 99, Minute: 40319, Stop: 9, Out: true}},
		{in(1, 7, 500, 0), out(2, 7, 530, 2)},
		{in(9, 7, 500, 0), out(1, 7, 501, 2)},
		{at(0, in(9, 7, 500, 0)), at(1, out(1, 7, 500, 2)), at(1, in(2, 3, 500, 2)), at(9, out(0, 3, 500, 2))},
		{at(3, in(5, 7, 500, 0)), at(4, in(5, 7, 500, 0)), at(2, out(5, 7, 680, 1)), at(2, out(6, 7, 680, 1))},
		fullTaps(),
	}
	n := &numbers{state: 3}
	for i := range 400 {
		list = append(list, collected(drawnTaps(n, i%(2*impl.MaxTaps+1))))
	}
	return list
}

// invalidTaps returns taps that are not valid each, by what is wrong with them.
func invalidTaps() map[string]impl.Tap {
	list := map[string]impl.Tap{}
	for name, n := range map[string][]int{
		"validator": {-1, 10, math.MinInt, math.MaxInt},
		"number":    {-1, 1000, math.MinInt, math.MaxInt},
		"card":      {-1, 100, math.MinInt, math.MaxInt},
		"minute":    {-1, 40320, math.MinInt, math.MaxInt},
		"stop":      {-1, 10, math.MinInt, math.MaxInt},
	} {
		for i, value := range n {
			t := in(5, 7, 500, 3)
			*map[string]*int{"validator": &t.Validator, "number": &t.Number, "card": &t.Card, "minute": &t.Minute, "stop": &t.Stop}[name] = value
			list[name+[]string{" below 0", " too great", " least of all", " greatest of all"}[i]] = t
		}
	}
	list["everything"] = noTap
	return list
}

// invalidLists returns taps that are not in order, or of which one is not valid, by what is wrong with them.
func invalidLists() map[string][]impl.Tap {
	a, b, c := in(4, 7, 500, 0), out(6, 7, 530, 2), in(8, 3, 530, 1)
	list := map[string][]impl.Tap{
		"one tap too many":            append(fullTaps(), in(500, 7, 9000, 0)),
		"minutes that fall":           {b, a},
		"minutes that fall at last":   {a, b, in(7, 7, 529, 0)},
		"validators that fall":        {at(3, a), at(2, in(5, 7, 500, 0))},
		"numbers that fall":           {a, in(3, 7, 500, 0)},
		"validators before numbers":   {at(2, in(3, 7, 500, 0)), at(1, in(4, 7, 500, 0))},
		"the same tap twice":          {a, a},
		"the same tap around another": {a, b, a},
		"one number, another card":    {a, in(4, 8, 500, 0)},
		"one number, a later minute":  {a, in(4, 7, 501, 0)},
		"one number around another":   {a, b, in(4, 3, 600, 1)},
		"one number at both ends":     {a, b, c, in(9, 7, 540, 0), out(4, 7, 560, 0)},
	}
	for name, t := range invalidTaps() {
		list["alone: "+name] = []impl.Tap{t}
		list["first: "+name] = []impl.Tap{t, in(70, 7, 40319, 0)}
		list["last: "+name] = []impl.Tap{in(70, 7, 0, 0), t}
		list["between: "+name] = []impl.Tap{in(70, 7, 0, 0), t, in(71, 7, 40319, 0)}
	}
	return list
}
