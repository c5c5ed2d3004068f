package tests

import (
	"math"
	"slices"

	"loop.example/transitfares/impl"
)

// hold is what is told to a validator when a card is held to it.
type hold struct {
	card   int
	minute int
	stop   int
	out    bool
}

// gate returns validator 1.
func gate(next int, d impl.Deny, kept ...impl.Tap) impl.Gate {
	return impl.Gate{Validator: 1, Next: next, Deny: d, Kept: kept}
}

// keptTaps returns taps of validator 1 with numbers that follow each other.
func keptTaps(first int, count int) []impl.Tap {
	list := make([]impl.Tap, count)
	for i := range list {
		list[i] = impl.Tap{Validator: 1, Number: first + i, Card: 7 + i%3, Minute: 500 + 10*i, Stop: i % 10, Out: i%2 == 1}
	}
	return list
}

// sameGate reports whether two validators are equal.
func sameGate(a impl.Gate, b impl.Gate) bool {
	return a.Validator == b.Validator && a.Next == b.Next && sameDeny(a.Deny, b.Deny) && slices.Equal(a.Kept, b.Kept)
}

// ownGate returns a copy that shares no memory.
func ownGate(g impl.Gate) impl.Gate {
	g.Deny = deny(g.Deny.Version, slices.Clone(g.Deny.Cards)...)
	g.Kept = slices.Clone(g.Kept)
	return g
}

// drawnGate returns a valid validator with a number of taps, whose minutes need not ascend and whose numbers can have gaps.
func drawnGate(n *numbers, count int) impl.Gate {
	g := impl.Gate{Validator: n.below(10), Deny: deny(n.below(1000), drawnCards(n, n.below(13), []int{13, 100}[n.below(2)])...)}
	g.Next = n.below(3) * 300
	for range count {
		g.Kept = append(g.Kept, impl.Tap{Validator: g.Validator, Number: g.Next, Card: n.below(100), Minute: n.below(40320), Stop: n.below(10), Out: n.below(2) == 0})
		g.Next += 1 + n.below(2)*n.below(30)
	}
	if n.below(4) == 0 {
		g.Next = 1000 - n.below(2)
	}
	return g
}

// gates returns valid validators: some by hand, and drawn ones with all numbers of taps.
func gates() []impl.Gate {
	list := []impl.Gate{
		{},
		{Kept: []impl.Tap{}, Deny: deny(0, []int{}...)},
		{Validator: 9, Next: 1000, Deny: deny(999, 99), Kept: []impl.Tap{{Validator: 9, Number: 999, Card: 99, Minute: 40319, Stop: 9, Out: true}}},
		gate(10, deny(3, 4, 7), keptTaps(0, 10)...),
		gate(1000, deny(3, 4, 7), keptTaps(990, 10)...),
		gate(999, deny(3, 4, 7), keptTaps(989, 10)...),
		gate(9, deny(3, cardsFrom(0, 12)...), keptTaps(0, 9)...),
		gate(999, deny(3, 4, 7)),
		gate(1000, deny(3, 4, 7)),
		gate(700, deny(3, 4, 7), keptTaps(0, 5)...),
		gate(20, deny(3), in(3, 7, 900, 0), out(5, 7, 600, 0), in(19, 7, 600, 0)),
	}
	n := &numbers{state: 61}
	for i := range 300 {
		list = append(list, drawnGate(n, i%11))
	}
	return list
}

// holdsAt returns cards, denied ones among them, that are held to a validator on the way in and out.
func holdsAt(n *numbers, g impl.Gate) []hold {
	cards := append([]int{0, 99, n.below(100)}, g.Deny.Cards...)
	var list []hold
	for _, card := range cards {
		for _, out := range []bool{false, true} {
			list = append(list, hold{card, []int{0, 40319, n.below(40320)}[n.below(3)], n.below(10), out})
		}
	}
	return list
}

// heldBy returns a valid validator after a card is held to it, and whether it is let through.
func heldBy(g impl.Gate, h hold) (impl.Gate, bool) {
	more := ownGate(g)
	denied := slices.Contains(g.Deny.Cards, h.card)
	if len(g.Kept) < 10 && g.Next < 1000 && (h.out || !denied) {
		more.Kept = append(more.Kept, impl.Tap{Validator: g.Validator, Number: g.Next, Card: h.card, Minute: h.minute, Stop: h.stop, Out: h.out})
		more.Next = g.Next + 1
		return more, true
	}
	return more, h.out
}

// sentBy returns a validator without its first taps, and these, one after the other.
func sentBy(g impl.Gate, many int) (impl.Gate, []impl.Tap) {
	less := ownGate(g)
	less.Kept = nil
	var sent []impl.Tap
	for i, x := range g.Kept {
		if i < many {
			sent = append(sent, x)
		} else {
			less.Kept = append(less.Kept, x)
		}
	}
	return less, sent
}

// invalidHolds returns what can't be told to a validator, by what is wrong with it.
func invalidHolds() map[string]hold {
	list := map[string]hold{"everything": {-1, -1, -1, false}, "everything on the way out": {100, 40320, 10, true}}
	for _, out := range []bool{false, true} {
		way := map[bool]string{false: " on the way in", true: " on the way out"}[out]
		for i, name := range []string{" below 0", " too great", " least of all", " greatest of all"} {
			list["card"+name+way] = hold{badCards[i], 600, 3, out}
			list["minute"+name+way] = hold{7, []int{-1, 40320, math.MinInt, math.MaxInt}[i], 3, out}
			list["stop"+name+way] = hold{7, 600, []int{-1, 10, math.MinInt, math.MaxInt}[i], out}
		}
	}
	return list
}

// invalidGates returns validators that are not valid, by what is wrong with them.
func invalidGates() map[string]impl.Gate {
	list := map[string]impl.Gate{
		"validator below 0":            {Validator: -1, Next: 5},
		"validator too great":          {Validator: 10, Next: 5},
		"least validator":              {Validator: math.MinInt, Next: 5},
		"greatest validator":           {Validator: math.MaxInt, Next: 5},
		"validator below 0 with taps":  {Validator: -1, Next: 5, Kept: []impl.Tap{at(-1, in(3, 7, 600, 0))}},
		"validator 10 with its taps":   {Validator: 10, Next: 5, Kept: []impl.Tap{at(10, in(3, 7, 600, 0))}},
		"next below 0":                 gate(-1, deny(3)),
		"next too great":               gate(1001, deny(3)),
		"least next":                   gate(math.MinInt, deny(3)),
		"greatest next":                gate(math.MaxInt, deny(3)),
		"next too great with taps":     gate(1001, deny(3), keptTaps(0, 4)...),
		"a tap too many":               gate(900, deny(3), keptTaps(0, 11)...),
		"many taps too many":           gate(1000, deny(3), keptTaps(0, 200)...),
		"another validator":            gate(9, deny(3), at(2, in(3, 7, 600, 0))),
		"another validator at first":   gate(9, deny(3), at(2, in(3, 7, 600, 0)), in(4, 7, 610, 0)),
		"another validator at last":    gate(9, deny(3), in(3, 7, 600, 0), at(0, in(4, 7, 610, 0))),
		"numbers that fall":            gate(9, deny(3), in(4, 7, 600, 0), in(3, 7, 610, 0)),
		"numbers that fall at end":     gate(9, deny(3), in(2, 7, 600, 0), in(4, 7, 610, 0), in(3, 7, 620, 0)),
		"numbers that fall at first":   gate(9, deny(3), in(4, 7, 600, 0), in(2, 7, 610, 0), in(5, 7, 620, 0)),
		"a number twice":               gate(9, deny(3), in(4, 7, 600, 0), out(4, 7, 610, 0)),
		"a number that is the next":    gate(4, deny(3), in(4, 7, 600, 0)),
		"a last number that is next":   gate(4, deny(3), in(3, 7, 600, 0), out(4, 7, 610, 0)),
		"a number behind the next":     gate(4, deny(3), in(3, 7, 600, 0), out(9, 7, 610, 0)),
		"a number before any is given": gate(0, deny(3), in(0, 7, 600, 0)),
	}
	for name, d := range invalidDenies() {
		list["deny list: "+name] = gate(9, d, keptTaps(0, 3)...)
	}
	for name, x := range invalidTaps() {
		list["tap alone: "+name] = gate(9, deny(3), x)
		list["first tap: "+name] = gate(900, deny(3), x, in(899, 7, 600, 0))
		list["last tap: "+name] = gate(900, deny(3), in(0, 7, 600, 0), x)
	}
	return list
}

// spareGate returns a validator all of whose slices have memory behind them.
func spareGate(g impl.Gate) impl.Gate {
	g.Deny = spareDeny(g.Deny)
	g.Kept = widened(g.Kept, noTap)
	return g
}

// wholeGate returns a copy of all memory of a validator, with that behind its slices.
func wholeGate(g impl.Gate) impl.Gate {
	g.Deny = deny(g.Deny.Version, whole(g.Deny.Cards)...)
	g.Kept = whole(g.Kept)
	return g
}

// fillGate writes over all memory of a validator.
func fillGate(g impl.Gate) {
	fill(g.Deny.Cards, -9)
	fill(g.Kept, noTap)
}
