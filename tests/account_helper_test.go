package tests

import (
	"math"
	"slices"

	"loop.example/transitfares/impl"
)

// account is taps with rules that have their stops.
type account struct {
	rules impl.Rules
	list  []impl.Tap
}

// noBill stands for what is not valid in any field.
var noBill = impl.Bill{Journey: noJourney, Price: -5, Amount: -6}

// cardless are cards that no tap of this file has; some of them could not have one.
var cardless = []int{50, 98, -1, 100, math.MinInt, math.MaxInt}

// bill returns the bill of a journey.
func bill(j impl.Journey, price int, amount int) impl.Bill {
	return impl.Bill{Journey: j, Price: price, Amount: amount}
}

// onRules returns rules for the line.
func onRules(window int, day int, week int) impl.Rules {
	return impl.Rules{Tariff: line(), Window: window, DayCap: day, WeekCap: week}
}

// drawnRules returns valid rules of drawn numbers.
func drawnRules(n *numbers) impl.Rules {
	return impl.Rules{
		Tariff:  drawn(n),
		Window:  windows[n.below(len(windows))],
		DayCap:  []int{0, 1, 300, 900, 4000, 50000}[n.below(6)],
		WeekCap: []int{0, 1, 700, 3000, 9000, 50000}[n.below(6)],
	}
}

// riders returns valid taps of cards that go in and out in turns, most of the time, within hours, days or weeks.
func riders(n *numbers, count int) []impl.Tap {
	var list []impl.Tap
	inside := map[int]bool{}
	now, spread := n.below(20000), []int{20, 60, 300, 1700}[n.below(4)]
	for i := range count {
		card := []int{0, 7, 99}[n.below(1+n.below(3))]
		if n.below(10) == 0 {
			inside[card] = !inside[card]
		}
		t := impl.Tap{Validator: n.below(10), Number: 7 * i, Card: card, Minute: min(impl.MaxMinute, now), Stop: n.below(impl.MaxStops), Out: inside[card]}
		inside[card] = !inside[card]
		list = append(list, t)
		now += n.below(spread)
	}
	return collected(list)
}

// atStopsOf returns taps at the stops that a tariff has.
func atStopsOf(t impl.Tariff, list []impl.Tap) []impl.Tap {
	own := slices.Clone(list)
	for i := range own {
		own[i].Stop %= len(t.Zones)
	}
	return own
}

// accounts returns taps by hand and drawn ones, each with rules for the line and with drawn ones.
func accounts() []account {
	n := &numbers{state: 39}
	lists := tapLists()
	for i := range 400 {
		lists = append(lists, riders(n, i%(impl.MaxTaps+1)))
	}
	var list []account
	for _, taps := range lists {
		for _, r := range []impl.Rules{onRules(30, 900, 3000), drawnRules(n)} {
			list = append(list, account{r, atStopsOf(r.Tariff, taps)})
		}
	}
	return list
}

// cardsOf returns the cards of taps, ascending, each once, by asking for each card there may be.
func cardsOf(list []impl.Tap) []int {
	var cards []int
	for card := range 100 {
		if len(ofCard(list, card)) > 0 {
			cards = append(cards, card)
		}
	}
	return cards
}

// billsBy returns the bills of a card.
func billsBy(x account, card int) []impl.Bill {
	list := journeysOf(ofCard(x.list, card))
	prices := linkedBy(trip{x.rules.Tariff, list}, x.rules.Window)
	charges := make([]impl.Charge, len(list))
	for i, j := range list {
		charges[i] = charge((j.Begin+1200)/1440, prices[i])
	}
	bills := make([]impl.Bill, len(list))
	for i, amount := range cappedBy(charges, x.rules.DayCap, x.rules.WeekCap) {
		bills[i] = bill(list[i], prices[i], amount)
	}
	return bills
}

// dueBy returns the sum of the amounts of bills.
func dueBy(bills []impl.Bill) int {
	due := 0
	for _, b := range bills {
		due += b.Amount
	}
	return due
}

// invalidRules returns rules that are not valid, by what is wrong with them.
func invalidRules() map[string]impl.Rules {
	list := map[string]impl.Rules{"nothing": {}}
	for name, a := range invalidTariffs() {
		list["tariff: "+name] = impl.Rules{Tariff: a, Window: 30, DayCap: 900, WeekCap: 3000}
	}
	for i, name := range []string{"below 0", "too great", "least of all", "greatest of all"} {
		list["window "+name] = onRules(badWindows[i], 900, 3000)
		list["day cap "+name] = onRules(30, badCaps[i], 3000)
		list["week cap "+name] = onRules(30, 900, badCaps[i])
	}
	return list
}
