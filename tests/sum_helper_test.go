package tests

import (
	"math"

	"loop.example/transitfares/impl"
)

// noEvent stands for what is not possible, so that it shows wherever it turns up.
var noEvent = impl.Event{Kind: -1, Amount: -2}

// The states and the kinds of events, with the numbers of the document.
const (
	open, closed, sent, paid, free, lost   = 0, 1, 2, 3, 4, 5
	add, closing, send, yes, no, takenBack = 1, 2, 3, 4, 5, 6
)

// aggregate returns an aggregate.
func aggregate(state int, amount int, tries int) impl.Sum {
	return impl.Sum{State: state, Amount: amount, Tries: tries}
}

// event returns an event.
func event(kind int, amount int) impl.Event {
	return impl.Event{Kind: kind, Amount: amount}
}

// eventsOf returns events of some kinds, in order; what is added is 300.
func eventsOf(kinds ...int) []impl.Event {
	var list []impl.Event
	for _, kind := range kinds {
		list = append(list, event(kind, 300))
	}
	return list
}

// isSum tells valid aggregates, state by state.
func isSum(a impl.Sum) bool {
	if a.Amount < 0 || a.Amount > 100000 || a.Tries < 0 || a.Tries > 4 {
		return false
	}
	switch a.State {
	case open:
		return a.Tries == 0
	case closed:
		return a.Amount > 0 && a.Tries < 4
	case sent, paid:
		return a.Amount > 0 && a.Tries >= 1
	case free:
		return a.Amount == 0 && a.Tries == 0
	case lost:
		return a.Amount > 0 && a.Tries == 4
	}
	return false
}

// steppedBy returns a valid aggregate after an event, kind by kind; false if it is not possible.
func steppedBy(a impl.Sum, e impl.Event) (impl.Sum, bool) {
	switch {
	case e.Kind == add && a.State == open && e.Amount >= 0 && e.Amount <= 100000 && a.Amount+e.Amount <= 100000:
		return aggregate(open, a.Amount+e.Amount, 0), true
	case e.Kind == closing && a.State == open && a.Amount == 0:
		return aggregate(free, 0, 0), true
	case e.Kind == closing && a.State == open:
		return aggregate(closed, a.Amount, 0), true
	case e.Kind == send && a.State == closed:
		return aggregate(sent, a.Amount, a.Tries+1), true
	case e.Kind == yes && a.State == sent:
		return aggregate(paid, a.Amount, a.Tries), true
	case (e.Kind == no || e.Kind == takenBack) && a.State == sent && a.Tries == 4:
		return aggregate(lost, a.Amount, 4), true
	case (e.Kind == no || e.Kind == takenBack) && a.State == sent:
		return aggregate(closed, a.Amount, a.Tries), true
	}
	return impl.Sum{}, false
}

// ranBy returns a valid aggregate after those events that are possible, and how many these are.
func ranBy(a impl.Sum, list []impl.Event) (impl.Sum, int) {
	many := 0
	for _, e := range list {
		if next, ok := steppedBy(a, e); ok {
			a, many = next, many+1
		}
	}
	return a, many
}

// anySums returns aggregates that are valid or not: all states with amounts and tries within the limits, at them and outside.
func anySums() []impl.Sum {
	var list []impl.Sum
	for _, state := range []int{0, 1, 2, 3, 4, 5, 6, 7, -1, math.MinInt, math.MaxInt} {
		for _, amount := range []int{0, 1, 2, 300, 50000, 99999, 100000, 100001, -1, math.MinInt, math.MaxInt} {
			for _, tries := range []int{0, 1, 2, 3, 4, 5, -1, math.MinInt, math.MaxInt} {
				list = append(list, aggregate(state, amount, tries))
			}
		}
	}
	return list
}

// sums returns those of anySums that are valid, or that are not.
func sums(valid bool) []impl.Sum {
	var list []impl.Sum
	for _, a := range anySums() {
		if isSum(a) == valid {
			list = append(list, a)
		}
	}
	return list
}

// anyEvents returns events of all kinds and others, with amounts within the limits, at them and outside.
func anyEvents() []impl.Event {
	var list []impl.Event
	for _, kind := range []int{0, 1, 2, 3, 4, 5, 6, 7, 8, -1, math.MinInt, math.MaxInt} {
		for _, amount := range []int{0, 1, 2, 299, 50000, 99698, 99700, 99701, 99999, 100000, 100001, -1, -300, math.MinInt, math.MaxInt, math.MaxInt - 300} {
			list = append(list, event(kind, amount))
		}
	}
	return list
}

// drawnEvents returns events, some of which are not possible. What comes next is more likely than not, so that aggregates get on.
func drawnEvents(n *numbers, a impl.Sum, count int) []impl.Event {
	var list []impl.Event
	for range count {
		e := event(n.below(9)-1, n.below([]int{2, 500, 120000}[n.below(3)])-1)
		if n.below(3) > 0 {
			kinds := map[int][]int{open: {add, add, closing}, closed: {send}, sent: {yes, no, no, no, takenBack, takenBack}}[a.State]
			if len(kinds) > 0 {
				e.Kind = kinds[n.below(len(kinds))]
			}
		}
		a, _ = ranBy(a, []impl.Event{e})
		list = append(list, e)
	}
	return list
}

// run is an aggregate and events that happen to it.
type run struct {
	sum    impl.Sum
	events []impl.Event
}

// runs returns valid aggregates with at most MaxEvents events: an open one with drawn events of all numbers, and all others.
func runs() []run {
	n := &numbers{state: 80}
	var list []run
	for i := range 1000 {
		list = append(list, run{impl.Sum{}, drawnEvents(n, impl.Sum{}, i%21)})
	}
	for i, a := range sums(true) {
		for j := range 5 {
			list = append(list, run{a, drawnEvents(n, a, (5*i+j)%21)})
		}
	}
	return list
}
