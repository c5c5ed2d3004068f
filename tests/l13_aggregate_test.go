package tests

import (
	"math"
	"slices"
	"testing"

	"loop.example/transitfares/impl"
)

// mustRun returns RunEvents, which has to succeed and make a valid aggregate.
func mustRun(t *testing.T, a impl.Sum, list []impl.Event) (impl.Sum, int) {
	t.Helper()
	got, many := impl.RunEvents(a, list)
	if many < 0 || !impl.ValidSum(got) {
		t.Fatalf("RunEvents(%v, %v) = %v, %d", a, list, got, many)
	}
	return got, many
}

func TestStatesAndKindsAreThoseOfTheDocument(t *testing.T) {
	states := []int{impl.SumOpen, impl.SumClosed, impl.SumSent, impl.SumPaid, impl.SumFree, impl.SumLost}
	if !slices.Equal(states, []int{open, closed, sent, paid, free, lost}) {
		t.Errorf("the states are %v", states)
	}
	kinds := []int{impl.EventAdd, impl.EventClose, impl.EventSend, impl.EventYes, impl.EventNo, impl.EventBack}
	if !slices.Equal(kinds, []int{add, closing, send, yes, no, takenBack}) {
		t.Errorf("the kinds are %v", kinds)
	}
}

func TestValidSumOfSomeAggregates(t *testing.T) {
	for _, c := range []struct {
		sum  impl.Sum
		want bool
	}{
		{aggregate(open, 0, 0), true}, {aggregate(open, 100000, 0), true}, {aggregate(open, 0, 1), false}, {aggregate(open, 300, 4), false},
		{aggregate(closed, 1, 0), true}, {aggregate(closed, 100000, 3), true}, {aggregate(closed, 300, 4), false}, {aggregate(closed, 0, 0), false}, {aggregate(closed, 0, 2), false},
		{aggregate(sent, 1, 1), true}, {aggregate(sent, 100000, 4), true}, {aggregate(sent, 300, 0), false}, {aggregate(sent, 300, 5), false}, {aggregate(sent, 0, 1), false},
		{aggregate(paid, 1, 1), true}, {aggregate(paid, 100000, 4), true}, {aggregate(paid, 300, 0), false}, {aggregate(paid, 300, 5), false}, {aggregate(paid, 0, 1), false},
		{aggregate(free, 0, 0), true}, {aggregate(free, 1, 0), false}, {aggregate(free, 0, 1), false}, {aggregate(free, 300, 0), false},
		{aggregate(lost, 1, 4), true}, {aggregate(lost, 100000, 4), true}, {aggregate(lost, 300, 3), false}, {aggregate(lost, 300, 5), false}, {aggregate(lost, 0, 4), false}, {aggregate(lost, 300, 0), false},
		{aggregate(open, 100001, 0), false}, {aggregate(closed, 100001, 1), false}, {aggregate(sent, 100001, 1), false}, {aggregate(paid, 100001, 1), false}, {aggregate(lost, 100001, 4), false},
		{aggregate(open, -1, 0), false}, {aggregate(free, -1, 0), false}, {aggregate(open, 0, -1), false}, {aggregate(closed, 300, -1), false}, {aggregate(free, 0, -1), false},
		{aggregate(6, 300, 1), false}, {aggregate(-1, 0, 0), false}, {aggregate(6, 0, 0), false}, {aggregate(math.MinInt, 0, 0), false}, {aggregate(math.MaxInt, 0, 0), false},
	} {
		if got := impl.ValidSum(c.sum); got != c.want {
			t.Errorf("ValidSum(%v) = %v", c.sum, got)
		}
	}
}

func TestValidSumOfManyAggregates(t *testing.T) {
	for _, a := range anySums() {
		if got := impl.ValidSum(a); got != isSum(a) {
			t.Errorf("ValidSum(%v) = %v", a, got)
		}
	}
}

func TestStepSumOfSomeEvents(t *testing.T) {
	for _, c := range []struct {
		name  string
		sum   impl.Sum
		event impl.Event
		want  impl.Sum
		ok    bool
	}{
		{"add", aggregate(open, 200, 0), event(add, 300), aggregate(open, 500, 0), true},
		{"add nothing", aggregate(open, 200, 0), event(add, 0), aggregate(open, 200, 0), true},
		{"add nothing to nothing", aggregate(open, 0, 0), event(add, 0), aggregate(open, 0, 0), true},
		{"add nothing to MaxAmount", aggregate(open, 100000, 0), event(add, 0), aggregate(open, 100000, 0), true},
		{"add up to MaxAmount", aggregate(open, 99700, 0), event(add, 300), aggregate(open, 100000, 0), true},
		{"add MaxAmount", aggregate(open, 0, 0), event(add, 100000), aggregate(open, 100000, 0), true},
		{"add one too many", aggregate(open, 99701, 0), event(add, 300), impl.Sum{}, false},
		{"add more than MaxAmount", aggregate(open, 0, 0), event(add, 100001), impl.Sum{}, false},
		{"add to MaxAmount", aggregate(open, 100000, 0), event(add, 1), impl.Sum{}, false},
		{"add less than nothing", aggregate(open, 200, 0), event(add, -1), impl.Sum{}, false},
		{"add the greatest number", aggregate(open, 200, 0), event(add, math.MaxInt), impl.Sum{}, false},
		{"add the least number", aggregate(open, 200, 0), event(add, math.MinInt), impl.Sum{}, false},
		{"add to a closed one", aggregate(closed, 200, 0), event(add, 300), impl.Sum{}, false},
		{"add nothing to a closed one", aggregate(closed, 200, 0), event(add, 0), impl.Sum{}, false},
		{"add to a free one", aggregate(free, 0, 0), event(add, 300), impl.Sum{}, false},
		{"add to a sent one", aggregate(sent, 200, 1), event(add, 300), impl.Sum{}, false},
		{"close", aggregate(open, 200, 0), event(closing, 0), aggregate(closed, 200, 0), true},
		{"close the least amount", aggregate(open, 1, 0), event(closing, 0), aggregate(closed, 1, 0), true},
		{"close the greatest amount", aggregate(open, 100000, 0), event(closing, 0), aggregate(closed, 100000, 0), true},
		{"close without an amount", aggregate(open, 0, 0), event(closing, 0), aggregate(free, 0, 0), true},
		{"close twice", aggregate(closed, 200, 0), event(closing, 0), impl.Sum{}, false},
		{"close a free one", aggregate(free, 0, 0), event(closing, 0), impl.Sum{}, false},
		{"send", aggregate(closed, 200, 0), event(send, 0), aggregate(sent, 200, 1), true},
		{"send again", aggregate(closed, 200, 2), event(send, 0), aggregate(sent, 200, 3), true},
		{"send the last time", aggregate(closed, 200, 3), event(send, 0), aggregate(sent, 200, 4), true},
		{"send an open one", aggregate(open, 200, 0), event(send, 0), impl.Sum{}, false},
		{"send a sent one", aggregate(sent, 200, 1), event(send, 0), impl.Sum{}, false},
		{"send a free one", aggregate(free, 0, 0), event(send, 0), impl.Sum{}, false},
		{"send a lost one", aggregate(lost, 200, 4), event(send, 0), impl.Sum{}, false},
		{"send a paid one", aggregate(paid, 200, 1), event(send, 0), impl.Sum{}, false},
		{"yes", aggregate(sent, 200, 1), event(yes, 0), aggregate(paid, 200, 1), true},
		{"yes to the last try", aggregate(sent, 200, 4), event(yes, 0), aggregate(paid, 200, 4), true},
		{"yes to a closed one", aggregate(closed, 200, 1), event(yes, 0), impl.Sum{}, false},
		{"yes to an open one", aggregate(open, 200, 0), event(yes, 0), impl.Sum{}, false},
		{"yes to a paid one", aggregate(paid, 200, 1), event(yes, 0), impl.Sum{}, false},
		{"yes to a lost one", aggregate(lost, 200, 4), event(yes, 0), impl.Sum{}, false},
		{"no", aggregate(sent, 200, 1), event(no, 0), aggregate(closed, 200, 1), true},
		{"no to the last but one", aggregate(sent, 200, 3), event(no, 0), aggregate(closed, 200, 3), true},
		{"no to the last try", aggregate(sent, 200, 4), event(no, 0), aggregate(lost, 200, 4), true},
		{"no to a closed one", aggregate(closed, 200, 1), event(no, 0), impl.Sum{}, false},
		{"no to a paid one", aggregate(paid, 200, 4), event(no, 0), impl.Sum{}, false},
		{"back", aggregate(sent, 200, 1), event(takenBack, 0), aggregate(closed, 200, 1), true},
		{"back the last but one", aggregate(sent, 200, 3), event(takenBack, 0), aggregate(closed, 200, 3), true},
		{"back the last try", aggregate(sent, 200, 4), event(takenBack, 0), aggregate(lost, 200, 4), true},
		{"back a closed one", aggregate(closed, 200, 1), event(takenBack, 0), impl.Sum{}, false},
		{"back a paid one", aggregate(paid, 200, 1), event(takenBack, 0), impl.Sum{}, false},
		{"no event", aggregate(open, 200, 0), impl.Event{}, impl.Sum{}, false},
		{"an event behind all", aggregate(open, 200, 0), event(7, 0), impl.Sum{}, false},
	} {
		if got, ok := impl.StepSum(c.sum, c.event); got != c.want || ok != c.ok {
			t.Errorf("%s: StepSum(%v, %v) = %v, %v, want %v, %v", c.name, c.sum, c.event, got, ok, c.want, c.ok)
		}
	}
}

// The amount of an event that adds nothing has no meaning.
func TestStepSumOfEventsWithAmounts(t *testing.T) {
	for _, a := range sums(true) {
		for kind := closing; kind <= takenBack; kind++ {
			want, wantOk := impl.StepSum(a, event(kind, 0))
			for _, amount := range []int{1, 300, 100001, -1, math.MinInt, math.MaxInt} {
				if got, ok := impl.StepSum(a, event(kind, amount)); got != want || ok != wantOk {
					t.Errorf("StepSum(%v, %d) of kind %d = %v, %v, want %v, %v", a, amount, kind, got, ok, want, wantOk)
				}
			}
		}
	}
}

func TestP80AggregatesStayValid(t *testing.T) {
	for _, a := range sums(true) {
		for _, e := range anyEvents() {
			got, ok := impl.StepSum(a, e)
			if want, wantOk := steppedBy(a, e); got != want || ok != wantOk {
				t.Fatalf("StepSum(%v, %v) = %v, %v, want %v, %v", a, e, got, ok, want, wantOk)
			}
			if ok && !impl.ValidSum(got) {
				t.Fatalf("StepSum(%v, %v) = %v, which is not valid", a, e, got)
			}
		}
	}
}

func TestP81AmountsAreKept(t *testing.T) {
	changed := map[int]int{}
	for _, a := range sums(true) {
		for _, e := range anyEvents() {
			got, ok := impl.StepSum(a, e)
			if !ok {
				continue
			}
			if got.Amount != a.Amount && (e.Kind != add || got.Amount != a.Amount+e.Amount) {
				t.Fatalf("StepSum(%v, %v) = %v with another amount", a, e, got)
			}
			if got.Tries != a.Tries && (e.Kind != send || got.Tries != a.Tries+1) {
				t.Fatalf("StepSum(%v, %v) = %v with other tries", a, e, got)
			}
			if got.Amount != a.Amount || got.Tries != a.Tries {
				changed[e.Kind]++
			}
		}
	}
	if len(changed) != 2 || changed[add] < 10 || changed[send] < 10 {
		t.Errorf("amounts and tries were changed by %v", changed)
	}
}

func TestP82PaidIsPaid(t *testing.T) {
	became := 0
	for _, a := range sums(true) {
		next, ok := impl.StepSum(a, event(yes, 0))
		if !ok {
			continue
		}
		became++
		if next.State != impl.SumPaid || !impl.IsFinal(next) {
			t.Fatalf("StepSum(%v) of EventYes = %v", a, next)
		}
		for _, e := range anyEvents() {
			if got, ok := impl.StepSum(next, e); ok || got != (impl.Sum{}) {
				t.Fatalf("StepSum(%v, %v) = %v, %v", next, e, got, ok)
			}
		}
	}
	if became < 20 {
		t.Errorf("only %d aggregates became paid", became)
	}
}

func TestStepSumOfInvalidAggregates(t *testing.T) {
	for _, a := range sums(false) {
		for _, e := range anyEvents() {
			if got, ok := impl.StepSum(a, e); ok || got != (impl.Sum{}) {
				t.Fatalf("StepSum(%v, %v) = %v, %v", a, e, got, ok)
			}
		}
	}
}

func TestP153ClosedAggregatesHaveAmounts(t *testing.T) {
	for amount := range 100001 {
		want := impl.SumClosed
		if amount == 0 {
			want = impl.SumFree
		}
		if got, ok := impl.StepSum(aggregate(open, amount, 0), event(closing, 0)); !ok || got != aggregate(want, amount, 0) {
			t.Fatalf("EventClose of %d = %v, %v", amount, got, ok)
		}
	}
}

func TestRunEventsOfSomeEvents(t *testing.T) {
	for _, c := range []struct {
		name   string
		sum    impl.Sum
		events []impl.Event
		want   impl.Sum
		many   int
	}{
		{"no events", aggregate(closed, 200, 2), nil, aggregate(closed, 200, 2), 0},
		{"paid at once", impl.Sum{}, eventsOf(add, closing, send, yes), aggregate(paid, 300, 1), 4},
		{"paid by the last try", impl.Sum{}, eventsOf(add, closing, send, no, send, takenBack, send, no, send, yes), aggregate(paid, 300, 4), 10},
		{"lost by a no", impl.Sum{}, eventsOf(add, closing, send, no, send, no, send, no, send, no), aggregate(lost, 300, 4), 10},
		{"lost by a back", impl.Sum{}, eventsOf(add, closing, send, takenBack, send, takenBack, send, takenBack, send, takenBack), aggregate(lost, 300, 4), 10},
		{"lost for ever", impl.Sum{}, eventsOf(add, closing, send, no, send, no, send, no, send, no, send, yes, add, closing, takenBack), aggregate(lost, 300, 4), 10},
		{"paid for ever", impl.Sum{}, eventsOf(add, closing, send, yes, no, takenBack, yes, send, add, closing), aggregate(paid, 300, 1), 4},
		{"free for ever", impl.Sum{}, eventsOf(closing, add, closing, send, yes, no, takenBack), aggregate(free, 0, 0), 1},
		{"nothing but what is not possible", impl.Sum{}, eventsOf(send, yes, no, takenBack, 0, 7, -1), impl.Sum{}, 0},
		{"some that are not possible", impl.Sum{}, eventsOf(yes, add, send, add, no, closing, add, yes, send, closing, send, no, no, send), aggregate(sent, 600, 2), 6},
		{"more than there may be", aggregate(open, 99000, 0), eventsOf(add, add, add, add, add), aggregate(open, 99900, 0), 3},
		{"too much, and then a little", aggregate(open, 99000, 0), []impl.Event{event(add, 1001), event(add, 1000), event(add, 1), event(add, 0)}, aggregate(open, 100000, 0), 2},
		{"less than nothing", aggregate(open, 500, 0), []impl.Event{event(add, -300), event(add, 300)}, aggregate(open, 800, 0), 1},
		{"from a sent one", aggregate(sent, 5, 3), eventsOf(no, send, no, send), aggregate(lost, 5, 4), 3},
		{"MaxEvents events", impl.Sum{}, slices.Repeat(eventsOf(add), 20), aggregate(open, 6000, 0), 20},
		{"MaxEvents events that are not possible", aggregate(paid, 5, 1), slices.Repeat(eventsOf(add), 20), aggregate(paid, 5, 1), 0},
		{"one event too many", impl.Sum{}, slices.Repeat(eventsOf(add), 21), impl.Sum{}, -1},
		{"one event too many that is not possible", aggregate(paid, 5, 1), slices.Repeat(eventsOf(add), 21), impl.Sum{}, -1},
		{"many events too many", impl.Sum{}, slices.Repeat(eventsOf(add), 500), impl.Sum{}, -1},
	} {
		if got, many := impl.RunEvents(c.sum, c.events); got != c.want || many != c.many {
			t.Errorf("%s: RunEvents = %v, %d, want %v, %d", c.name, got, many, c.want, c.many)
		}
	}
}

func TestRunEventsOfManyEvents(t *testing.T) {
	ended := map[int]int{}
	for _, r := range runs() {
		got, many := mustRun(t, r.sum, r.events)
		if want, wantMany := ranBy(r.sum, r.events); got != want || many != wantMany {
			t.Fatalf("RunEvents(%v, %v) = %v, %d, want %v, %d", r.sum, r.events, got, many, want, wantMany)
		}
		ended[got.State]++
	}
	for state := range 6 {
		if ended[state] < 30 {
			t.Errorf("only %d runs end with state %d", ended[state], state)
		}
	}
}

func TestP83EventsRunOneByOne(t *testing.T) {
	for _, r := range runs() {
		want, wantMany := mustRun(t, r.sum, r.events)
		for at := range len(r.events) + 1 {
			first, a := mustRun(t, r.sum, r.events[:at])
			got, b := mustRun(t, first, r.events[at:])
			if got != want || a+b != wantMany {
				t.Fatalf("RunEvents(%v, %v), taken apart at %d, = %v, %d and %d, want %v, %d", r.sum, r.events, at, got, a, b, want, wantMany)
			}
		}
	}
}

func TestP84MoneyIsAskedForAFewTimes(t *testing.T) {
	most := 0
	for _, r := range runs() {
		became, before := 0, r.sum
		for at := range r.events {
			next, many := mustRun(t, before, r.events[at:at+1])
			if next.State == impl.SumPaid && many == 1 {
				became++
			}
			if next.Tries > impl.MaxTries || next.Tries > before.Tries+1 {
				t.Fatalf("RunEvents(%v, %v) = %v", before, r.events[at], next)
			}
			before = next
		}
		if became > 1 || became == 1 && r.sum.State == impl.SumPaid {
			t.Fatalf("RunEvents(%v, %v) makes it paid %d times", r.sum, r.events, became)
		}
		most = max(most, before.Tries)
	}
	if most != impl.MaxTries {
		t.Errorf("no run has more than %d tries", most)
	}
}

func TestP154WithoutEventsNothingHappens(t *testing.T) {
	for _, a := range sums(true) {
		for _, none := range [][]impl.Event{nil, {}} {
			if got, many := impl.RunEvents(a, none); got != a || many != 0 {
				t.Errorf("RunEvents(%v) without events = %v, %d", a, got, many)
			}
		}
		var impossible []impl.Event
		for _, e := range anyEvents() {
			if _, ok := steppedBy(a, e); !ok {
				impossible = append(impossible, e)
			}
		}
		for list := range slices.Chunk(impossible, impl.MaxEvents) {
			if got, many := impl.RunEvents(a, list); got != a || many != 0 {
				t.Errorf("RunEvents(%v, %v) = %v, %d", a, list, got, many)
			}
		}
	}
}

func TestRunEventsOfInvalidAggregates(t *testing.T) {
	for _, a := range sums(false) {
		for _, list := range [][]impl.Event{nil, {noEvent}, eventsOf(add, closing, send, yes), eventsOf(no), slices.Repeat(eventsOf(add), 21)} {
			if got, many := impl.RunEvents(a, list); got != (impl.Sum{}) || many != -1 {
				t.Fatalf("RunEvents(%v, %v) = %v, %d", a, list, got, many)
			}
		}
	}
}

func TestP85FinalAggregatesStay(t *testing.T) {
	final := map[bool]int{}
	for _, a := range sums(true) {
		possible := false
		for _, e := range anyEvents() {
			if _, ok := impl.StepSum(a, e); ok {
				possible = true
			}
		}
		if got := impl.IsFinal(a); got == possible || got != (a.State == free || a.State == paid || a.State == lost) {
			t.Errorf("IsFinal(%v) = %v, and an event is possible: %v", a, got, possible)
		}
		final[possible]++
	}
	if final[true] < 20 || final[false] < 20 {
		t.Errorf("only %v aggregates are final", final)
	}
}

func TestP86WhatIsPaidIsNotOwed(t *testing.T) {
	owing := 0
	for _, a := range sums(true) {
		want := a.Amount
		if a.State == paid || a.State == free {
			want = 0
		}
		if got := impl.OwedOf(a); got != want {
			t.Errorf("OwedOf(%v) = %d", a, got)
		}
		if want > 0 {
			owing++
		}
	}
	if owing < 50 {
		t.Errorf("only %d aggregates are owed", owing)
	}
}

func TestP87PayingSettlesWhatIsOwed(t *testing.T) {
	checked := 0
	for _, a := range sums(true) {
		if next, ok := impl.StepSum(a, event(yes, 0)); ok && (impl.OwedOf(next) != 0 || impl.OwedOf(a) != a.Amount) {
			t.Errorf("OwedOf(%v) = %d, and behind EventYes %d", a, impl.OwedOf(a), impl.OwedOf(next))
		}
		if next, ok := impl.StepSum(a, event(no, 0)); ok {
			checked++
			if impl.OwedOf(next) != impl.OwedOf(a) || impl.OwedOf(a) == 0 {
				t.Errorf("OwedOf(%v) = %d, and behind EventNo %d", a, impl.OwedOf(a), impl.OwedOf(next))
			}
		}
	}
	if checked < 20 {
		t.Errorf("EventNo was possible for %d aggregates only", checked)
	}
}

func TestQuestionsOfInvalidAggregates(t *testing.T) {
	for _, a := range sums(false) {
		if impl.IsFinal(a) {
			t.Errorf("IsFinal(%v) = true", a)
		}
		if got := impl.OwedOf(a); got != -1 {
			t.Errorf("OwedOf(%v) = %d", a, got)
		}
	}
}

func TestAggregatesChangeNothing(t *testing.T) {
	for _, r := range runs() {
		events := widened(r.events, noEvent)
		before := whole(events)
		impl.RunEvents(r.sum, events)
		impl.RunEvents(aggregate(open, -1, 0), events)
		if !slices.Equal(before, whole(events)) {
			t.Fatalf("a call changed the events %v to %v", before, whole(events))
		}
	}
}
