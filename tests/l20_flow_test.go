package tests

import (
	"slices"
	"testing"

	"loop.example/transitfares/impl"
)

func TestLimitsOfFlowsAreThoseOfTheDocument(t *testing.T) {
	if impl.MaxStops != 10 || impl.MaxRide != 180 || impl.MaxTaps != 24 || impl.MaxCard != 99 {
		t.Errorf("MaxStops = %d, MaxRide = %d, MaxTaps = %d, MaxCard = %d", impl.MaxStops, impl.MaxRide, impl.MaxTaps, impl.MaxCard)
	}
}

// mustFlow returns FlowOf, which has to have a number for each two stops.
func mustFlow(t *testing.T, list []impl.Journey) [][]int {
	t.Helper()
	rows := impl.FlowOf(list)
	if len(rows) != 10 || slices.ContainsFunc(rows, func(row []int) bool { return len(row) != 10 || slices.Min(row) < 0 }) {
		t.Fatalf("FlowOf(%v) = %v", list, rows)
	}
	return rows
}

func TestFlowOfSomeJourneys(t *testing.T) {
	many := slices.Repeat([]impl.Journey{full(4, 5, 600, 600)}, 24)
	for _, c := range []struct {
		name string
		list []impl.Journey
		want [][]int
	}{
		{"no journeys", nil, flow()},
		{"no journeys, but a list", []impl.Journey{}, flow()},
		{"one journey", []impl.Journey{full(0, 2, 600, 630)}, flow(0, 2, 1)},
		{"there and back", []impl.Journey{full(0, 2, 600, 630), full(2, 0, 640, 650)}, flow(0, 2, 1, 2, 0, 1)},
		{"the same way twice", []impl.Journey{full(0, 2, 600, 630), full(0, 2, 640, 650)}, flow(0, 2, 2)},
		{"the same way with others between", []impl.Journey{full(3, 1, 600, 600), full(1, 3, 600, 610), full(3, 1, 700, 720)}, flow(3, 1, 2, 1, 3, 1)},
		{"from a stop to itself", []impl.Journey{full(4, 4, 600, 630)}, flow(4, 4, 1)},
		{"from a stop to itself without minutes", []impl.Journey{full(4, 4, 600, 600)}, flow(4, 4, 1)},
		{"a half", []impl.Journey{half(4, 600)}, flow()},
		{"halves alone", []impl.Journey{half(0, 0), half(4, 600), half(9, 40319)}, flow()},
		{"halves among others", []impl.Journey{half(0, 500), full(0, 2, 600, 630), half(2, 630), full(2, 2, 640, 650), half(2, 700)}, flow(0, 2, 1, 2, 2, 1)},
		{"the first stop", []impl.Journey{full(0, 0, 0, 0)}, flow(0, 0, 1)},
		{"the last stop", []impl.Journey{full(9, 9, 40139, 40319)}, flow(9, 9, 1)},
		{"the first and the last stop", []impl.Journey{full(0, 9, 0, 180), full(9, 0, 180, 360)}, flow(0, 9, 1, 9, 0, 1)},
		{"MaxTaps journeys", many, flow(4, 5, 24)},
		{"a journey too many", append(many, full(4, 5, 600, 600)), nil},
		{"a minute too long", []impl.Journey{full(0, 2, 600, 781)}, nil},
		{"a stop that there is not", []impl.Journey{full(0, 10, 600, 630)}, nil},
		{"a half with two stops", []impl.Journey{{From: 1, To: 2, Begin: 600, End: 600}}, nil},
		{"out of order", []impl.Journey{full(0, 2, 600, 630), full(0, 2, 629, 650)}, nil},
	} {
		if got := impl.FlowOf(c.list); !sameFlow(got, c.want) {
			t.Errorf("%s: FlowOf(%v) = %v, want %v", c.name, c.list, got, c.want)
		}
	}
}

func TestP119FlowsCountJourneys(t *testing.T) {
	greatest := 0
	for _, list := range flows() {
		rows := mustFlow(t, list)
		if want := flowBy(list); !sameFlow(rows, want) {
			t.Fatalf("FlowOf(%v) = %v, want %v", list, rows, want)
		}
		if rides, _ := split(list); sum(slices.Concat(rows...)) != len(rides) {
			t.Fatalf("FlowOf(%v) = %v, but %d journeys are Full", list, rows, len(rides))
		}
		greatest = max(greatest, slices.Max(slices.Concat(rows...)))
	}
	if greatest < 20 {
		t.Errorf("at most %d journeys go the same way", greatest)
	}
}

func TestP120FlowsAddUp(t *testing.T) {
	for _, list := range flows() {
		rows := mustFlow(t, list)
		for i := range len(list) + 1 {
			first, others := mustFlow(t, list[:i]), mustFlow(t, list[i:])
			for from, row := range first {
				for to := range row {
					row[to] += others[from][to]
				}
			}
			if !sameFlow(first, rows) {
				t.Fatalf("FlowOf(%v) = %v, but of the first %d and of the others %v", list, rows, i, first)
			}
		}
	}
}

func TestP163FlowsHaveStops(t *testing.T) {
	for _, list := range flows() {
		rides, _ := split(list)
		begins, ends := make([]int, 10), make([]int, 10)
		for _, j := range rides {
			begins[j.From]++
			ends[j.To]++
		}
		for from, row := range mustFlow(t, list) {
			if sum(row) != begins[from] {
				t.Fatalf("FlowOf(%v) has %v from stop %d, but %d journeys begin there", list, row, from, begins[from])
			}
			for to, many := range row {
				ends[to] -= many
			}
		}
		if !slices.Equal(ends, make([]int, 10)) {
			t.Fatalf("FlowOf(%v) to all stops is less by %v than the journeys that end there", list, ends)
		}
	}
}

func TestFlowOfInvalidJourneys(t *testing.T) {
	for name, list := range invalidJourneyLists() {
		if got := impl.FlowOf(list); got != nil {
			t.Errorf("%s: FlowOf(%v) = %v", name, list, got)
		}
	}
}

func TestFlowOfChangesNothing(t *testing.T) {
	for _, list := range withInvalid(flows(), invalidJourneyLists()) {
		list = widened(list, noJourney)
		before := whole(list)
		for _, row := range impl.FlowOf(list) {
			fill(row, -9)
		}
		if !slices.Equal(before, whole(list)) {
			t.Fatalf("FlowOf changed %v to %v", before, whole(list))
		}
	}
}

// Each row is written over, with the memory behind it, and so is what other calls return.
func TestFlowsAreNewMemory(t *testing.T) {
	for _, list := range flows() {
		changing, want := slices.Clone(list), flowBy(list)
		rows := impl.FlowOf(changing)
		for _, row := range impl.FlowOf(changing) {
			fill(row, -9)
		}
		fill(changing, noJourney)
		for from, row := range rows {
			if !slices.Equal(row, want[from]) {
				t.Fatalf("FlowOf(%v) from stop %d = %v behind changes of other memory, want %v", list, from, row, want[from])
			}
			fill(row, -9)
		}
	}
}

func TestPeopleAtSomeMinutes(t *testing.T) {
	three := []impl.Tap{in(1, 7, 500, 0), in(2, 8, 500, 0), in(3, 9, 510, 1), out(4, 8, 520, 2), out(5, 7, 530, 2)}
	for _, c := range []struct {
		name   string
		list   []impl.Tap
		people map[int]int
	}{
		{"no taps", nil, map[int]int{0: 0, 500: 0, 40319: 0}},
		{"no taps, but a list", []impl.Tap{}, map[int]int{0: 0}},
		{"in and out", []impl.Tap{in(1, 7, 500, 0), out(2, 7, 530, 2)}, map[int]int{499: 0, 500: 1, 529: 1, 530: 0, 531: 0, 680: 0}},
		{"who never goes out", []impl.Tap{in(1, 7, 500, 0)}, map[int]int{499: 0, 500: 1, 501: 1, 679: 1, 680: 1, 681: 0, 40319: 0, 100000: 0}},
		{"out too late", []impl.Tap{in(1, 7, 500, 0), out(2, 7, 700, 2)}, map[int]int{680: 1, 681: 0, 699: 0, 700: 0, 701: 0}},
		{"in twice", []impl.Tap{in(1, 7, 500, 0), in(2, 7, 600, 0)}, map[int]int{499: 0, 500: 1, 600: 1, 680: 1, 681: 1, 780: 1, 781: 0}},
		{"in twice with a gap", []impl.Tap{in(1, 7, 500, 0), in(2, 7, 700, 0)}, map[int]int{500: 1, 680: 1, 681: 0, 699: 0, 700: 1, 880: 1, 881: 0}},
		{"in twice, then out", []impl.Tap{in(1, 7, 500, 0), in(2, 7, 510, 0), out(3, 7, 520, 0)}, map[int]int{500: 1, 510: 1, 519: 1, 520: 0, 600: 0}},
		{"in, then out twice", []impl.Tap{in(1, 7, 500, 0), out(2, 7, 510, 0), out(3, 7, 520, 0)}, map[int]int{509: 1, 510: 0, 515: 0, 520: 0}},
		{"out without in", []impl.Tap{out(1, 7, 500, 0)}, map[int]int{499: 0, 500: 0, 501: 0}},
		{"out, then in", []impl.Tap{out(1, 7, 500, 0), in(2, 7, 510, 0)}, map[int]int{500: 0, 509: 0, 510: 1, 690: 1, 691: 0}},
		{"in and out again", []impl.Tap{in(1, 7, 500, 0), out(2, 7, 510, 0), in(3, 7, 520, 0), out(4, 7, 530, 0)}, map[int]int{500: 1, 510: 0, 519: 0, 520: 1, 530: 0}},
		{"several cards", three, map[int]int{499: 0, 500: 2, 510: 3, 519: 3, 520: 2, 529: 2, 530: 1, 690: 1, 691: 0}},
		{"out of another card", []impl.Tap{in(1, 7, 500, 0), out(2, 8, 510, 0)}, map[int]int{500: 1, 510: 1, 680: 1, 681: 0}},
		{"cards 0 and 99", []impl.Tap{in(1, 0, 500, 0), in(2, 99, 501, 0)}, map[int]int{500: 1, 501: 2, 680: 2, 681: 1, 682: 0}},
		{"in and out of one minute", []impl.Tap{in(1, 7, 500, 0), out(2, 7, 500, 2)}, map[int]int{499: 0, 500: 0, 501: 0}},
		{"out and in of one minute", []impl.Tap{out(1, 7, 500, 2), in(2, 7, 500, 0)}, map[int]int{499: 0, 500: 1, 680: 1, 681: 0}},
		{"one minute, by validators", []impl.Tap{at(1, out(9, 7, 500, 2)), at(2, in(1, 7, 500, 0))}, map[int]int{500: 1}},
		{"out of the minute in which another one goes in", []impl.Tap{out(1, 7, 500, 2), in(2, 8, 500, 0)}, map[int]int{500: 1}},
		{"in of the minute in which another one goes out", []impl.Tap{in(1, 7, 500, 2), out(2, 8, 500, 0)}, map[int]int{500: 1}},
		{"the first minute", []impl.Tap{in(1, 7, 0, 0)}, map[int]int{-1: 0, 0: 1, 180: 1, 181: 0}},
		{"the last minute", []impl.Tap{in(1, 7, 40319, 0)}, map[int]int{40318: 0, 40319: 1, 40320: 1, 40499: 1, 40500: 0}},
	} {
		for minute, want := range c.people {
			if got := impl.PeopleAt(c.list, minute); got != want {
				t.Errorf("%s: PeopleAt(%v, %d) = %d, want %d", c.name, c.list, minute, got, want)
			}
		}
	}
}

func TestPeopleAtOfFullLists(t *testing.T) {
	var list []impl.Tap
	for i := range 24 {
		list = append(list, in(i, 4*i, 500+10*i, 0))
	}
	for minute, want := range map[int]int{499: 0, 500: 1, 600: 11, 670: 18, 680: 19, 681: 18, 730: 19, 731: 18, 900: 2, 910: 1, 911: 0} {
		if got := impl.PeopleAt(list, minute); got != want {
			t.Errorf("PeopleAt(%v, %d) = %d, want %d", list, minute, got, want)
		}
	}
	for minute, want := range map[int]int{499: 0, 500: 1, 510: 0, 720: 1, 729: 1, 730: 0} {
		if got := impl.PeopleAt(fullTaps(), minute); got != want {
			t.Errorf("PeopleAt(%v, %d) = %d, want %d", fullTaps(), minute, got, want)
		}
	}
}

func TestP121WhoIsOnTheWayHasACard(t *testing.T) {
	times := map[int]int{}
	for _, list := range crowds() {
		cards := len(impl.CardsOf(list))
		for _, minute := range minutesNear(list) {
			people := impl.PeopleAt(list, minute)
			if want := peopleBy(list, minute); people != want {
				t.Fatalf("PeopleAt(%v, %d) = %d, want %d", list, minute, people, want)
			}
			if people < 0 || people > cards {
				t.Fatalf("PeopleAt(%v, %d) = %d of %d cards", list, minute, people, cards)
			}
			if people != 0 && minute < list[0].Minute {
				t.Fatalf("PeopleAt(%v, %d) = %d before the first tap", list, minute, people)
			}
			times[min(people, 10)]++
		}
	}
	for _, people := range []int{0, 1, 2, 3, 5, 10} {
		if times[people] < 500 {
			t.Errorf("only %d times %d cards were on the way", times[people], people)
		}
	}
}

func TestP122PeopleAreCountedOneByOne(t *testing.T) {
	for _, list := range crowds() {
		cards := map[int][]impl.Tap{}
		for _, card := range cardsOf(list) {
			cards[card] = impl.CardTaps(list, card)
		}
		for _, minute := range minutesNear(list) {
			people := 0
			for card, own := range cards {
				alone := impl.PeopleAt(own, minute)
				if alone < 0 || alone > 1 {
					t.Fatalf("PeopleAt(%v, %d) of card %d alone = %d", own, minute, card, alone)
				}
				people += alone
			}
			if got := impl.PeopleAt(list, minute); got != people {
				t.Fatalf("PeopleAt(%v, %d) = %d, but card by card %d", list, minute, got, people)
			}
		}
	}
}

func TestP164NobodyRidesForEver(t *testing.T) {
	late := 0
	for _, list := range crowds() {
		if len(list) == 0 {
			continue
		}
		last := list[len(list)-1].Minute
		for _, behind := range []int{181, 182, 300, 1440, 100000} {
			if got := impl.PeopleAt(list, last+behind); got != 0 {
				t.Fatalf("PeopleAt(%v, %d) = %d, %d minutes behind the last tap", list, last+behind, got, behind)
			}
		}
		if impl.PeopleAt(list, last+180) > 0 {
			late++
		}
	}
	if late < 200 {
		t.Errorf("only %d times somebody was on the way MaxRide minutes behind the last tap", late)
	}
}

func TestPeopleAtFarMinutes(t *testing.T) {
	for _, list := range crowds() {
		for _, minute := range farMinutes {
			if got := impl.PeopleAt(list, minute); got != 0 {
				t.Fatalf("PeopleAt(%v, %d) = %d", list, minute, got)
			}
		}
	}
}

func TestPeopleAtOfInvalidTaps(t *testing.T) {
	for name, list := range invalidLists() {
		for _, minute := range append([]int{0, 499, 500, 530, 700, 40319}, farMinutes...) {
			if got := impl.PeopleAt(list, minute); got != -1 {
				t.Fatalf("%s: PeopleAt(%v, %d) = %d", name, list, minute, got)
			}
		}
	}
}

func TestStopsOfSomeTaps(t *testing.T) {
	for _, c := range []struct {
		name   string
		list   []impl.Tap
		stop   int
		counts []int
	}{
		{"one tap", tapsAt(4), 4, counts(4, 1)},
		{"the first stop", tapsAt(0), 0, counts(0, 1)},
		{"the last stop", tapsAt(9), 9, counts(9, 1)},
		{"the first and the last stop", tapsAt(0, 9), 0, counts(0, 1, 9, 1)},
		{"the last and the first stop", tapsAt(9, 0), 0, counts(0, 1, 9, 1)},
		{"the last stop twice", tapsAt(9, 0, 9), 9, counts(0, 1, 9, 2)},
		{"neighbours", tapsAt(5, 4), 4, counts(4, 1, 5, 1)},
		{"the second one of three twice", tapsAt(3, 6, 4, 6), 6, counts(3, 1, 4, 1, 6, 2)},
		{"two of three twice", tapsAt(8, 3, 5, 8, 5), 5, counts(3, 1, 5, 2, 8, 2)},
		{"two of three twice, the later one first", tapsAt(5, 5, 3, 8, 8), 5, counts(3, 1, 5, 2, 8, 2)},
		{"all stops", tapsAt(9, 8, 7, 6, 5, 4, 3, 2, 1, 0), 0, []int{1, 1, 1, 1, 1, 1, 1, 1, 1, 1}},
		{"all stops, one twice", tapsAt(9, 8, 7, 6, 5, 4, 3, 2, 1, 0, 7), 7, []int{1, 1, 1, 1, 1, 1, 1, 2, 1, 1}},
		{"in and out", []impl.Tap{in(1, 7, 500, 2), out(2, 7, 530, 6), out(3, 7, 540, 6)}, 6, counts(2, 1, 6, 2)},
		{"out alone", []impl.Tap{out(2, 7, 530, 6)}, 6, counts(6, 1)},
		{"several cards", []impl.Tap{in(1, 7, 500, 2), in(2, 8, 500, 2), out(3, 9, 500, 1)}, 2, counts(1, 1, 2, 2)},
		{"several validators at a stop", []impl.Tap{at(1, in(1, 7, 500, 2)), at(2, in(1, 8, 500, 2)), at(9, in(1, 9, 500, 9))}, 2, counts(2, 2, 9, 1)},
		{"a full list", fullTaps(), 0, []int{3, 3, 3, 3, 2, 2, 2, 2, 2, 2}},
		{"a full list of one stop", tapsAt(make([]int, 24)...), 0, counts(0, 24)},
	} {
		if got := impl.StopCounts(c.list); !slices.Equal(got, c.counts) {
			t.Errorf("%s: StopCounts(%v) = %v, want %v", c.name, c.list, got, c.counts)
		}
		stop, many, ok := impl.BusyStop(c.list)
		if stop != c.stop || many != c.counts[c.stop] || !ok {
			t.Errorf("%s: BusyStop(%v) = %d, %d, %v, want %d, %d", c.name, c.list, stop, many, ok, c.stop, c.counts[c.stop])
		}
	}
}

// checkNoStop checks that BusyStop returns 0, 0 and false.
func checkNoStop(t *testing.T, name string, list []impl.Tap) {
	t.Helper()
	if stop, many, ok := impl.BusyStop(list); stop != 0 || many != 0 || ok {
		t.Errorf("%s: BusyStop(%v) = %d, %d, %v", name, list, stop, many, ok)
	}
}

func TestStopsWithoutTaps(t *testing.T) {
	for _, list := range [][]impl.Tap{nil, {}, fullTaps()[:0]} {
		checkNoStop(t, "no taps", list)
		if got := impl.StopCounts(list); !slices.Equal(got, counts()) {
			t.Errorf("StopCounts of no taps = %v", got)
		}
	}
}

func TestStopsOfInvalidTaps(t *testing.T) {
	for name, list := range invalidLists() {
		checkNoStop(t, name, list)
		if got := impl.StopCounts(list); got != nil {
			t.Errorf("%s: StopCounts(%v) = %v", name, list, got)
		}
	}
}

func TestP123NoStopIsBusier(t *testing.T) {
	ties := 0
	for _, list := range crowds() {
		if len(list) == 0 {
			continue
		}
		stop, many, ok := impl.BusyStop(list)
		if !ok || stop < 0 || stop > 9 {
			t.Fatalf("BusyStop(%v) = %d, %d, %v", list, stop, many, ok)
		}
		numbers := impl.StopCounts(list)
		if numbers[stop] != many || many != slices.Max(countsBy(list)) || slices.Contains(numbers[:stop], many) {
			t.Fatalf("BusyStop(%v) = %d, %d, but StopCounts are %v", list, stop, many, numbers)
		}
		if slices.Contains(numbers[stop+1:], many) {
			ties++
		}
	}
	if ties < 200 {
		t.Errorf("only %d times two stops had the most taps", ties)
	}
}

func TestP124StopsHaveTaps(t *testing.T) {
	for _, list := range crowds() {
		numbers := impl.StopCounts(list)
		if len(numbers) != 10 || sum(numbers) != len(list) {
			t.Fatalf("StopCounts(%v) = %v, which are not %d taps of 10 stops", list, numbers, len(list))
		}
		if want := countsBy(list); !slices.Equal(numbers, want) {
			t.Fatalf("StopCounts(%v) = %v, want %v", list, numbers, want)
		}
	}
}

func TestP165ATapMoreIsATapMore(t *testing.T) {
	n := &numbers{state: 165}
	added, known := 0, 0
	for _, list := range crowds() {
		for range 5 {
			x := drawnTap(n, 4)
			if len(list) > 0 && n.below(4) == 0 {
				there := list[n.below(len(list))]
				x.Validator, x.Number = there.Validator, there.Number
			}
			want := impl.StopCounts(list)
			more, ok := impl.AddTap(list, x)
			if !ok {
				continue
			}
			if isNumbered(list, x) {
				known++
			} else {
				added++
				want[x.Stop]++
			}
			if got := impl.StopCounts(more); !slices.Equal(got, want) {
				t.Fatalf("StopCounts(%v) behind AddTap of %v = %v, want %v", list, x, got, want)
			}
		}
	}
	if added < 1000 || known < 500 {
		t.Errorf("only %d taps were added, and %d were there", added, known)
	}
}

func TestFlowsOfTapsChangeNothing(t *testing.T) {
	for _, list := range withInvalid(crowds(), invalidLists()) {
		list = widened(list, noTap)
		before := whole(list)
		for _, minute := range []int{-1, 500, 600, 1000, 40319} {
			impl.PeopleAt(list, minute)
		}
		impl.BusyStop(list)
		fill(impl.StopCounts(list), -9)
		if !slices.Equal(before, whole(list)) {
			t.Fatalf("a call changed %v to %v", before, whole(list))
		}
	}
}

func TestStopCountsAreNewMemory(t *testing.T) {
	for _, list := range crowds() {
		changing := slices.Clone(list)
		got := impl.StopCounts(changing)
		fill(impl.StopCounts(changing), -9)
		fill(changing, noTap)
		if want := countsBy(list); !slices.Equal(got, want) {
			t.Fatalf("StopCounts(%v) = %v behind changes of other memory, want %v", list, got, want)
		}
	}
}
