package tests

import (
	"math"
	"slices"
	"testing"

	"loop.example/transitfares/impl"
)

// split returns the journeys that are Full, and the number of all others.
func split(list []impl.Journey) ([]impl.Journey, int) {
	rides := slices.DeleteFunc(slices.Clone(list), func(j impl.Journey) bool { return !j.Full })
	return rides, len(list) - len(rides)
}

func TestJourneysOfSomeTaps(t *testing.T) {
	for _, c := range []struct {
		name string
		list []impl.Tap
		want []impl.Journey
	}{
		{"no taps", nil, nil},
		{"in and out", []impl.Tap{in(1, 7, 500, 0), out(2, 7, 530, 2)}, []impl.Journey{full(0, 2, 500, 530)}},
		{"in and out at one stop", []impl.Tap{in(1, 7, 500, 4), out(2, 7, 530, 4)}, []impl.Journey{full(4, 4, 500, 530)}},
		{"MaxRide minutes", []impl.Tap{in(1, 7, 500, 0), out(2, 7, 680, 2)}, []impl.Journey{full(0, 2, 500, 680)}},
		{"a minute more", []impl.Tap{in(1, 7, 500, 0), out(2, 7, 681, 2)}, []impl.Journey{half(0, 500), half(2, 681)}},
		{"in alone", []impl.Tap{in(1, 7, 500, 3)}, []impl.Journey{half(3, 500)}},
		{"out alone", []impl.Tap{out(1, 7, 500, 3)}, []impl.Journey{half(3, 500)}},
		{"in twice", []impl.Tap{in(1, 7, 500, 3), in(2, 7, 510, 3)}, []impl.Journey{half(3, 500), half(3, 510)}},
		{"out twice", []impl.Tap{out(1, 7, 500, 3), out(2, 7, 510, 3)}, []impl.Journey{half(3, 500), half(3, 510)}},
		{"out and in", []impl.Tap{out(1, 7, 500, 3), in(2, 7, 510, 4)}, []impl.Journey{half(3, 500), half(4, 510)}},
		{"in, in, out", []impl.Tap{in(1, 7, 500, 1), in(2, 7, 510, 2), out(3, 7, 520, 3)}, []impl.Journey{half(1, 500), full(2, 3, 510, 520)}},
		{"in, out, out", []impl.Tap{in(1, 7, 500, 1), out(2, 7, 510, 2), out(3, 7, 520, 3)}, []impl.Journey{full(1, 2, 500, 510), half(3, 520)}},
		{"out, in, out", []impl.Tap{out(1, 7, 500, 1), in(2, 7, 510, 2), out(3, 7, 520, 3)}, []impl.Journey{half(1, 500), full(2, 3, 510, 520)}},
		{"out too late, and again", []impl.Tap{in(1, 7, 100, 1), out(2, 7, 300, 2), out(3, 7, 310, 3)}, []impl.Journey{half(1, 100), half(2, 300), half(3, 310)}},
		{"too late, then in and out", []impl.Tap{in(1, 7, 100, 1), out(2, 7, 300, 2), in(3, 7, 310, 3), out(4, 7, 320, 4)}, []impl.Journey{half(1, 100), half(2, 300), full(3, 4, 310, 320)}},
		{"journeys that touch", []impl.Tap{in(1, 7, 500, 0), out(2, 7, 510, 1), in(3, 7, 510, 1), out(4, 7, 520, 2)}, []impl.Journey{full(0, 1, 500, 510), full(1, 2, 510, 520)}},
		{"another card between", []impl.Tap{in(1, 7, 500, 0), in(2, 3, 505, 5), out(3, 3, 506, 6), out(4, 7, 530, 2)}, []impl.Journey{full(0, 2, 500, 530)}},
		{"another card goes out", []impl.Tap{in(1, 7, 500, 0), out(2, 3, 530, 2)}, []impl.Journey{half(0, 500)}},
		{"other cards alone", []impl.Tap{in(1, 8, 500, 0), out(2, 8, 530, 2)}, nil},
		{"the whole of time", []impl.Tap{in(1, 7, 0, 0), out(2, 7, 180, 9), in(3, 7, 40139, 9), out(4, 7, 40319, 0)}, []impl.Journey{full(0, 9, 0, 180), full(9, 0, 40139, 40319)}},
	} {
		if !impl.ValidTaps(c.list) {
			t.Errorf("%s: the taps are not valid", c.name)
		}
		if got := impl.JourneysOf(c.list, 7); !slices.Equal(got, c.want) {
			t.Errorf("%s: JourneysOf = %v, want %v", c.name, got, c.want)
		}
	}
}

// Of taps at one minute, that of the smaller validator comes first, and of one validator that of the smaller number.
func TestJourneysOfEqualMinutes(t *testing.T) {
	for _, c := range []struct {
		name string
		list []impl.Tap
		want []impl.Journey
	}{
		{"in before out", []impl.Tap{at(1, in(9, 7, 500, 0)), at(2, out(1, 7, 500, 5))}, []impl.Journey{full(0, 5, 500, 500)}},
		{"out before in", []impl.Tap{at(1, out(9, 7, 500, 5)), at(2, in(1, 7, 500, 0))}, []impl.Journey{half(5, 500), half(0, 500)}},
		{"in before out at one validator", []impl.Tap{in(1, 7, 500, 0), out(2, 7, 500, 0)}, []impl.Journey{full(0, 0, 500, 500)}},
		{"out before in at one validator", []impl.Tap{out(1, 7, 500, 0), in(2, 7, 500, 0)}, []impl.Journey{half(0, 500), half(0, 500)}},
		{"two ways in", []impl.Tap{at(1, in(5, 7, 500, 0)), at(2, in(5, 7, 500, 1)), at(3, out(5, 7, 500, 2))}, []impl.Journey{half(0, 500), full(1, 2, 500, 500)}},
		{"two ways out", []impl.Tap{at(1, in(5, 7, 499, 0)), at(2, out(5, 7, 500, 1)), at(3, out(5, 7, 500, 2))}, []impl.Journey{full(0, 1, 499, 500), half(2, 500)}},
		{"out, in and out", []impl.Tap{at(1, out(5, 7, 500, 0)), at(2, in(5, 7, 500, 1)), at(3, out(5, 7, 500, 2))}, []impl.Journey{half(0, 500), full(1, 2, 500, 500)}},
		{"another card between", []impl.Tap{at(1, in(5, 7, 500, 0)), at(2, out(5, 3, 500, 1)), at(3, out(5, 7, 500, 2))}, []impl.Journey{full(0, 2, 500, 500)}},
	} {
		for _, order := range [][]impl.Tap{c.list, turned(c.list)} {
			list := impl.CollectTaps(order)
			if got := impl.JourneysOf(list, 7); !slices.Equal(got, c.want) || !impl.ValidJourneys(got) {
				t.Errorf("%s: JourneysOf = %v, want %v", c.name, got, c.want)
			}
		}
	}
}

func TestJourneysOfManyTaps(t *testing.T) {
	for _, list := range tapLists() {
		for _, card := range []int{0, 3, 7, 14, 99, -1, 100, math.MinInt, math.MaxInt} {
			got := impl.JourneysOf(list, card)
			if want := journeysOf(ofCard(list, card)); !slices.Equal(got, want) {
				t.Fatalf("JourneysOf(%v, %d) = %v, want %v", list, card, got, want)
			}
			if !impl.ValidJourneys(got) {
				t.Fatalf("JourneysOf(%v, %d) = %v is not valid", list, card, got)
			}
		}
	}
}

// Taps that each are a journey of their own make as many journeys as there may be.
func TestJourneysOfMaxTaps(t *testing.T) {
	list := fullTaps()
	if got := impl.JourneysOf(list, 7); len(got) != 12 || impl.HalfCount(got) != 0 || impl.RideMinutes(got) != 120 {
		t.Errorf("JourneysOf taps in turns = %v", got)
	}
	for i := range list {
		list[i].Out = false
	}
	if got := impl.JourneysOf(list, 7); len(got) != 24 || impl.HalfCount(got) != 24 || impl.RideMinutes(got) != 0 {
		t.Errorf("JourneysOf ways in = %v", got)
	}
}

func TestP21EveryTapBelongsToOneJourney(t *testing.T) {
	for _, list := range tapLists() {
		for _, card := range []int{0, 7, 14} {
			type place struct{ stop, minute int }
			var got, want []place
			for _, j := range impl.JourneysOf(list, card) {
				got = append(got, place{j.From, j.Begin})
				if j.Full {
					got = append(got, place{j.To, j.End})
				}
			}
			for _, x := range ofCard(list, card) {
				want = append(want, place{x.Stop, x.Minute})
			}
			if !slices.Equal(got, want) {
				t.Fatalf("JourneysOf(%v, %d) have the taps %v", list, card, got)
			}
			journeys := impl.JourneysOf(list, card)
			if halves := impl.HalfCount(journeys); 2*(len(journeys)-halves)+halves != len(want) {
				t.Fatalf("%d journeys with %d halves have not %d taps", len(journeys), halves, len(want))
			}
		}
	}
}

func TestP22OtherCardsDoNotMatter(t *testing.T) {
	for _, list := range tapLists() {
		for _, card := range []int{0, 7, 14, 50, -1} {
			alone, all := impl.JourneysOf(impl.CardTaps(list, card), card), impl.JourneysOf(list, card)
			if !slices.Equal(alone, all) || len(all) != len(journeysOf(ofCard(list, card))) {
				t.Fatalf("JourneysOf(%v, %d) = %v, of CardTaps %v", list, card, all, alone)
			}
		}
	}
}

func TestP23JourneysBeginAndEndAtTaps(t *testing.T) {
	rides := 0
	for _, list := range tapLists() {
		for _, card := range []int{0, 7, 14} {
			has := func(stop int, minute int, out bool) bool {
				return slices.ContainsFunc(list, func(x impl.Tap) bool {
					return x.Card == card && x.Stop == stop && x.Minute == minute && x.Out == out
				})
			}
			for _, j := range impl.JourneysOf(list, card) {
				if !j.Full {
					continue
				}
				rides++
				if !has(j.From, j.Begin, false) || !has(j.To, j.End, true) || j.End-j.Begin > 180 {
					t.Fatalf("JourneysOf(%v, %d) has %v", list, card, j)
				}
			}
		}
	}
	if rides < 100 {
		t.Errorf("only %d journeys are Full", rides)
	}
}

func TestP24JourneysCanBeLeftOut(t *testing.T) {
	for _, list := range journeyLists() {
		if !impl.ValidJourneys(list) {
			t.Fatalf("ValidJourneys(%v) = false", list)
		}
		for i := range list {
			if less := without(list, i); !impl.ValidJourneys(less) {
				t.Fatalf("ValidJourneys(%v) = false", less)
			}
		}
	}
}

func TestInvalidJourneys(t *testing.T) {
	for name, list := range invalidJourneyLists() {
		if impl.ValidJourneys(list) {
			t.Errorf("%s: ValidJourneys = true", name)
		}
		if got := impl.RideMinutes(list); got != -1 {
			t.Errorf("%s: RideMinutes = %d", name, got)
		}
		if got := impl.HalfCount(list); got != -1 {
			t.Errorf("%s: HalfCount = %d", name, got)
		}
	}
}

func TestValidJourneysUpToMaxTaps(t *testing.T) {
	list := chainOfRides(impl.MaxTaps + 1)
	if impl.ValidJourneys(list) || !impl.ValidJourneys(list[1:]) || !impl.ValidJourneys(list[:24]) {
		t.Errorf("ValidJourneys of %d = %v, without the first one %v", len(list), impl.ValidJourneys(list), impl.ValidJourneys(list[1:]))
	}
	if got := impl.RideMinutes(list[:24]); got != 24*180 {
		t.Errorf("RideMinutes of 24 rides = %d", got)
	}
}

func TestValidJourneysOfEachLength(t *testing.T) {
	for minutes := -2; minutes <= 200; minutes++ {
		list := []impl.Journey{full(1, 2, 500, 500+minutes)}
		if got, want := impl.ValidJourneys(list), minutes >= 0 && minutes <= 180; got != want {
			t.Errorf("ValidJourneys with %d minutes = %v", minutes, got)
		}
	}
}

func TestRideMinutesAndHalfCountOfSomeJourneys(t *testing.T) {
	for _, c := range []struct {
		list            []impl.Journey
		minutes, halves int
	}{
		{nil, 0, 0},
		{[]impl.Journey{half(3, 500)}, 0, 1},
		{[]impl.Journey{full(3, 3, 500, 500)}, 0, 0},
		{[]impl.Journey{full(1, 2, 500, 530)}, 30, 0},
		{[]impl.Journey{full(1, 2, 500, 530), half(2, 530), full(2, 1, 530, 710), half(0, 40319)}, 210, 2},
	} {
		if minutes, halves := impl.RideMinutes(c.list), impl.HalfCount(c.list); minutes != c.minutes || halves != c.halves {
			t.Errorf("%v have %d minutes and %d halves", c.list, minutes, halves)
		}
	}
}

func TestP25MinutesAddUp(t *testing.T) {
	for _, list := range journeyLists() {
		all, sum := impl.RideMinutes(list), 0
		for i := range list {
			if first, others := impl.RideMinutes(list[:i]), impl.RideMinutes(list[i:]); first < 0 || others < 0 || first+others != all {
				t.Fatalf("RideMinutes(%v) = %d, of the first %d %d and of the others %d", list, all, i, first, others)
			}
			sum += list[i].End - list[i].Begin
		}
		if all != sum || len(list) > 0 && all > list[len(list)-1].End-list[0].Begin {
			t.Fatalf("RideMinutes(%v) = %d", list, all)
		}
	}
}

func TestP26HalvesAreCounted(t *testing.T) {
	for _, list := range journeyLists() {
		all := impl.HalfCount(list)
		if _, want := split(list); all != want || all > len(list) {
			t.Fatalf("HalfCount(%v) = %d, want %d", list, all, want)
		}
		for i := range list {
			if first, others := impl.HalfCount(list[:i]), impl.HalfCount(list[i:]); first < 0 || others < 0 || first+others != all {
				t.Fatalf("HalfCount(%v) = %d, of the first %d %d and of the others %d", list, all, i, first, others)
			}
		}
	}
}

func TestP131InAndOutIsJourney(t *testing.T) {
	for minutes := range 400 {
		for _, begin := range []int{0, 1000, impl.MaxMinute - minutes} {
			first, last := at(2, in(5, 7, begin, 3)), at(4, out(1, 7, begin+minutes, 8))
			want := []impl.Journey{full(3, 8, begin, begin+minutes)}
			if minutes > 180 {
				want = []impl.Journey{half(3, begin), half(8, begin+minutes)}
			}
			for _, order := range [][]impl.Tap{{first, last}, {last, first}} {
				if got := impl.JourneysOf(impl.CollectTaps(order), 7); !slices.Equal(got, want) {
					t.Fatalf("JourneysOf taps %d minutes apart = %v", minutes, got)
				}
			}
		}
	}
}

func TestP132GoingOutWithoutGoingInIsHalf(t *testing.T) {
	for _, list := range tapLists() {
		outs := slices.Clone(list)
		for i := range outs {
			outs[i].Out = true
		}
		for _, card := range []int{0, 7, 14} {
			own, got := ofCard(outs, card), impl.JourneysOf(outs, card)
			if len(got) != len(own) || impl.HalfCount(got) != len(own) {
				t.Fatalf("JourneysOf(%v, %d) = %v", outs, card, got)
			}
			for i, x := range own {
				if got[i] != half(x.Stop, x.Minute) {
					t.Fatalf("JourneysOf(%v, %d) has %v", outs, card, got[i])
				}
			}
		}
	}
}

func TestP133HalvesTakeNoTime(t *testing.T) {
	for _, list := range journeyLists() {
		rides, _ := split(list)
		if all, alone := impl.RideMinutes(list), impl.RideMinutes(rides); all != alone || all < 0 {
			t.Fatalf("RideMinutes(%v) = %d, without halves %d", list, all, alone)
		}
	}
}

func TestJourneysAreNotChanged(t *testing.T) {
	lists := journeyLists()
	for _, list := range invalidJourneyLists() {
		lists = append(lists, list)
	}
	for _, list := range lists {
		list = widened(list, noJourney)
		before := whole(list)
		impl.ValidJourneys(list)
		impl.RideMinutes(list)
		impl.HalfCount(list)
		if !slices.Equal(before, whole(list)) {
			t.Fatalf("a call changed %v to %v", before, whole(list))
		}
	}
}

func TestJourneysOfAreNewMemory(t *testing.T) {
	for _, list := range tapLists() {
		list = widened(list, noTap)
		before, got := whole(list), impl.JourneysOf(list, 7)
		want := slices.Clone(got)
		fill(got, noJourney)
		if again := impl.JourneysOf(list, 7); !slices.Equal(again, want) || !slices.Equal(before, whole(list)) {
			t.Fatalf("JourneysOf = %v behind a change of its result, before %v", again, want)
		}
	}
}
