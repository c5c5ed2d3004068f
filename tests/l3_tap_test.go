package tests

import (
	"math"
	"slices"
	"testing"

	"loop.example/transitfares/impl"
)

// mustAdd returns AddTap, which has to succeed.
func mustAdd(t *testing.T, list []impl.Tap, x impl.Tap) []impl.Tap {
	t.Helper()
	more, ok := impl.AddTap(list, x)
	if !ok {
		t.Fatalf("AddTap(%v, %v) = %v, false", list, x, more)
	}
	return more
}

// isNumbered reports whether a list has a tap with the validator and the number of another one.
func isNumbered(list []impl.Tap, x impl.Tap) bool {
	return slices.ContainsFunc(list, func(y impl.Tap) bool { return y.Validator == x.Validator && y.Number == x.Number })
}

func TestValidTapWithinLimits(t *testing.T) {
	for _, x := range []impl.Tap{
		{},
		{Out: true},
		{Validator: 9, Number: 999, Card: 99, Minute: 40319, Stop: 9},
		{Validator: 9, Number: 999, Card: 99, Minute: 40319, Stop: 9, Out: true},
		{Validator: 9}, {Number: 999}, {Card: 99}, {Minute: 40319}, {Stop: 9},
	} {
		if !impl.ValidTap(x) {
			t.Errorf("ValidTap(%v) = false", x)
		}
	}
}

func TestValidTapOutsideOfLimits(t *testing.T) {
	for name, x := range invalidTaps() {
		for _, x.Out = range []bool{false, true} {
			if impl.ValidTap(x) {
				t.Errorf("%s: ValidTap(%v) = true", name, x)
			}
		}
	}
}

func TestValidTapsInOrder(t *testing.T) {
	for _, list := range tapLists() {
		if !impl.ValidTaps(list) {
			t.Fatalf("ValidTaps(%v) = false", list)
		}
	}
}

func TestP14TapsAreNumbered(t *testing.T) {
	for name, x := range invalidTaps() {
		if impl.ValidTaps([]impl.Tap{x}) {
			t.Errorf("%s: ValidTaps of the tap alone = true", name)
		}
	}
	n := &numbers{state: 14}
	for range 500 {
		for _, x := range drawnTaps(n, 4) {
			if alone := impl.ValidTaps([]impl.Tap{x}); alone != impl.ValidTap(x) || alone != isTap(x) {
				t.Fatalf("ValidTaps of %v alone = %v", x, alone)
			}
		}
	}
}

func TestP15TapsInOrderCanBeLeftOut(t *testing.T) {
	for _, list := range tapLists() {
		for i := range list {
			if less := without(list, i); !impl.ValidTaps(less) {
				t.Fatalf("ValidTaps(%v) = false", less)
			}
		}
	}
}

func TestValidTapsUpToMaxTaps(t *testing.T) {
	list := fullTaps()
	if len(list) != 24 || !impl.ValidTaps(list) {
		t.Errorf("ValidTaps of %d taps = false", len(list))
	}
	if more := append(list, in(500, 7, 9000, 0)); impl.ValidTaps(more) || !impl.ValidTaps(more[1:]) {
		t.Errorf("ValidTaps of %d taps = %v, without the first one %v", len(more), impl.ValidTaps(more), impl.ValidTaps(more[1:]))
	}
}

func TestInvalidTapsHaveNoResults(t *testing.T) {
	for name, list := range invalidLists() {
		if impl.ValidTaps(list) {
			t.Errorf("%s: ValidTaps = true", name)
		}
		for _, x := range append(list, in(900, 7, 700, 1)) {
			if more, ok := impl.AddTap(list, x); more != nil || ok {
				t.Errorf("%s: AddTap of %v = %v, %v", name, x, more, ok)
			}
		}
		if own := impl.CardTaps(list, 7); own != nil {
			t.Errorf("%s: CardTaps = %v", name, own)
		}
		if journeys := impl.JourneysOf(list, 7); journeys != nil {
			t.Errorf("%s: JourneysOf = %v", name, journeys)
		}
	}
}

func TestAddTapOfInvalidTap(t *testing.T) {
	for name, x := range invalidTaps() {
		for _, list := range [][]impl.Tap{nil, {in(1, 7, 500, 0)}, {in(5, 7, 500, 3)}, fullTaps()} {
			if more, ok := impl.AddTap(list, x); more != nil || ok {
				t.Errorf("%s: AddTap(%v) = %v, %v", name, list, more, ok)
			}
		}
	}
}

func TestP16AddedTapsAreThere(t *testing.T) {
	n := &numbers{state: 16}
	for _, list := range tapLists() {
		for range 5 {
			x := drawnTap(n, 4)
			if len(list) == impl.MaxTaps || isNumbered(list, x) {
				continue
			}
			more := mustAdd(t, list, x)
			if want := sorted(append(slices.Clone(list), x)); !slices.Equal(more, want) || !impl.ValidTaps(more) {
				t.Fatalf("AddTap(%v, %v) = %v", list, x, more)
			}
			if again := mustAdd(t, more, x); !slices.Equal(again, more) {
				t.Fatalf("AddTap(%v, %v) = %v", more, x, again)
			}
		}
	}
}

// Each tap of valid ones is added to all others: at the front, in the middle and at the end.
func TestAddTapAtEveryPlace(t *testing.T) {
	for _, list := range tapLists() {
		for i, x := range list {
			if more := mustAdd(t, without(list, i), x); !slices.Equal(more, list) {
				t.Fatalf("AddTap(%v, %v) = %v", without(list, i), x, more)
			}
		}
	}
}

func TestAddTapOfEqualMinutes(t *testing.T) {
	list := []impl.Tap{at(2, in(5, 7, 500, 0)), at(4, in(5, 7, 500, 0))}
	for _, c := range []struct {
		add   impl.Tap
		place int
	}{
		{at(1, in(999, 7, 500, 0)), 0},
		{at(2, in(4, 7, 500, 0)), 0},
		{at(2, in(6, 7, 500, 0)), 1},
		{at(3, in(0, 7, 500, 0)), 1},
		{at(4, in(4, 7, 500, 0)), 1},
		{at(4, in(6, 7, 500, 0)), 2},
		{at(9, in(0, 7, 499, 0)), 0},
		{at(0, in(0, 7, 501, 0)), 2},
	} {
		more := mustAdd(t, list, c.add)
		if len(more) != 3 || more[c.place] != c.add || !slices.Equal(without(more, c.place), list) {
			t.Errorf("AddTap of %v = %v, want it at place %d", c.add, more, c.place)
		}
	}
}

// A tap that comes twice is told by its validator and number, whatever else it has.
func TestAddTapOfTapThatComesTwice(t *testing.T) {
	for _, list := range append(tapLists(), fullTaps()) {
		for _, x := range list {
			same := impl.Tap{Validator: x.Validator, Number: x.Number}
			late := impl.Tap{Validator: x.Validator, Number: x.Number, Card: 99, Minute: impl.MaxMinute, Stop: 9, Out: !x.Out}
			for _, again := range []impl.Tap{x, same, late} {
				if more := mustAdd(t, list, again); !slices.Equal(more, list) {
					t.Fatalf("AddTap(%v, %v) = %v", list, again, more)
				}
			}
		}
	}
}

func TestAddTapUpToMaxTaps(t *testing.T) {
	list := fullTaps()
	last := list[10]
	more := mustAdd(t, without(list, 10), last)
	if !slices.Equal(more, list) {
		t.Fatalf("AddTap of tap %d = %v", impl.MaxTaps, more)
	}
	for _, x := range []impl.Tap{in(500, 7, 0, 0), in(500, 7, 600, 0), in(500, 7, 9000, 0)} {
		if more, ok := impl.AddTap(list, x); more != nil || ok {
			t.Errorf("AddTap of one more = %v, %v", more, ok)
		}
	}
}

// Taps of one validator and number are the exception: of these, the one that comes first stays.
func TestP17OrderOfAddingDoesNotMatter(t *testing.T) {
	n := &numbers{state: 17}
	for _, list := range tapLists() {
		for range 5 {
			x, y := drawnTap(n, 4), drawnTap(n, 4)
			if len(list)+2 > impl.MaxTaps || isNumbered([]impl.Tap{x}, y) {
				continue
			}
			a, b := mustAdd(t, mustAdd(t, list, x), y), mustAdd(t, mustAdd(t, list, y), x)
			if !slices.Equal(a, b) {
				t.Fatalf("AddTap of %v and %v = %v, in the other order %v", x, y, a, b)
			}
		}
	}
}

func TestFirstTapOfNumberStays(t *testing.T) {
	x, y := in(5, 7, 500, 0), out(5, 8, 400, 1)
	for _, c := range [][2]impl.Tap{{x, y}, {y, x}} {
		if got := mustAdd(t, mustAdd(t, nil, c[0]), c[1]); !slices.Equal(got, c[:1]) {
			t.Errorf("AddTap of %v = %v", c, got)
		}
		if got := impl.CollectTaps(c[:]); !slices.Equal(got, c[:1]) {
			t.Errorf("CollectTaps(%v) = %v", c, got)
		}
	}
}

func TestP18CollectedTapsAreInOrder(t *testing.T) {
	n := &numbers{state: 18}
	for i := range 1000 {
		list := drawnTaps(n, i%(2*impl.MaxTaps+1))
		got := impl.CollectTaps(list)
		if !impl.ValidTaps(got) {
			t.Fatalf("CollectTaps(%v) = %v is not in order", list, got)
		}
		if want := collected(list); !slices.Equal(got, want) {
			t.Fatalf("CollectTaps(%v) = %v, want %v", list, got, want)
		}
	}
}

func TestCollectTapsUpToTwiceMaxTaps(t *testing.T) {
	full := fullTaps()
	others := make([]impl.Tap, impl.MaxTaps)
	for i := range others {
		others[i] = in(200+i, 3, 2*i, 1)
	}
	for _, c := range []struct {
		name string
		list []impl.Tap
		want []impl.Tap
	}{
		{"nothing", nil, nil},
		{"the last half has no place", slices.Concat(full, others), full},
		{"the first half is not valid", slices.Concat(slices.Repeat([]impl.Tap{noTap}, 24), turned(full)), full},
		{"no tap is valid", slices.Repeat([]impl.Tap{noTap}, 48), nil},
		{"one tap 48 times", slices.Repeat(full[:1], 48), full[:1]},
		{"all taps twice", slices.Concat(turned(full), full), full},
		{"a tap too many", slices.Concat(full, full, others[:1]), nil},
		{"a tap too many that is there", slices.Repeat(full[:1], 49), nil},
		{"a tap too many that is not valid", slices.Concat(full, full, []impl.Tap{noTap}), nil},
		{"only taps that are not valid, one too many", slices.Repeat([]impl.Tap{noTap}, 49), nil},
		{"many taps too many", slices.Repeat(full, 40), nil},
	} {
		if got := impl.CollectTaps(c.list); !slices.Equal(got, c.want) {
			t.Errorf("%s: CollectTaps = %v, want %v", c.name, got, c.want)
		}
	}
}

// A tap that is not valid takes no number.
func TestCollectTapsTakesNumberOfInvalidTap(t *testing.T) {
	bad, good := in(5, 100, 500, 0), in(5, 7, 500, 0)
	if got := impl.CollectTaps([]impl.Tap{bad, good, bad}); !slices.Equal(got, []impl.Tap{good}) {
		t.Errorf("CollectTaps = %v", got)
	}
}

func TestP19LateTapsFindTheirPlaces(t *testing.T) {
	n := &numbers{state: 19}
	for _, list := range tapLists() {
		for _, order := range [][]impl.Tap{list, turned(list), mixed(n, list), mixed(n, list)} {
			if got := impl.CollectTaps(order); !slices.Equal(got, list) {
				t.Fatalf("CollectTaps(%v) = %v", order, got)
			}
		}
	}
}

func TestCardTapsInOrder(t *testing.T) {
	for _, list := range tapLists() {
		for card := -1; card <= impl.MaxCard+1; card++ {
			if got, want := impl.CardTaps(list, card), ofCard(list, card); !slices.Equal(got, want) {
				t.Fatalf("CardTaps(%v, %d) = %v, want %v", list, card, got, want)
			}
		}
		for _, card := range []int{math.MinInt, math.MaxInt} {
			if got := impl.CardTaps(list, card); len(got) != 0 {
				t.Fatalf("CardTaps(%v, %d) = %v", list, card, got)
			}
		}
	}
}

func TestP129OtherCardsKeepTheirTaps(t *testing.T) {
	n := &numbers{state: 129}
	for _, list := range tapLists() {
		for range 5 {
			x := drawnTap(n, 4)
			more, ok := impl.AddTap(list, x)
			if !ok {
				continue
			}
			for _, card := range []int{0, 7, 14, 21, -1} {
				if card == x.Card {
					continue
				}
				if a, b := impl.CardTaps(list, card), impl.CardTaps(more, card); !slices.Equal(a, b) || !slices.Equal(b, ofCard(list, card)) {
					t.Fatalf("CardTaps of %d = %v, behind AddTap of %v %v", card, a, x, b)
				}
			}
		}
	}
}

func TestP130TapsThatComeTwiceCountOnce(t *testing.T) {
	n := &numbers{state: 130}
	for i := range 500 {
		list := drawnTaps(n, i%(impl.MaxTaps+1))
		once := impl.CollectTaps(list)
		for _, again := range [][]impl.Tap{list, turned(list), mixed(n, list)} {
			if len(collected(list)) != len(once) {
				t.Fatalf("CollectTaps(%v) = %v", list, once)
			}
			if twice := impl.CollectTaps(slices.Concat(list, again)); !slices.Equal(twice, once) {
				t.Fatalf("CollectTaps(%v) = %v, with %v once more %v", list, once, again, twice)
			}
		}
	}
}

// tapResults returns what the functions of chapters 3 and 4 return for taps, each with all of its memory.
func tapResults(list []impl.Tap) map[string][]impl.Tap {
	results := map[string][]impl.Tap{}
	results["AddTap at the front"], _ = impl.AddTap(list, in(900, 7, 0, 0))
	results["AddTap within"], _ = impl.AddTap(list, in(900, 7, 505, 0))
	results["AddTap at the end"], _ = impl.AddTap(list, in(900, 7, impl.MaxMinute, 0))
	if len(list) > 0 {
		results["AddTap of a tap that is there"], _ = impl.AddTap(list, list[0])
	}
	results["CollectTaps"] = impl.CollectTaps(list)
	results["CardTaps"] = impl.CardTaps(list, 7)
	return results
}

func TestTapsAreNotChanged(t *testing.T) {
	lists := append(tapLists(), slices.Repeat(fullTaps(), 2), slices.Repeat(fullTaps(), 3))
	for _, list := range invalidLists() {
		lists = append(lists, list)
	}
	n := &numbers{state: 5}
	for range 100 {
		lists = append(lists, drawnTaps(n, 20))
	}
	for _, list := range lists {
		list = widened(list, noTap)
		before := whole(list)
		impl.ValidTaps(list)
		impl.JourneysOf(list, 7)
		tapResults(list)
		if !slices.Equal(before, whole(list)) {
			t.Fatalf("a call changed %v to %v", before, whole(list))
		}
	}
}

func TestTapResultsAreNewMemory(t *testing.T) {
	for _, list := range tapLists() {
		list = widened(list, noTap)
		before, want := whole(list), tapResults(list)
		for name, got := range tapResults(list) {
			fill(got, impl.Tap{Validator: -9})
			if !slices.Equal(before, whole(list)) {
				t.Fatalf("%s of %v shares memory with the taps", name, before)
			}
		}
		for name, again := range tapResults(list) {
			if !slices.Equal(again, want[name]) {
				t.Fatalf("%s = %v behind a change of its result, before %v", name, again, want[name])
			}
		}
	}
}

func TestTapResultsDoNotFollowTheirArguments(t *testing.T) {
	for _, list := range tapLists() {
		want, changing := tapResults(list), widened(list, noTap)
		got := tapResults(changing)
		fill(changing, impl.Tap{Validator: -9})
		for name := range want {
			if !slices.Equal(got[name], want[name]) {
				t.Fatalf("%s = %v behind a change of the taps, before %v", name, got[name], want[name])
			}
		}
	}
}
