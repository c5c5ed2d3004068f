package tests

import (
	"math"
	"slices"
	"testing"

	"loop.example/transitfares/impl"
)

// mustDeny returns DenyCard, which has to succeed.
func mustDeny(t *testing.T, d impl.Deny, card int, there bool) impl.Deny {
	t.Helper()
	next, ok := impl.DenyCard(d, card, there)
	if !ok {
		t.Fatalf("DenyCard(%v, %d, %v) = %v, false", d, card, there, next)
	}
	return next
}

// mustApply returns ApplyDelta, which has to succeed with a valid deny list.
func mustApply(t *testing.T, d impl.Deny, x impl.Delta) impl.Deny {
	t.Helper()
	next, ok := impl.ApplyDelta(d, x)
	if !ok || !impl.ValidDeny(next) {
		t.Fatalf("ApplyDelta(%v, %v) = %v, %v", d, x, next, ok)
	}
	return next
}

// checkNotDenied checks that DenyCard fails.
func checkNotDenied(t *testing.T, name string, d impl.Deny, card int, there bool) {
	t.Helper()
	if got, ok := impl.DenyCard(d, card, there); ok || !sameDeny(got, impl.Deny{}) {
		t.Errorf("%s: DenyCard(%v, %d, %v) = %v, %v", name, d, card, there, got, ok)
	}
}

// checkNotApplied checks that ApplyDelta fails.
func checkNotApplied(t *testing.T, name string, d impl.Deny, x impl.Delta) {
	t.Helper()
	if got, ok := impl.ApplyDelta(d, x); ok || !sameDeny(got, impl.Deny{}) {
		t.Errorf("%s: ApplyDelta(%v, %v) = %v, %v", name, d, x, got, ok)
	}
}

func TestValidDenyWithinLimits(t *testing.T) {
	for _, d := range denyLists() {
		if !impl.ValidDeny(d) {
			t.Errorf("ValidDeny(%v) = false", d)
		}
	}
	for version := range 1000 {
		if !impl.ValidDeny(deny(version, 5, 6)) {
			t.Errorf("ValidDeny of version %d = false", version)
		}
	}
	for count := range 15 {
		if got := impl.ValidDeny(deny(1, cardsFrom(7, count)...)); got != (count <= 12) {
			t.Errorf("ValidDeny of %d cards = %v", count, got)
		}
	}
}

func TestValidDenyOutsideOfLimits(t *testing.T) {
	for name, d := range invalidDenies() {
		if impl.ValidDeny(d) {
			t.Errorf("%s: ValidDeny(%v) = true", name, d)
		}
	}
}

func TestP53DeniedCardsCanBeLeftOut(t *testing.T) {
	for _, d := range denyLists() {
		for count := range d.Cards {
			if less := deny(d.Version, d.Cards[:count]...); !impl.ValidDeny(less) {
				t.Fatalf("ValidDeny(%v) = false", less)
			}
			if less := deny(d.Version, without(d.Cards, count)...); !impl.ValidDeny(less) {
				t.Fatalf("ValidDeny(%v) = false", less)
			}
		}
	}
}

func TestDenyCardOfSomeLists(t *testing.T) {
	for _, c := range []struct {
		name  string
		list  impl.Deny
		card  int
		there bool
		want  impl.Deny
	}{
		{"the first card", deny(0), 5, true, deny(1, 5)},
		{"the only card", deny(0, 5), 5, false, deny(1)},
		{"at the front", deny(7, 5, 9), 0, true, deny(8, 0, 5, 9)},
		{"between", deny(7, 5, 9), 6, true, deny(8, 5, 6, 9)},
		{"at the end", deny(7, 5, 9), 99, true, deny(8, 5, 9, 99)},
		{"without the first one", deny(7, 0, 5, 9), 0, false, deny(8, 5, 9)},
		{"without one between", deny(7, 0, 5, 9), 5, false, deny(8, 0, 9)},
		{"without the last one", deny(7, 0, 5, 99), 99, false, deny(8, 0, 5)},
		{"up to MaxVersion", deny(998, 5), 6, true, deny(999, 5, 6)},
		{"without it up to MaxVersion", deny(998, 5), 5, false, deny(999)},
		{"up to MaxDenied", deny(1, cardsFrom(1, 11)...), 12, true, deny(2, cardsFrom(1, 12)...)},
		{"out of a full list", deny(1, cardsFrom(1, 12)...), 1, false, deny(2, cardsFrom(2, 11)...)},
	} {
		if got, ok := impl.DenyCard(c.list, c.card, c.there); !ok || !sameDeny(got, c.want) {
			t.Errorf("%s: DenyCard = %v, %v, want %v", c.name, got, ok, c.want)
		}
	}
}

func TestDenyCardThatFails(t *testing.T) {
	checkNotDenied(t, "a card that is there", deny(3, 4, 7), 4, true)
	checkNotDenied(t, "the last card that is there", deny(3, 4, 7), 7, true)
	checkNotDenied(t, "a card that is not there", deny(3, 4, 7), 5, false)
	checkNotDenied(t, "nobody is there", deny(3), 5, false)
	checkNotDenied(t, "one card too many", deny(3, cardsFrom(1, 12)...), 0, true)
	checkNotDenied(t, "one card too many at the end", deny(3, cardsFrom(1, 12)...), 99, true)
	checkNotDenied(t, "a card that is in a full list", deny(3, cardsFrom(1, 12)...), 4, true)
	checkNotDenied(t, "a card that is not in a full list", deny(3, cardsFrom(1, 12)...), 99, false)
	checkNotDenied(t, "no version is left", deny(999, 4, 7), 5, true)
	checkNotDenied(t, "no version is left to take a card away", deny(999, 4, 7), 4, false)
	for _, d := range denyLists() {
		for _, card := range badCards {
			checkNotDenied(t, "no card", d, card, true)
			checkNotDenied(t, "no card", d, card, false)
		}
	}
	for name, d := range invalidDenies() {
		for _, card := range append([]int{4, 5, 99}, badCards...) {
			checkNotDenied(t, name, d, card, true)
			checkNotDenied(t, name, d, card, false)
		}
	}
}

// Every card is put into and taken out of each list; it is either possible or not.
func TestDenyCardOfAllCards(t *testing.T) {
	for _, d := range denyLists() {
		for card := range 100 {
			for _, there := range []bool{true, false} {
				is := slices.Contains(d.Cards, card)
				if is == there || d.Version == 999 || there && len(d.Cards) == 12 {
					checkNotDenied(t, "not possible", d, card, there)
					continue
				}
				x := delta(0, 0, []int{card}, nil)
				if !there {
					x = back(x)
				}
				if got := mustDeny(t, d, card, there); !sameDeny(got, deny(d.Version+1, appliedBy(d, x)...)) || !impl.ValidDeny(got) {
					t.Fatalf("DenyCard(%v, %d, %v) = %v", d, card, there, got)
				}
			}
		}
	}
}

// eachDenied calls a function with each list and each card, and with what DenyCard makes of them, where this is possible.
func eachDenied(t *testing.T, check func(before impl.Deny, card int, there bool, behind impl.Deny)) {
	t.Helper()
	checked := 0
	for _, d := range denyLists() {
		for card := range 100 {
			there := !slices.Contains(d.Cards, card)
			if d.Version == 999 || there && len(d.Cards) == 12 {
				continue
			}
			check(d, card, there, mustDeny(t, d, card, there))
			checked++
		}
	}
	if checked < 1000 {
		t.Errorf("only %d cards were checked", checked)
	}
}

func TestP54ChangesCanBeUndone(t *testing.T) {
	eachDenied(t, func(before impl.Deny, card int, there bool, behind impl.Deny) {
		if behind.Version == 999 {
			return
		}
		if got := mustDeny(t, behind, card, !there); !sameDeny(got, deny(before.Version+2, before.Cards...)) {
			t.Fatalf("DenyCard(%v, %d, %v), and in the other direction = %v", before, card, there, got)
		}
	})
}

func TestP55CardsAreDeniedOnce(t *testing.T) {
	eachDenied(t, func(before impl.Deny, card int, there bool, behind impl.Deny) {
		checkNotDenied(t, "once more", behind, card, there)
	})
}

func TestP145OtherCardsStay(t *testing.T) {
	eachDenied(t, func(before impl.Deny, card int, there bool, behind impl.Deny) {
		for other := range 100 {
			want := slices.Contains(before.Cards, other)
			if other == card {
				want = there
			}
			if slices.Contains(behind.Cards, other) != want {
				t.Fatalf("DenyCard(%v, %d, %v) = %v", before, card, there, behind)
			}
		}
		if behind.Version != before.Version+1 || !impl.ValidDeny(behind) {
			t.Fatalf("DenyCard(%v, %d, %v) = %v", before, card, there, behind)
		}
	})
}

func TestDeltaOfSomeLists(t *testing.T) {
	for _, c := range []struct {
		name string
		a, b impl.Deny
		want impl.Delta
	}{
		{"nothing", impl.Deny{}, impl.Deny{}, impl.Delta{}},
		{"versions alone", deny(3), deny(8), delta(3, 8, nil, nil)},
		{"an older version", deny(8), deny(3), delta(8, 3, nil, nil)},
		{"the same cards", deny(3, 4, 7), deny(8, 4, 7), delta(3, 8, nil, nil)},
		{"the same version", deny(3, 4, 7), deny(3, 5, 7), delta(3, 3, []int{5}, []int{4})},
		{"cards of an empty list", deny(3), deny(4, 0, 99), delta(3, 4, []int{0, 99}, nil)},
		{"to an empty list", deny(3, 0, 99), deny(4), delta(3, 4, nil, []int{0, 99})},
		{"cards in turns", deny(0, 1, 3, 5), deny(999, 2, 4, 6), delta(0, 999, []int{2, 4, 6}, []int{1, 3, 5})},
		{"some in both", deny(1, 1, 2, 5, 9), deny(2, 2, 3, 9, 10), delta(1, 2, []int{3, 10}, []int{1, 5})},
		{"all before", deny(1, 1, 2), deny(2, 8, 9), delta(1, 2, []int{8, 9}, []int{1, 2})},
		{"all behind", deny(1, 8, 9), deny(2, 1, 2), delta(1, 2, []int{1, 2}, []int{8, 9})},
		{"full lists", deny(1, cardsFrom(0, 12)...), deny(2, cardsFrom(12, 12)...), delta(1, 2, cardsFrom(12, 12), cardsFrom(0, 12))},
		{"full lists with one in both", deny(1, cardsFrom(0, 12)...), deny(2, cardsFrom(11, 12)...), delta(1, 2, cardsFrom(12, 11), cardsFrom(0, 11))},
	} {
		if got := impl.DeltaOf(c.a, c.b); !sameDelta(got, c.want) {
			t.Errorf("%s: DeltaOf = %v, want %v", c.name, got, c.want)
		}
		if got := mustApply(t, c.a, c.want); !sameDeny(got, c.b) {
			t.Errorf("%s: ApplyDelta = %v, want %v", c.name, got, c.b)
		}
	}
}

func TestDeltaOfInvalidLists(t *testing.T) {
	for name, bad := range invalidDenies() {
		for _, pair := range [][2]impl.Deny{{bad, deny(3, 4, 9)}, {deny(3, 4, 9), bad}, {bad, bad}, {bad, {}}, {{}, bad}} {
			if got := impl.DeltaOf(pair[0], pair[1]); !sameDelta(got, impl.Delta{}) {
				t.Errorf("%s: DeltaOf(%v) = %v", name, pair, got)
			}
		}
	}
}

// eachPair calls a function with all pairs of lists and the delta between them.
func eachPair(check func(a impl.Deny, b impl.Deny, x impl.Delta)) {
	lists := denyLists()
	for _, a := range lists {
		for _, b := range lists {
			check(a, b, impl.DeltaOf(a, b))
		}
	}
}

func TestP56DeltasLeadFromListToList(t *testing.T) {
	eachPair(func(a impl.Deny, b impl.Deny, x impl.Delta) {
		if got := mustApply(t, a, x); !sameDeny(got, b) {
			t.Fatalf("ApplyDelta(%v, %v) = %v, want %v", a, x, got, b)
		}
	})
}

func TestP57DeltasCanBeTurnedAround(t *testing.T) {
	eachPair(func(a impl.Deny, b impl.Deny, x impl.Delta) {
		if got := impl.DeltaOf(b, a); !sameDelta(got, back(x)) || !sameDelta(got, deltaBy(b, a)) {
			t.Fatalf("DeltaOf(%v, %v) = %v, and the other way around %v", a, b, x, got)
		}
	})
}

func TestP58DeltasHaveOnlyWhatDiffers(t *testing.T) {
	eachPair(func(a impl.Deny, b impl.Deny, x impl.Delta) {
		for _, card := range slices.Concat(x.Add, x.Remove) {
			if slices.Contains(a.Cards, card) == slices.Contains(b.Cards, card) {
				t.Fatalf("DeltaOf(%v, %v) = %v", a, b, x)
			}
		}
		if !sameDelta(x, deltaBy(a, b)) {
			t.Fatalf("DeltaOf(%v, %v) = %v", a, b, x)
		}
	})
	for _, d := range denyLists() {
		if got := impl.DeltaOf(d, d); len(got.Add) != 0 || len(got.Remove) != 0 || got.From != d.Version || got.To != d.Version {
			t.Fatalf("DeltaOf(%v) to itself = %v", d, got)
		}
		if got := mustApply(t, d, impl.DeltaOf(d, d)); !sameDeny(got, d) {
			t.Fatalf("ApplyDelta of the delta of %v to itself = %v", d, got)
		}
	}
}

// eachApplied calls a function with lists, deltas that fit them, and what ApplyDelta makes of both.
func eachApplied(t *testing.T, check func(d impl.Deny, x impl.Delta, next impl.Deny)) {
	t.Helper()
	n := &numbers{state: 59}
	for _, d := range denyLists() {
		for range 30 {
			x := drawnDelta(n, d)
			check(d, x, mustApply(t, d, x))
		}
	}
}

func TestP59DeltasCanBeTakenBack(t *testing.T) {
	eachApplied(t, func(d impl.Deny, x impl.Delta, next impl.Deny) {
		if got := mustApply(t, next, back(x)); !sameDeny(got, d) {
			t.Fatalf("ApplyDelta(%v, %v), and the other way around = %v", d, x, got)
		}
	})
}

func TestP60DeltasFitOneVersion(t *testing.T) {
	failed := map[bool]int{}
	eachApplied(t, func(d impl.Deny, x impl.Delta, next impl.Deny) {
		if x.From == x.To && len(x.Add)+len(x.Remove) == 0 {
			if got := mustApply(t, next, x); !sameDeny(got, d) {
				t.Fatalf("ApplyDelta(%v, %v) again = %v", next, x, got)
			}
			return
		}
		failed[x.From == x.To]++
		checkNotApplied(t, "again", next, x)
	})
	if failed[true] < 100 || failed[false] < 100 {
		t.Errorf("only %v deltas were taken again", failed)
	}
}

func TestP146DeltasDoWhatTheyTell(t *testing.T) {
	eachApplied(t, func(d impl.Deny, x impl.Delta, next impl.Deny) {
		for card := range 100 {
			want := slices.Contains(d.Cards, card)
			if slices.Contains(x.Add, card) {
				want = true
			}
			if slices.Contains(x.Remove, card) {
				want = false
			}
			if slices.Contains(next.Cards, card) != want {
				t.Fatalf("ApplyDelta(%v, %v) = %v", d, x, next)
			}
		}
		if !sameDeny(next, deny(x.To, appliedBy(d, x)...)) {
			t.Fatalf("ApplyDelta(%v, %v) = %v", d, x, next)
		}
	})
}

// A card can't be added and taken away by one delta, whether it is there or not.
func TestP146CardsOfBothPartsDoNotFit(t *testing.T) {
	for _, d := range []impl.Deny{deny(3), deny(3, 5), deny(3, 4, 7), deny(3, 4, 5, 7), deny(3, cardsFrom(1, 12)...)} {
		for _, to := range []int{3, 4} {
			checkNotApplied(t, "one card", d, delta(3, to, []int{5}, []int{5}))
			checkNotApplied(t, "one card of some", d, delta(3, to, []int{5, 80}, []int{4, 5}))
			checkNotApplied(t, "both cards", d, delta(3, to, []int{5, 6}, []int{5, 6}))
		}
	}
}

func TestApplyDeltaOfSomeLists(t *testing.T) {
	for _, c := range []struct {
		name string
		list impl.Deny
		x    impl.Delta
		want impl.Deny
	}{
		{"nothing", impl.Deny{}, impl.Delta{}, impl.Deny{}},
		{"a version alone", deny(3, 4, 7), delta(3, 999, nil, nil), deny(999, 4, 7)},
		{"an older version", deny(999, 4, 7), delta(999, 0, nil, nil), deny(0, 4, 7)},
		{"the same version", deny(3, 4, 7), delta(3, 3, []int{5}, []int{7}), deny(3, 4, 5)},
		{"all others", deny(3, cardsFrom(0, 12)...), delta(3, 4, cardsFrom(88, 12), cardsFrom(0, 12)), deny(4, cardsFrom(88, 12)...)},
		{"one other in a full list", deny(3, cardsFrom(0, 12)...), delta(3, 4, []int{99}, []int{0}), deny(4, append(cardsFrom(1, 11), 99)...)},
		{"up to a full list", deny(3), delta(3, 4, cardsFrom(50, 12), nil), deny(4, cardsFrom(50, 12)...)},
		{"down to an empty list", deny(3, cardsFrom(0, 12)...), delta(3, 4, nil, cardsFrom(0, 12)), deny(4)},
		{"around others", deny(3, 50), delta(3, 4, []int{0, 99}, nil), deny(4, 0, 50, 99)},
		{"between others", deny(3, 0, 99), delta(3, 4, []int{50}, nil), deny(4, 0, 50, 99)},
		{"in place of others", deny(3, 0, 50, 99), delta(3, 4, []int{1, 51, 98}, []int{0, 50, 99}), deny(4, 1, 51, 98)},
	} {
		if got, ok := impl.ApplyDelta(c.list, c.x); !ok || !sameDeny(got, c.want) {
			t.Errorf("%s: ApplyDelta = %v, %v, want %v", c.name, got, ok, c.want)
		}
	}
}

func TestApplyDeltaThatFails(t *testing.T) {
	d, large := deny(3, 4, 7), deny(3, cardsFrom(1, 12)...)
	for _, from := range []int{-1, 0, 2, 4, 999, 1000, math.MinInt, math.MaxInt} {
		checkNotApplied(t, "another version", d, delta(from, 3, nil, nil))
		checkNotApplied(t, "another version", d, delta(from, 4, []int{5}, []int{4}))
	}
	for _, to := range []int{-1, 1000, math.MinInt, math.MaxInt} {
		checkNotApplied(t, "to no version", d, delta(3, to, nil, nil))
		checkNotApplied(t, "to no version", d, delta(3, to, []int{5}, []int{4}))
	}
	for _, there := range [][]int{{4}, {7}, {4, 7}, {4, 5}, {3, 7}, {0, 4, 99}} {
		checkNotApplied(t, "a card that is there", d, delta(3, 4, there, nil))
		checkNotApplied(t, "a card that is there", d, delta(3, 3, there, nil))
	}
	for _, absent := range [][]int{{5}, {0}, {99}, {4, 5}, {5, 7}, {4, 7, 8}, {0, 4, 7}} {
		checkNotApplied(t, "a card that is not there", d, delta(3, 4, nil, absent))
		checkNotApplied(t, "a card that is not there", d, delta(3, 3, nil, absent))
		checkNotApplied(t, "nobody is there", deny(3), delta(3, 4, nil, absent))
	}
	checkNotApplied(t, "one card too many", large, delta(3, 4, []int{0}, nil))
	checkNotApplied(t, "one card too many", large, delta(3, 4, []int{50, 99}, []int{1}))
	checkNotApplied(t, "one card too many", d, delta(3, 4, cardsFrom(20, 11), nil))
	checkNotApplied(t, "many cards too many", large, delta(3, 4, cardsFrom(20, 12), nil))
}

func TestApplyDeltaOfInvalidArguments(t *testing.T) {
	for name, cards := range invalidCards() {
		for _, d := range []impl.Deny{deny(3), deny(3, 4, 7), deny(3, 5, 6), deny(3, cardsFrom(3, 12)...), deny(3, cardsFrom(20, 12)...)} {
			checkNotApplied(t, "add "+name, d, delta(3, 4, cards, nil))
			checkNotApplied(t, "add in place of all, "+name, d, delta(3, 4, cards, d.Cards))
			checkNotApplied(t, "remove "+name, d, delta(3, 4, nil, cards))
			checkNotApplied(t, "both "+name, d, delta(3, 4, cards, cards))
		}
	}
	for name, d := range invalidDenies() {
		checkNotApplied(t, name, d, delta(d.Version, 4, nil, nil))
		checkNotApplied(t, name, d, delta(d.Version, 4, []int{50}, nil))
		checkNotApplied(t, name, d, delta(d.Version, 4, nil, d.Cards))
		checkNotApplied(t, name, d, delta(d.Version, d.Version, nil, nil))
		checkNotApplied(t, name, d, delta(3, 4, nil, []int{4}))
		checkNotApplied(t, name, d, delta(3, 4, []int{50}, nil))
	}
}

// anyDenies returns deny lists that are valid or not.
func anyDenies() []impl.Deny {
	return withInvalid(denyLists(), invalidDenies())
}

// writeOverDenies calls every function of the chapter, and writes over the results.
func writeOverDenies(a impl.Deny, b impl.Deny, x impl.Delta) {
	impl.ValidDeny(a)
	for _, card := range []int{0, 4, 50, 99, 100} {
		for _, there := range []bool{true, false} {
			next, _ := impl.DenyCard(a, card, there)
			fill(next.Cards, -9)
		}
	}
	fillDelta(impl.DeltaOf(a, b), -9)
	next, _ := impl.ApplyDelta(a, x)
	fill(next.Cards, -9)
}

func TestDenyListsChangeNothing(t *testing.T) {
	n := &numbers{state: 60}
	lists := anyDenies()
	for _, d := range lists {
		deltas := []impl.Delta{delta(d.Version, d.Version, nil, nil), delta(d.Version, 4, []int{50}, nil), deltaBy(d, deny(7, 0, 4, 9))}
		if impl.ValidDeny(d) {
			deltas = append(deltas, drawnDelta(n, d), drawnDelta(n, d))
		}
		for _, x := range deltas {
			a, b, y := spareDeny(d), spareDeny(lists[n.below(len(lists))]), spareDelta(x)
			first, second, add, remove := whole(a.Cards), whole(b.Cards), whole(y.Add), whole(y.Remove)
			writeOverDenies(a, b, y)
			if !slices.Equal(first, whole(a.Cards)) || !slices.Equal(second, whole(b.Cards)) || !slices.Equal(add, whole(y.Add)) || !slices.Equal(remove, whole(y.Remove)) {
				t.Fatalf("a call changed the arguments %v, %v or %v, or shares memory with them", d, b, x)
			}
		}
	}
}

func TestDenyListsAreNewMemory(t *testing.T) {
	n := &numbers{state: 61}
	for _, d := range denyLists() {
		x := drawnDelta(n, d)
		changing, delta := spareDeny(d), spareDelta(x)
		next := mustApply(t, changing, delta)
		step, _ := impl.DenyCard(changing, 50, !slices.Contains(d.Cards, 50))
		want := slices.Clone(step.Cards)
		fill(changing.Cards, -8)
		fillDelta(delta, -8)
		writeOverDenies(d, d, x)
		if !slices.Equal(next.Cards, appliedBy(d, x)) || !slices.Equal(step.Cards, want) {
			t.Fatalf("ApplyDelta(%v, %v) = %v, DenyCard %v, behind changes of the arguments and of later results", d, x, next, step)
		}
	}
}

func TestDeltasAreNewMemory(t *testing.T) {
	eachPair(func(a impl.Deny, b impl.Deny, _ impl.Delta) {
		first, second := spareDeny(a), spareDeny(b)
		got, again := impl.DeltaOf(first, second), impl.DeltaOf(first, second)
		fill(first.Cards, -8)
		fill(second.Cards, -8)
		fillDelta(again, -9)
		if !sameDelta(got, deltaBy(a, b)) {
			t.Fatalf("DeltaOf(%v, %v) = %v behind changes of the arguments and of a later result", a, b, got)
		}
		add := whole(got.Add)
		fill(got.Remove, -9)
		if !slices.Equal(add, whole(got.Add)) {
			t.Fatalf("Add and Remove of DeltaOf(%v, %v) share memory", a, b)
		}
	})
}
