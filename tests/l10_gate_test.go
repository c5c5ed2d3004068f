package tests

import (
	"math"
	"slices"
	"testing"

	"loop.example/transitfares/impl"
)

// holdCard calls HoldCard.
func holdCard(g impl.Gate, h hold) (impl.Gate, bool) {
	return impl.HoldCard(g, h.card, h.minute, h.stop, h.out)
}

// mustBeGate checks that a result is a valid validator.
func mustBeGate(t *testing.T, g impl.Gate) impl.Gate {
	t.Helper()
	if !impl.ValidGate(g) {
		t.Fatalf("ValidGate(%v) = false", g)
	}
	return g
}

// mustSend returns SendTaps, which has to leave a valid validator.
func mustSend(t *testing.T, g impl.Gate, many int) (impl.Gate, []impl.Tap) {
	t.Helper()
	less, sent := impl.SendTaps(g, many)
	return mustBeGate(t, less), sent
}

func TestValidGateWithinLimits(t *testing.T) {
	for _, g := range gates() {
		if !impl.ValidGate(g) {
			t.Errorf("ValidGate(%v) = false", g)
		}
	}
	for next := -2; next <= 1003; next++ {
		if got := impl.ValidGate(gate(next, deny(3))); got != (0 <= next && next <= 1000) {
			t.Errorf("ValidGate of next %d = %v", next, got)
		}
		if got := impl.ValidGate(gate(next, deny(3), in(500, 7, 600, 0))); got != (500 < next && next <= 1000) {
			t.Errorf("ValidGate of next %d with tap 500 = %v", next, got)
		}
	}
	for validator := -1; validator <= 10; validator++ {
		g := impl.Gate{Validator: validator, Next: 1000, Kept: []impl.Tap{at(validator, in(999, 7, 600, 0))}}
		if got := impl.ValidGate(g); got != (0 <= validator && validator <= 9) {
			t.Errorf("ValidGate of validator %d = %v", validator, got)
		}
	}
	for count := range 14 {
		if got := impl.ValidGate(gate(500, deny(3), keptTaps(400, count)...)); got != (count <= 10) {
			t.Errorf("ValidGate of %d taps = %v", count, got)
		}
	}
}

// The minutes of the taps of a validator need not ascend; only their numbers have to.
func TestValidGateOfMinutesThatFall(t *testing.T) {
	if g := gate(9, deny(3), in(1, 7, 900, 0), in(4, 7, 600, 0), in(8, 7, 600, 0)); !impl.ValidGate(g) {
		t.Errorf("ValidGate(%v) = false", g)
	}
}

func TestValidGateOutsideOfLimits(t *testing.T) {
	for name, g := range invalidGates() {
		if impl.ValidGate(g) {
			t.Errorf("%s: ValidGate(%v) = true", name, g)
		}
	}
}

func TestHoldCardOfSomeCards(t *testing.T) {
	fullIn, fullOut := hold{8, 700, 3, false}, hold{8, 700, 3, true}
	deniedIn, deniedOut := hold{4, 700, 3, false}, hold{4, 700, 3, true}
	nine, ten := keptTaps(0, 9), keptTaps(0, 10)
	for _, c := range []struct {
		name    string
		gate    impl.Gate
		hold    hold
		want    impl.Gate
		through bool
	}{
		{"in", gate(5, deny(3, 4)), fullIn, gate(6, deny(3, 4), in(5, 8, 700, 3)), true},
		{"out", gate(5, deny(3, 4)), fullOut, gate(6, deny(3, 4), out(5, 8, 700, 3)), true},
		{"denied in", gate(5, deny(3, 4)), deniedIn, gate(5, deny(3, 4)), false},
		{"denied out", gate(5, deny(3, 4)), deniedOut, gate(6, deny(3, 4), out(5, 4, 700, 3)), true},
		{"denied first of several", gate(5, deny(3, 4, 5, 6)), deniedIn, gate(5, deny(3, 4, 5, 6)), false},
		{"denied last of several", gate(5, deny(3, 1, 3, 4)), deniedIn, gate(5, deny(3, 1, 3, 4)), false},
		{"behind others", gate(30, deny(3), in(3, 8, 600, 3), out(20, 8, 610, 3)), fullIn, gate(31, deny(3), in(3, 8, 600, 3), out(20, 8, 610, 3), in(30, 8, 700, 3)), true},
		{"behind later ones", gate(30, deny(3), in(3, 8, 900, 3)), fullOut, gate(31, deny(3), in(3, 8, 900, 3), out(30, 8, 700, 3)), true},
		{"twice in one minute", gate(30, deny(3), in(29, 8, 700, 3)), fullIn, gate(31, deny(3), in(29, 8, 700, 3), in(30, 8, 700, 3)), true},
		{"the last place", gate(9, deny(3, 4), nine...), fullIn, gate(10, deny(3, 4), append(slices.Clone(nine), in(9, 8, 700, 3))...), true},
		{"the last place for a denied one", gate(9, deny(3, 4), nine...), deniedOut, gate(10, deny(3, 4), append(slices.Clone(nine), out(9, 4, 700, 3))...), true},
		{"no place on the way in", gate(10, deny(3, 4), ten...), fullIn, gate(10, deny(3, 4), ten...), false},
		{"no place on the way out", gate(10, deny(3, 4), ten...), fullOut, gate(10, deny(3, 4), ten...), true},
		{"no place, denied in", gate(10, deny(3, 4), ten...), deniedIn, gate(10, deny(3, 4), ten...), false},
		{"no place, denied out", gate(10, deny(3, 4), ten...), deniedOut, gate(10, deny(3, 4), ten...), true},
		{"the last number", gate(999, deny(3, 4)), fullIn, gate(1000, deny(3, 4), in(999, 8, 700, 3)), true},
		{"the last number for a denied one", gate(999, deny(3, 4)), deniedOut, gate(1000, deny(3, 4), out(999, 4, 700, 3)), true},
		{"the last number, denied in", gate(999, deny(3, 4)), deniedIn, gate(999, deny(3, 4)), false},
		{"no number on the way in", gate(1000, deny(3, 4)), fullIn, gate(1000, deny(3, 4)), false},
		{"no number on the way out", gate(1000, deny(3, 4)), fullOut, gate(1000, deny(3, 4)), true},
		{"no number, denied in", gate(1000, deny(3, 4)), deniedIn, gate(1000, deny(3, 4)), false},
		{"no number, denied out", gate(1000, deny(3, 4)), deniedOut, gate(1000, deny(3, 4)), true},
		{"least values", impl.Gate{}, hold{}, impl.Gate{Next: 1, Kept: []impl.Tap{{}}}, true},
		{"greatest values", impl.Gate{Validator: 9, Next: 999, Deny: deny(999, 98)}, hold{99, 40319, 9, true}, impl.Gate{Validator: 9, Next: 1000, Deny: deny(999, 98), Kept: []impl.Tap{{Validator: 9, Number: 999, Card: 99, Minute: 40319, Stop: 9, Out: true}}}, true},
	} {
		if got, through := holdCard(c.gate, c.hold); !sameGate(got, c.want) || through != c.through {
			t.Errorf("%s: HoldCard = %v, %v, want %v, %v", c.name, got, through, c.want, c.through)
		}
	}
}

// A full list of denied cards, each of which is held to the validator, with the cards between.
func TestHoldCardOfFullDenyList(t *testing.T) {
	d := deny(3, 0, 9, 18, 27, 36, 45, 54, 63, 72, 81, 90, 99)
	for card := range 100 {
		if _, through := impl.HoldCard(gate(5, d), card, 600, 3, false); through == (card%9 == 0) {
			t.Errorf("HoldCard of card %d on the way in = %v", card, through)
		}
		if got, through := impl.HoldCard(gate(5, d), card, 600, 3, true); !through || len(got.Kept) != 1 {
			t.Errorf("HoldCard of card %d on the way out = %v, %v", card, got, through)
		}
	}
}

func TestP62WhoIsLetThroughWithATapHasATap(t *testing.T) {
	n := &numbers{state: 62}
	kept, same := 0, 0
	for _, g := range gates() {
		for _, h := range holdsAt(n, g) {
			got, through := holdCard(g, h)
			want, wantThrough := heldBy(g, h)
			if !sameGate(got, want) || through != wantThrough || !impl.ValidGate(got) {
				t.Fatalf("HoldCard(%v, %v) = %v, %v, want %v, %v", g, h, got, through, want, wantThrough)
			}
			if sameGate(got, g) {
				same++
				continue
			}
			kept++
			last := got.Kept[len(got.Kept)-1]
			if !through || last.Card != h.card || last.Out != h.out || slices.Contains(g.Deny.Cards, h.card) && !last.Out {
				t.Fatalf("HoldCard(%v, %v) keeps %v, %v", g, h, last, through)
			}
		}
	}
	if kept < 500 || same < 500 {
		t.Errorf("only %d cards leave a tap, and %d none", kept, same)
	}
}

func TestP147NobodyIsKeptIn(t *testing.T) {
	n := &numbers{state: 147}
	for _, g := range gates() {
		for card := range 100 {
			if _, through := impl.HoldCard(g, card, n.below(40320), n.below(10), true); !through {
				t.Fatalf("HoldCard(%v, %d) on the way out = false", g, card)
			}
		}
	}
}

// Cards are held to a validator until it is full, and it sends some of its taps from time to time.
func TestHoldCardAgainAndAgain(t *testing.T) {
	n := &numbers{state: 63}
	for _, first := range gates() {
		got, want := first, first
		for range 40 {
			h := hold{n.below(20), n.below(40320), n.below(10), n.below(2) == 0}
			var a, b bool
			got, a = holdCard(got, h)
			want, b = heldBy(want, h)
			if n.below(8) == 0 {
				many := n.below(12)
				got, _ = mustSend(t, got, many)
				want, _ = sentBy(want, many)
			}
			if !sameGate(got, want) || a != b {
				t.Fatalf("%v became %v, want %v, and %v was let through: %v, want %v", first, got, want, h, a, b)
			}
		}
	}
}

func TestP63DeniedCardsAreNotLetIn(t *testing.T) {
	n := &numbers{state: 63}
	checked := 0
	for _, g := range gates() {
		for _, d := range denyLists() {
			if d.Version <= g.Deny.Version {
				continue
			}
			next := mustBeGate(t, impl.TakeDeny(g, d))
			for _, card := range d.Cards {
				checked++
				if got, through := impl.HoldCard(next, card, n.below(40320), n.below(10), false); through || !sameGate(got, next) {
					t.Fatalf("behind TakeDeny(%v, %v), HoldCard of %d = %v, %v", g, d, card, got, through)
				}
			}
		}
	}
	if checked < 1000 {
		t.Errorf("only %d cards were checked", checked)
	}
}

// checkNotHeld checks that HoldCard returns the zero value and false.
func checkNotHeld(t *testing.T, name string, g impl.Gate, h hold) {
	t.Helper()
	if got, through := holdCard(g, h); through || !sameGate(got, impl.Gate{}) {
		t.Errorf("%s: HoldCard(%v, %v) = %v, %v", name, g, h, got, through)
	}
}

// Also a validator that would change nothing has no result for what is no tap.
func TestHoldCardOfInvalidArguments(t *testing.T) {
	for name, h := range invalidHolds() {
		for _, g := range gates() {
			checkNotHeld(t, name, g, h)
		}
	}
	for name, g := range invalidGates() {
		for _, h := range []hold{{7, 600, 3, false}, {7, 600, 3, true}, {4, 600, 3, false}, {4, 600, 3, true}} {
			checkNotHeld(t, name, g, h)
		}
	}
}

func TestSendTapsOfSomeTaps(t *testing.T) {
	g := gate(700, deny(3, 4, 7), keptTaps(20, 5)...)
	for _, c := range []struct {
		name       string
		many       int
		sent, stay []impl.Tap
	}{
		{"none", 0, nil, keptTaps(20, 5)},
		{"one", 1, keptTaps(20, 5)[:1], keptTaps(20, 5)[1:]},
		{"some", 3, keptTaps(20, 5)[:3], keptTaps(20, 5)[3:]},
		{"all but one", 4, keptTaps(20, 5)[:4], keptTaps(20, 5)[4:]},
		{"all", 5, keptTaps(20, 5), nil},
		{"one more than there are", 6, keptTaps(20, 5), nil},
		{"MaxKept", 10, keptTaps(20, 5), nil},
		{"more than MaxKept", 11, keptTaps(20, 5), nil},
		{"as many as there are numbers", math.MaxInt, keptTaps(20, 5), nil},
	} {
		if got, sent := impl.SendTaps(g, c.many); !sameGate(got, gate(700, deny(3, 4, 7), c.stay...)) || !slices.Equal(sent, c.sent) {
			t.Errorf("%s: SendTaps = %v, %v", c.name, got, sent)
		}
	}
	for _, many := range []int{0, 1, 10, math.MaxInt} {
		if got, sent := impl.SendTaps(gate(5, deny(3, 4)), many); !sameGate(got, gate(5, deny(3, 4))) || len(sent) != 0 {
			t.Errorf("SendTaps without taps = %v, %v", got, sent)
		}
	}
}

func TestP61ValidatorsSendTheirTaps(t *testing.T) {
	for _, g := range gates() {
		for _, many := range []int{0, 1, 2, 5, 9, 10, 11, math.MaxInt} {
			got, sent := mustSend(t, g, many)
			if less, first := sentBy(g, many); !sameGate(got, less) || !slices.Equal(sent, first) {
				t.Fatalf("SendTaps(%v, %d) = %v, %v", g, many, got, sent)
			}
		}
	}
}

func TestP64SentTapsAreTheFirstOnes(t *testing.T) {
	for _, g := range gates() {
		for many := range 13 {
			got, sent := mustSend(t, g, many)
			if !slices.Equal(slices.Concat(sent, got.Kept), g.Kept) || len(sent) != min(many, len(g.Kept)) {
				t.Fatalf("SendTaps(%v, %d) = %v, %v", g, many, got, sent)
			}
		}
	}
}

func TestP148AllTapsCanBeSent(t *testing.T) {
	for _, g := range gates() {
		if got, sent := mustSend(t, g, impl.MaxKept); len(got.Kept) != 0 || !slices.Equal(sent, g.Kept) || got.Next != g.Next || !sameDeny(got.Deny, g.Deny) || got.Validator != g.Validator {
			t.Fatalf("SendTaps(%v) of all = %v, %v", g, got, sent)
		}
		if got, sent := mustSend(t, g, 0); !sameGate(got, g) || len(sent) != 0 {
			t.Fatalf("SendTaps(%v) of none = %v, %v", g, got, sent)
		}
	}
}

func TestP65TapsCanBeSentTwice(t *testing.T) {
	n := &numbers{state: 65}
	for _, g := range gates() {
		for many := range impl.MaxKept + 1 {
			left, first := mustSend(t, g, many)
			_, again := mustSend(t, g, n.below(impl.MaxKept+1))
			_, rest := mustSend(t, left, impl.MaxKept)
			for _, order := range [][]impl.Tap{slices.Concat(first, rest, again), slices.Concat(first, again, rest), mixed(n, slices.Concat(first, again, rest))} {
				if got := impl.CollectTaps(order); len(got) != len(g.Kept) || !slices.Equal(got, sorted(g.Kept)) {
					t.Fatalf("CollectTaps(%v) = %v, the validator had %v", order, got, g.Kept)
				}
			}
		}
	}
}

func TestSendTapsOfInvalidArguments(t *testing.T) {
	for _, g := range gates() {
		for _, many := range []int{-1, -2, -10, math.MinInt} {
			if got, sent := impl.SendTaps(g, many); !sameGate(got, impl.Gate{}) || sent != nil {
				t.Fatalf("SendTaps(%v, %d) = %v, %v", g, many, got, sent)
			}
		}
	}
	for name, g := range invalidGates() {
		for _, many := range []int{-1, 0, 1, 10, math.MaxInt} {
			if got, sent := impl.SendTaps(g, many); !sameGate(got, impl.Gate{}) || sent != nil {
				t.Errorf("%s: SendTaps(%v, %d) = %v, %v", name, g, many, got, sent)
			}
		}
	}
}

func TestTakeDenyOfSomeLists(t *testing.T) {
	kept := keptTaps(20, 5)
	for _, c := range []struct {
		name           string
		own, new, want impl.Deny
	}{
		{"a version more", deny(3, 4, 7), deny(4, 5), deny(4, 5)},
		{"many versions more", deny(0, 4, 7), deny(999, 4, 5, 7), deny(999, 4, 5, 7)},
		{"an empty list", deny(3, 4, 7), deny(4), deny(4)},
		{"in place of an empty list", deny(3), deny(4, 0, 99), deny(4, 0, 99)},
		{"the same cards", deny(3, 4, 7), deny(5, 4, 7), deny(5, 4, 7)},
		{"the same version", deny(3, 4, 7), deny(3, 5), deny(3, 4, 7)},
		{"the same list", deny(3, 4, 7), deny(3, 4, 7), deny(3, 4, 7)},
		{"a version less", deny(3, 4, 7), deny(2, 5), deny(3, 4, 7)},
		{"many versions less", deny(999, 4, 7), deny(0, 5), deny(999, 4, 7)},
		{"a full list", deny(3, cardsFrom(0, 12)...), deny(4, cardsFrom(88, 12)...), deny(4, cardsFrom(88, 12)...)},
	} {
		if got := impl.TakeDeny(gate(700, c.own, kept...), c.new); !sameGate(got, gate(700, c.want, kept...)) {
			t.Errorf("%s: TakeDeny = %v, want the list %v", c.name, got, c.want)
		}
	}
}

func TestP66OldListsAreNotTaken(t *testing.T) {
	taken := map[bool]int{}
	for _, g := range gates() {
		for _, d := range denyLists() {
			want := ownGate(g)
			if d.Version > g.Deny.Version {
				want.Deny = d
			}
			got := mustBeGate(t, impl.TakeDeny(g, d))
			if !sameGate(got, want) || got.Deny.Version != max(d.Version, g.Deny.Version) {
				t.Fatalf("TakeDeny(%v, %v) = %v", g, d, got)
			}
			if again := impl.TakeDeny(got, d); !sameGate(again, got) {
				t.Fatalf("TakeDeny(%v, %v), and again = %v", g, d, again)
			}
			if older := impl.TakeDeny(got, g.Deny); !sameGate(older, got) {
				t.Fatalf("TakeDeny(%v, %v), and the list before = %v", g, d, older)
			}
			taken[d.Version > g.Deny.Version]++
		}
	}
	if taken[true] < 1000 || taken[false] < 1000 {
		t.Errorf("only %v lists were taken", taken)
	}
}

func TestTakeDenyOfInvalidArguments(t *testing.T) {
	for name, d := range invalidDenies() {
		for _, g := range gates() {
			if got := impl.TakeDeny(g, d); !sameGate(got, impl.Gate{}) {
				t.Fatalf("%s: TakeDeny(%v, %v) = %v", name, g, d, got)
			}
		}
	}
	for name, g := range invalidGates() {
		for _, d := range []impl.Deny{{}, deny(3, 4, 7), deny(999, 5)} {
			if got := impl.TakeDeny(g, d); !sameGate(got, impl.Gate{}) {
				t.Errorf("%s: TakeDeny(%v, %v) = %v", name, g, d, got)
			}
		}
	}
}

// gateCalls returns what the functions of the chapter make of a validator and a deny list, by their names, and the taps that are sent.
func gateCalls(g impl.Gate, d impl.Deny) (map[string]impl.Gate, map[string][]impl.Tap) {
	made, taps := map[string]impl.Gate{}, map[string][]impl.Tap{}
	for name, h := range map[string]hold{"in": {50, 600, 3, false}, "out": {50, 600, 3, true}, "first denied in": {4, 600, 3, false}, "denied out": {4, 600, 3, true}, "no card": {100, 600, 3, true}} {
		made["HoldCard "+name], _ = holdCard(g, h)
	}
	for name, many := range map[string]int{"none": 0, "one": 1, "some": 4, "all": 10, "fewer than none": -1} {
		made["SendTaps "+name], taps["SendTaps "+name] = impl.SendTaps(g, many)
	}
	made["TakeDeny"] = impl.TakeDeny(g, d)
	made["TakeDeny of its own"] = impl.TakeDeny(g, g.Deny)
	return made, taps
}

// anyGates returns validators that are valid or not.
func anyGates() []impl.Gate {
	return withInvalid(gates(), invalidGates())
}

func TestValidatorsChangeNothing(t *testing.T) {
	lists := anyDenies()
	for i, g := range anyGates() {
		g, d := spareGate(g), spareDeny(lists[i%len(lists)])
		before, cards := wholeGate(g), whole(d.Cards)
		impl.ValidGate(g)
		made, taps := gateCalls(g, d)
		for _, x := range made {
			fillGate(x)
		}
		for _, list := range taps {
			fill(list, noTap)
		}
		if !sameGate(before, wholeGate(g)) || !slices.Equal(cards, whole(d.Cards)) {
			t.Fatalf("a call changed the arguments %v or %v, or shares memory with them", before, cards)
		}
	}
}

func TestValidatorsAreNewMemory(t *testing.T) {
	lists := denyLists()
	for i, g := range gates() {
		d := lists[i%len(lists)]
		want, wantTaps := gateCalls(g, d)
		changing, list := spareGate(g), spareDeny(d)
		got, taps := gateCalls(changing, list)
		fillGate(changing)
		fill(list.Cards, -9)
		for name := range want {
			if !sameGate(got[name], want[name]) || !slices.Equal(taps[name], wantTaps[name]) {
				t.Fatalf("%s of %v = %v, %v behind a change of the arguments, before %v, %v", name, g, got[name], taps[name], want[name], wantTaps[name])
			}
		}
		for name := range want {
			made, sent := wholeGate(got[name]), whole(taps[name])
			for other := range want {
				if other != name {
					fillGate(got[other])
					fill(taps[other], noTap)
				}
			}
			if !sameGate(made, wholeGate(got[name])) || !slices.Equal(sent, whole(taps[name])) {
				t.Fatalf("%s of %v shares memory with another result", name, g)
			}
			got, taps = gateCalls(g, d)
		}
	}
}

func TestSentTapsShareNoMemoryWithThoseThatStay(t *testing.T) {
	for _, g := range gates() {
		for many := range impl.MaxKept + 1 {
			got, sent := mustSend(t, spareGate(g), many)
			stay := whole(got.Kept)
			fill(sent, noTap)
			if !slices.Equal(stay, whole(got.Kept)) {
				t.Fatalf("the taps of SendTaps(%v, %d) share memory with those that stay", g, many)
			}
		}
	}
}
