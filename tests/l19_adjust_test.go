package tests

import (
	"maps"
	"math"
	"slices"
	"testing"

	"loop.example/transitfares/impl"
)

// mustAdjust returns ApplyAdjust, which has to succeed and make amounts for all days.
func mustAdjust(t *testing.T, list []int, changes []impl.Adjust) []int {
	t.Helper()
	after, ok := impl.ApplyAdjust(list, changes)
	if !ok || len(after) != 29 || slices.Min(after) < 0 || slices.Max(after) > 100000 {
		t.Fatalf("ApplyAdjust(%v, %v) = %v, %v", list, changes, after, ok)
	}
	return after
}

// mustChange returns LateChange, which has to succeed.
func mustChange(t *testing.T, x account, card int, tap impl.Tap) []impl.Adjust {
	t.Helper()
	changes, ok := impl.LateChange(x.rules, x.list, card, tap)
	if !ok {
		t.Fatalf("LateChange(%v, %d, %v) = %v, false", x, card, tap, changes)
	}
	return changes
}

func TestLimitsOfAdjustmentsAreThoseOfTheDocument(t *testing.T) {
	if impl.MaxDay != 28 || impl.MaxAmount != 100000 || impl.MaxCap > impl.MaxAmount {
		t.Errorf("MaxDay = %d, MaxAmount = %d, MaxCap = %d", impl.MaxDay, impl.MaxAmount, impl.MaxCap)
	}
}

func TestAdjustmentsOfSomeAmounts(t *testing.T) {
	most := slices.Repeat([]int{100000}, 29)
	var up, down []impl.Adjust
	for day := range 29 {
		up, down = append(up, adjust(day, 100000)), append(down, adjust(day, -100000))
	}
	for _, c := range []struct {
		name          string
		before, after []int
		want          []impl.Adjust
	}{
		{"no change", dues(3, 5), dues(3, 5), nil},
		{"no amounts", dues(), dues(), nil},
		{"the greatest amounts", most, most, nil},
		{"more", dues(3, 5), dues(3, 12), adjusts(3, 7)},
		{"less", dues(3, 12), dues(3, 5), adjusts(3, -7)},
		{"the first day", dues(), dues(0, 1), adjusts(0, 1)},
		{"the last day", dues(28, 1), dues(), adjusts(28, -1)},
		{"the first and the last day", dues(0, 7), dues(28, 7), adjusts(0, -7, 28, 7)},
		{"days without a change between", dues(7, 2, 9, 4), dues(3, 5, 9, 4), adjusts(3, 5, 7, -2)},
		{"neighbours", dues(7, 2, 8, 3, 9, 4), dues(7, 3, 8, 3, 9, 3), adjusts(7, 1, 9, -1)},
		{"a change of each day", dues(), most, up},
		{"a change of each day back", most, dues(), down},
		{"each day but one", dues(14, 100000), most, without(up, 14)},
		{"a day too short", make([]int, 28), dues(), nil},
		{"a day too short behind", dues(3, 5), make([]int, 28), nil},
		{"both too short", []int{5}, []int{6}, nil},
		{"both too long", make([]int, 30), append(dues(3, 5), 1), nil},
		{"no days", nil, dues(3, 5), nil},
		{"no days behind", dues(3, 5), nil, nil},
		{"below 0", dues(3, -1), dues(3, 5), nil},
		{"below 0 behind", dues(3, 5), dues(3, -1), nil},
		{"below 0 on another day", dues(3, 5, 28, -1), dues(3, 6, 28, -1), nil},
		{"too great", dues(3, 100001), dues(3, 100000), nil},
		{"too great behind", dues(3, 100000), dues(3, 100001), nil},
	} {
		if got := impl.Adjustments(c.before, c.after); !slices.Equal(got, c.want) {
			t.Errorf("%s: Adjustments(%v, %v) = %v, want %v", c.name, c.before, c.after, got, c.want)
		}
	}
}

func TestP114AdjustmentsLeadFromAmountsToAmounts(t *testing.T) {
	for _, pair := range duePairs() {
		before, after := pair[0], pair[1]
		changes := impl.Adjustments(before, after)
		if want := changesBy(before, after); !slices.Equal(changes, want) {
			t.Fatalf("Adjustments(%v, %v) = %v, want %v", before, after, changes, want)
		}
		if got := mustAdjust(t, before, changes); !slices.Equal(got, after) {
			t.Fatalf("ApplyAdjust(%v, %v) = %v, want %v", before, changes, got, after)
		}
	}
}

func TestP115AdjustmentsCanBeTurnedAround(t *testing.T) {
	for _, pair := range duePairs() {
		before, after := pair[0], pair[1]
		want := impl.Adjustments(before, after)
		for i := range want {
			want[i].Amount *= -1
		}
		got := impl.Adjustments(after, before)
		if !slices.Equal(got, want) {
			t.Fatalf("Adjustments(%v, %v) = %v, want %v", after, before, got, want)
		}
		if first := mustAdjust(t, after, got); !slices.Equal(first, before) {
			t.Fatalf("ApplyAdjust(%v, %v) = %v, want %v", after, got, first, before)
		}
	}
}

func TestP116AdjustmentsChangeTheirDays(t *testing.T) {
	n := &numbers{state: 116}
	changed := map[int]int{}
	for _, list := range dueLists() {
		for range 40 {
			changes := drawnChanges(n, list)
			after := mustAdjust(t, list, changes)
			if want, _ := adjustedBy(list, changes); !slices.Equal(after, want) {
				t.Fatalf("ApplyAdjust(%v, %v) = %v, want %v", list, changes, after, want)
			}
			want := slices.DeleteFunc(slices.Clone(changes), func(a impl.Adjust) bool { return a.Amount == 0 })
			if told := impl.Adjustments(list, after); !slices.Equal(told, want) {
				t.Fatalf("Adjustments(%v, %v) = %v, want %v", list, after, told, want)
			}
			if again := mustAdjust(t, list, want); !slices.Equal(again, after) {
				t.Fatalf("ApplyAdjust(%v, %v) = %v, want %v", list, want, again, after)
			}
			for day, amount := range after {
				differs := slices.ContainsFunc(want, func(a impl.Adjust) bool { return a.Day == day })
				if differs != (amount != list[day]) {
					t.Fatalf("ApplyAdjust(%v, %v) = %v", list, changes, after)
				}
				if differs {
					changed[day]++
				}
			}
		}
	}
	for day := range 29 {
		if changed[day] < 100 {
			t.Errorf("day %d changed only %d times", day, changed[day])
		}
	}
}

func TestApplyAdjustOfSomeChanges(t *testing.T) {
	list := dues(0, 500, 3, 7, 28, 100000)
	var all []impl.Adjust
	for day := range 29 {
		all = append(all, adjust(day, 1))
	}
	for _, c := range []struct {
		name    string
		list    []int
		changes []impl.Adjust
		want    []int
	}{
		{"no changes", list, nil, list},
		{"no changes, but a list", list, []impl.Adjust{}, list},
		{"more", list, adjusts(3, 5), dues(0, 500, 3, 12, 28, 100000)},
		{"less", list, adjusts(3, -5), dues(0, 500, 3, 2, 28, 100000)},
		{"a day without an amount", list, adjusts(4, 9), dues(0, 500, 3, 7, 4, 9, 28, 100000)},
		{"day 0", list, adjusts(0, 1), dues(0, 501, 3, 7, 28, 100000)},
		{"MaxDay", list, adjusts(28, -1), dues(0, 500, 3, 7, 28, 99999)},
		{"the first and the last day", list, adjusts(0, -1, 28, -2), dues(0, 499, 3, 7, 28, 99998)},
		{"neighbours", list, adjusts(2, 1, 3, 2, 4, 3), dues(0, 500, 2, 1, 3, 9, 4, 3, 28, 100000)},
		{"an amount that becomes 0", list, adjusts(3, -7), dues(0, 500, 28, 100000)},
		{"less than nothing", list, adjusts(3, -8), nil},
		{"less than nothing of nothing", list, adjusts(4, -1), nil},
		{"MaxAmount that becomes 0", list, adjusts(28, -100000), dues(0, 500, 3, 7)},
		{"MaxAmount that becomes less than 0", list, adjusts(28, -100001), nil},
		{"an amount that becomes MaxAmount", list, adjusts(3, 99993), dues(0, 500, 3, 100000, 28, 100000)},
		{"more than MaxAmount", list, adjusts(3, 99994), nil},
		{"MaxAmount to nothing", list, adjusts(4, 100000), dues(0, 500, 3, 7, 4, 100000, 28, 100000)},
		{"more than MaxAmount to nothing", list, adjusts(4, 100001), nil},
		{"1 to MaxAmount", list, adjusts(28, 1), nil},
		{"no amount", list, adjusts(3, 0), list},
		{"no amounts", list, adjusts(0, 0, 4, 0, 28, 0), list},
		{"the first one too small", list, adjusts(0, -501, 3, 1), nil},
		{"the last one too great", list, adjusts(0, 1, 3, 1, 28, 1), nil},
		{"one between too small", list, adjusts(0, 1, 3, -8, 28, -1), nil},
		{"each day", dues(), all, slices.Repeat([]int{1}, 29)},
		{"a day below 0", list, adjusts(-1, 1), nil},
		{"a day too many", list, adjusts(29, 1), nil},
		{"a day twice", list, adjusts(3, 1, 3, 1), nil},
		{"a day twice, there and back", list, adjusts(3, 1, 3, -1), nil},
		{"a day twice, without amounts", list, adjusts(3, 0, 3, 0), nil},
		{"days that fall", list, adjusts(4, 1, 3, 1), nil},
		{"a day too short", make([]int, 28), adjusts(3, 1), nil},
		{"a day too long", make([]int, 30), adjusts(3, 1), nil},
		{"no days", nil, nil, nil},
		{"an amount below 0 that becomes valid", dues(3, -1), adjusts(3, 1), nil},
		{"an amount too great that becomes valid", dues(3, 100001), adjusts(3, -1), nil},
		{"an amount below 0 of another day", dues(4, -1), adjusts(3, 1), nil},
	} {
		got, ok := impl.ApplyAdjust(c.list, c.changes)
		if ok != (c.want != nil) || !slices.Equal(got, c.want) || !ok && got != nil {
			t.Errorf("%s: ApplyAdjust(%v, %v) = %v, %v, want %v", c.name, c.list, c.changes, got, ok, c.want)
		}
	}
}

func TestApplyAdjustOfFarAmounts(t *testing.T) {
	for _, list := range dueLists() {
		for _, amount := range farAmounts {
			for day := range 29 {
				checkNotAdjusted(t, "amount", list, adjusts(day, amount))
			}
			checkNotAdjusted(t, "last amount", list, adjusts(3, 0, 28, amount))
			checkNotAdjusted(t, "first amount", list, adjusts(3, amount, 28, 0))
		}
	}
	for _, amount := range []int{-100001, -100000, -99999, -1, 0, 1, 99999, 100000, 100001} {
		for _, old := range []int{0, 1, 2, 50000, 99999, 100000} {
			got, ok := impl.ApplyAdjust(dues(9, old), adjusts(9, amount))
			want, wantOk := adjustedBy(dues(9, old), adjusts(9, amount))
			if ok != wantOk || !slices.Equal(got, want) {
				t.Errorf("ApplyAdjust of %d to %d = %v, %v, want %v, %v", amount, old, got, ok, want, wantOk)
			}
		}
	}
}

// checkNotAdjusted checks that ApplyAdjust returns nil and false.
func checkNotAdjusted(t *testing.T, name string, list []int, changes []impl.Adjust) {
	t.Helper()
	if got, ok := impl.ApplyAdjust(list, changes); ok || got != nil {
		t.Errorf("%s: ApplyAdjust(%v, %v) = %v, %v", name, list, changes, got, ok)
	}
}

func TestAdjustmentsOfInvalidArguments(t *testing.T) {
	for name, bad := range invalidDues() {
		for _, good := range dueLists() {
			if got := impl.Adjustments(bad, good); got != nil {
				t.Fatalf("%s: Adjustments(%v, %v) = %v", name, bad, good, got)
			}
			if got := impl.Adjustments(good, bad); got != nil {
				t.Fatalf("%s: Adjustments(%v, %v) = %v", name, good, bad, got)
			}
		}
		for other, list := range invalidDues() {
			if got := impl.Adjustments(bad, list); got != nil {
				t.Errorf("%s, %s: Adjustments(%v, %v) = %v", name, other, bad, list, got)
			}
		}
		for _, changes := range [][]impl.Adjust{nil, adjusts(0, 1), adjusts(28, 1), adjusts(3, -1), adjusts(29, 0), {noAdjust}} {
			checkNotAdjusted(t, name, bad, changes)
		}
	}
	for name, changes := range invalidChanges() {
		for _, list := range dueLists() {
			checkNotAdjusted(t, name, list, changes)
		}
		checkNotAdjusted(t, name, slices.Repeat([]int{50000}, 29), changes)
	}
}

func TestLateChangeOfSomeTaps(t *testing.T) {
	ride := []impl.Tap{in(1, 7, 600, 0), out(2, 7, 630, 4), in(3, 7, 660, 4), out(4, 7, 670, 3)}
	for _, c := range []struct {
		name  string
		rules impl.Rules
		list  []impl.Tap
		card  int
		tap   impl.Tap
		want  []impl.Adjust
	}{
		{"out of a journey", onRules(30, 900, 3000), []impl.Tap{in(1, 7, 600, 0)}, 7, out(2, 7, 630, 4), adjusts(1, -760)},
		{"in of a journey", onRules(30, 900, 3000), []impl.Tap{out(2, 7, 630, 4)}, 7, in(1, 7, 600, 0), adjusts(1, -760)},
		{"the first tap", onRules(30, 900, 3000), nil, 7, in(1, 7, 0, 0), adjusts(0, 900)},
		{"the last minute", onRules(30, 900, 3000), nil, 7, out(1, 7, 40319, 9), adjusts(28, 900)},
		{"another day", onRules(30, 900, 3000), ride, 7, in(9, 7, 3000, 5), adjusts(2, 900)},
		{"between journeys that belong together", onRules(30, 5000, 9000), ride, 7, in(9, 7, 640, 2), adjusts(1, 1010)},
		{"between them, with the cap of the day", onRules(30, 900, 3000), ride, 7, in(9, 7, 640, 2), adjusts(1, 760)},
		{"behind the cap of the day", onRules(30, 900, 3000), []impl.Tap{in(1, 7, 600, 0)}, 7, in(2, 7, 700, 0), nil},
		{"without a cap of the day", onRules(30, 0, 3000), []impl.Tap{in(1, 7, 600, 0)}, 7, out(2, 7, 630, 4), nil},
		{"with the cap of the week", onRules(30, 900, 1000), []impl.Tap{in(1, 7, 600, 0), in(2, 7, 5000, 0)}, 7, out(3, 7, 630, 4), adjusts(1, -760, 4, 760)},
		{"in on the day before", onRules(30, 900, 3000), []impl.Tap{out(2, 7, 1700, 4)}, 7, in(1, 7, 1600, 0), adjusts(1, 140, 2, -900)},
		{"out on the next day", onRules(30, 900, 3000), []impl.Tap{in(1, 7, 1600, 0)}, 7, out(2, 7, 1700, 4), adjusts(1, -760)},
		{"out too late", onRules(30, 900, 3000), []impl.Tap{in(1, 7, 1600, 0)}, 7, out(2, 7, 1781, 4), adjusts(2, 900)},
		{"out MaxRide minutes later", onRules(30, 900, 3000), []impl.Tap{in(1, 7, 1600, 0)}, 7, out(2, 7, 1780, 4), adjusts(1, -760)},
		{"of another card", onRules(30, 900, 3000), []impl.Tap{in(1, 7, 600, 0)}, 7, out(2, 8, 630, 4), nil},
		{"of a new card", onRules(30, 900, 3000), []impl.Tap{in(1, 7, 600, 0)}, 8, out(2, 8, 630, 4), adjusts(1, 900)},
		{"for a negative card", onRules(30, 900, 3000), []impl.Tap{in(1, 7, 600, 0)}, -1, out(2, 7, 630, 4), nil},
		{"for a card that is too great", onRules(30, 900, 3000), []impl.Tap{in(1, 7, 600, 0)}, 100, out(2, 7, 630, 4), nil},
		{"there already", onRules(30, 900, 3000), ride, 7, ride[1], nil},
		{"there already at another minute", onRules(30, 900, 3000), ride, 7, in(2, 7, 3000, 5), nil},
		{"there already of another card", onRules(30, 900, 3000), ride, 8, in(2, 8, 3000, 5), nil},
		{"one number of another validator", onRules(30, 900, 3000), ride, 7, at(2, in(2, 7, 3000, 5)), adjusts(2, 900)},
		{"of the same minute, behind", onRules(30, 5000, 9000), []impl.Tap{in(1, 7, 600, 0)}, 7, out(2, 7, 600, 4), adjusts(1, -760)},
		{"of the same minute, before", onRules(30, 5000, 9000), []impl.Tap{in(1, 7, 600, 0)}, 7, out(0, 7, 600, 4), adjusts(1, 900)},
		{"of the same minute and another validator, before", onRules(30, 5000, 9000), []impl.Tap{in(1, 7, 600, 0)}, 7, at(0, out(9, 7, 600, 4)), adjusts(1, 900)},
		{"to a full list, but there already", onRules(30, 900, 3000), fullTaps(), 7, fullTaps()[11], nil},
		{"the last one of a full list", onRules(0, 50000, 50000), fullTaps()[:23], 7, fullTaps()[23], adjusts(1, -790)},
	} {
		got, ok := impl.LateChange(c.rules, c.list, c.card, c.tap)
		if !ok || !slices.Equal(got, c.want) {
			t.Errorf("%s: LateChange(%v, %d, %v) = %v, %v, want %v", c.name, c.list, c.card, c.tap, got, ok, c.want)
		}
	}
}

func TestP117LateTapsChangeWhatIsDue(t *testing.T) {
	many := map[int]int{}
	for _, x := range lateTaps() {
		changes := mustChange(t, x.before, x.tap.Card, x.tap)
		if want := lateBy(x.before, x.tap.Card, x.tap); !slices.Equal(changes, want) {
			t.Fatalf("LateChange(%v, %v) = %v, want %v", x.before, x.tap, changes, want)
		}
		after := mustAdjust(t, impl.DueByDay(x.before.rules, x.before.list, x.tap.Card), changes)
		if want := impl.DueByDay(x.before.rules, x.list, x.tap.Card); !slices.Equal(after, want) {
			t.Fatalf("DueByDay(%v) behind LateChange of %v = %v, want %v", x.before, x.tap, after, want)
		}
		many[min(2, len(changes))]++
	}
	for count, least := range []int{100, 1000, 200} {
		if many[count] < least {
			t.Errorf("only %d times there were %d changes", many[count], count)
		}
	}
}

func TestP118LateTapsOfOthersChangeNothing(t *testing.T) {
	for _, x := range lateTaps() {
		for _, card := range slices.Concat(cardsOf(x.list), cardless) {
			if card == x.tap.Card {
				continue
			}
			if got := mustChange(t, x.before, card, x.tap); len(got) != 0 {
				t.Fatalf("LateChange(%v, %d, %v) = %v", x.before, card, x.tap, got)
			}
		}
	}
}

// A tap that is there already changes nothing, whatever else it tells.
func TestLateChangeOfTapsThatAreThere(t *testing.T) {
	n := &numbers{state: 190}
	for _, x := range accounts() {
		for _, there := range x.list {
			other := at(there.Validator, in(there.Number, n.below(100), n.below(40320), n.below(len(x.rules.Tariff.Zones))))
			for _, tap := range []impl.Tap{there, other} {
				for _, card := range []int{there.Card, other.Card} {
					if got := mustChange(t, x, card, tap); len(got) != 0 {
						t.Fatalf("LateChange(%v, %d, %v) = %v", x, card, tap, got)
					}
				}
			}
		}
	}
}

// checkNoChange checks that LateChange returns nil and false, for the card of the tap and for others.
func checkNoChange(t *testing.T, name string, r impl.Rules, list []impl.Tap, tap impl.Tap) {
	t.Helper()
	for _, card := range []int{7, 3, 50, -1, 100, tap.Card} {
		if got, ok := impl.LateChange(r, list, card, tap); ok || got != nil {
			t.Errorf("%s: LateChange(%v, %d, %v) = %v, %v", name, list, card, tap, got, ok)
		}
	}
}

func TestLateChangeOfInvalidTaps(t *testing.T) {
	r := onRules(30, 900, 3000)
	lists := [][]impl.Tap{nil, {in(1, 7, 600, 0)}, {in(1, 7, 600, 0), out(2, 7, 630, 4)}, fullTaps()}
	for name, tap := range invalidTaps() {
		for _, list := range lists {
			checkNoChange(t, name, r, list, tap)
		}
	}
	there := in(1, 7, 600, 0)
	for name, change := range map[string]func(*impl.Tap){
		"card":   func(x *impl.Tap) { x.Card = 100 },
		"minute": func(x *impl.Tap) { x.Minute = 40320 },
		"stop":   func(x *impl.Tap) { x.Stop = 10 },
	} {
		tap := there
		change(&tap)
		checkNoChange(t, "there already, but the "+name, r, lists[1], tap)
	}
}

func TestLateChangeOfInvalidLists(t *testing.T) {
	r := onRules(30, 900, 3000)
	for name, list := range invalidLists() {
		for _, tap := range []impl.Tap{in(900, 7, 600, 0), in(900, 3, 40319, 9), out(901, 7, 0, 0)} {
			checkNoChange(t, name, r, list, tap)
		}
		for _, there := range list {
			checkNoChange(t, name+", there already", r, list, there)
		}
	}
}

func TestLateChangeOfInvalidRules(t *testing.T) {
	for name, r := range invalidRules() {
		for _, list := range [][]impl.Tap{nil, {in(1, 7, 600, 0)}, {in(1, 7, 600, 0), out(2, 7, 630, 0)}} {
			checkNoChange(t, name, r, list, in(9, 7, 640, 0))
			checkNoChange(t, name, r, list, in(9, 50, 640, 0))
			checkNoChange(t, name+", there already", r, list, in(1, 7, 600, 0))
		}
	}
}

func TestLateChangeOfFullLists(t *testing.T) {
	r := onRules(30, 900, 3000)
	for _, tap := range []impl.Tap{in(500, 7, 9000, 0), in(500, 3, 9000, 0), out(500, 7, 0, 0), at(0, out(100, 7, 505, 0))} {
		checkNoChange(t, "a full list", r, fullTaps(), tap)
		if _, ok := impl.LateChange(r, fullTaps()[:23], tap.Card, tap); !ok {
			t.Errorf("LateChange of the last place by %v = false", tap)
		}
	}
}

// The stop of a tap that is there already has to be in the tariff, too, though it is not added.
func TestLateChangeAtAbsentStops(t *testing.T) {
	for stops := 1; stops < impl.MaxStops; stops++ {
		r := onRules(30, 900, 3000)
		r.Tariff.Zones = r.Tariff.Zones[:stops]
		good := []impl.Tap{in(1, 7, 600, 0), out(2, 7, 630, stops-1)}
		if got := mustChange(t, account{r, good}, 7, in(9, 7, 2000, stops-1)); !slices.Equal(got, adjusts(2, 900)) {
			t.Errorf("LateChange at %d stops = %v", stops, got)
		}
		for _, stop := range []int{stops, 9} {
			for _, bad := range []impl.Tap{in(9, 7, 500, stop), out(9, 7, 610, stop), in(9, 3, 2000, stop)} {
				checkNoChange(t, "an absent stop", r, good, bad)
				checkNoChange(t, "an absent stop without other taps", r, nil, bad)
				checkNoChange(t, "an absent stop of another tap", r, sorted(append(slices.Clone(good), bad)), in(8, 7, 640, 0))
				checkNoChange(t, "an absent stop of another tap, there already", r, sorted(append(slices.Clone(good), bad)), good[0])
			}
			checkNoChange(t, "there already, at an absent stop", r, good, in(1, 7, 600, stop))
			checkNoChange(t, "there already, at an absent stop of another card", r, good, out(2, 3, 9000, stop))
		}
	}
}

// adjustCalls returns what the functions of the chapter make of amounts and adjustments, by their names.
func adjustCalls(before []int, after []int, changes []impl.Adjust) (map[string][]impl.Adjust, map[string][]int) {
	made := map[string][]impl.Adjust{
		"Adjustments":                 impl.Adjustments(before, after),
		"Adjustments back":            impl.Adjustments(after, before),
		"Adjustments without changes": impl.Adjustments(before, before),
	}
	amounts := map[string][]int{}
	amounts["ApplyAdjust"], _ = impl.ApplyAdjust(before, changes)
	amounts["ApplyAdjust of nothing"], _ = impl.ApplyAdjust(before, nil)
	amounts["ApplyAdjust of too much"], _ = impl.ApplyAdjust(after, adjusts(0, 0, 28, math.MaxInt))
	return made, amounts
}

func TestAdjustmentsChangeNothing(t *testing.T) {
	n := &numbers{state: 191}
	type arguments struct {
		before, after []int
		changes       []impl.Adjust
	}
	var all []arguments
	for _, pair := range duePairs() {
		all = append(all, arguments{pair[0], pair[1], drawnChanges(n, pair[0])})
	}
	for _, bad := range invalidDues() {
		all = append(all, arguments{bad, dues(3, 5), adjusts(3, 1)}, arguments{dues(3, 5), bad, adjusts(3, 1)})
	}
	for _, bad := range invalidChanges() {
		all = append(all, arguments{dues(3, 5), dues(4, 5), bad})
	}
	for _, x := range all {
		before, after, changes := spare(x.before), widened(x.after, 50), widened(x.changes, adjust(28, 1))
		wantBefore, wantAfter, wantChanges := whole(before), whole(after), whole(changes)
		made, amounts := adjustCalls(before, after, changes)
		for _, list := range made {
			fill(list, noAdjust)
		}
		for _, list := range amounts {
			fill(list, -9)
		}
		if !slices.Equal(wantBefore, whole(before)) || !slices.Equal(wantAfter, whole(after)) || !slices.Equal(wantChanges, whole(changes)) {
			t.Fatalf("a call changed the arguments %v, or shares memory with them", x)
		}
	}
}

func TestAdjustmentsAreNewMemory(t *testing.T) {
	n := &numbers{state: 192}
	for _, pair := range duePairs() {
		changes := drawnChanges(n, pair[0])
		wantMade, wantAmounts := adjustCalls(pair[0], pair[1], changes)
		before, after, own := spare(pair[0]), spare(pair[1]), widened(changes, noAdjust)
		made, amounts := adjustCalls(before, after, own)
		fill(before, -9)
		fill(after, -9)
		fill(own, noAdjust)
		for name, list := range made {
			copied := slices.Clone(list)
			fill(list, noAdjust)
			if !slices.Equal(copied, wantMade[name]) {
				t.Fatalf("%s of %v = %v behind changes of other memory, want %v", name, pair, copied, wantMade[name])
			}
		}
		for name, list := range amounts {
			copied := slices.Clone(list)
			fill(list, -9)
			if !slices.Equal(copied, wantAmounts[name]) {
				t.Fatalf("%s of %v = %v behind changes of other memory, want %v", name, pair, copied, wantAmounts[name])
			}
		}
	}
}

func TestLateChangeChangesNothing(t *testing.T) {
	type arguments struct {
		rules impl.Rules
		list  []impl.Tap
		tap   impl.Tap
	}
	var all []arguments
	for _, x := range lateTaps() {
		all = append(all, arguments{x.before.rules, x.before.list, x.tap}, arguments{x.before.rules, x.list, x.tap})
	}
	for _, r := range invalidRules() {
		all = append(all, arguments{r, fullTaps()[:9], in(900, 7, 540, 0)})
	}
	for _, list := range slices.Collect(maps.Values(invalidLists())) {
		all = append(all, arguments{onRules(30, 900, 3000), list, in(900, 7, 540, 0)})
	}
	for _, x := range all {
		r, list := x.rules, widened(x.list, noTap)
		r.Tariff = spareTariff(r.Tariff)
		numbers, taps := memory(r.Tariff), whole(list)
		first, _ := impl.LateChange(r, list, x.tap.Card, x.tap)
		want := slices.Clone(first)
		second, _ := impl.LateChange(r, list, x.tap.Card, x.tap)
		fill(second, noAdjust)
		if !slices.Equal(numbers, memory(r.Tariff)) || !slices.Equal(taps, whole(list)) {
			t.Fatalf("LateChange changed the arguments %v, or shares memory with them", x)
		}
		fill(list, noTap)
		if !slices.Equal(first, want) {
			t.Fatalf("LateChange of %v = %v behind a change of other memory, before %v", x, first, want)
		}
	}
}
