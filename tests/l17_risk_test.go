package tests

import (
	"math"
	"slices"
	"testing"

	"loop.example/transitfares/impl"
)

// mustTrust returns TrustOf, which must not be for other arguments.
func mustTrust(t *testing.T, rides []bool, first int, step int) int {
	t.Helper()
	trust := impl.TrustOf(rides, first, step)
	if trust < 0 || trust > 5000 {
		t.Fatalf("TrustOf(%v, %d, %d) = %d", rides, first, step, trust)
	}
	return trust
}

func TestLimitsOfTrustAreThoseOfTheDocument(t *testing.T) {
	if impl.MaxTrust != 5000 || impl.MaxRides != 30 || impl.MaxAmount != 100000 || impl.MaxCharge != 4000 {
		t.Errorf("MaxTrust = %d, MaxRides = %d, MaxAmount = %d, MaxCharge = %d", impl.MaxTrust, impl.MaxRides, impl.MaxAmount, impl.MaxCharge)
	}
}

func TestTrustOfSomeDays(t *testing.T) {
	thirty := slices.Repeat(daysOf("+"), 30)
	for _, c := range []struct {
		name        string
		rides       []bool
		first, step int
		want        int
	}{
		{"no day", nil, 300, 100, 300},
		{"no day, nothing at first", nil, 0, 5000, 0},
		{"no day, MaxTrust at first", nil, 5000, 5000, 5000},
		{"a day that was paid", daysOf("+"), 300, 100, 400},
		{"a day that was not paid", daysOf("-"), 300, 100, 0},
		{"days that were paid", daysOf("+++"), 300, 100, 600},
		{"not paid at first", daysOf("-++"), 300, 100, 200},
		{"not paid in the middle", daysOf("+-+"), 300, 100, 100},
		{"not paid at last", daysOf("++-"), 300, 100, 0},
		{"not paid twice", daysOf("+--++"), 300, 100, 200},
		{"never paid", daysOf("---"), 300, 100, 0},
		{"in turns", daysOf("-+-+-+"), 5000, 70, 70},
		{"nothing at first", daysOf("++"), 0, 100, 200},
		{"MaxTrust at first", daysOf("++"), 5000, 100, 5000},
		{"MaxTrust at first, not paid", daysOf("-"), 5000, 5000, 0},
		{"MaxTrust at first, not paid, and paid", daysOf("-+"), 5000, 100, 100},
		{"no step", daysOf("+++"), 300, 0, 300},
		{"no step, not paid", daysOf("+-+"), 300, 0, 0},
		{"the greatest step", daysOf("+"), 0, 5000, 5000},
		{"the greatest step to MaxTrust", daysOf("+"), 5000, 5000, 5000},
		{"the greatest step to 1", daysOf("+"), 1, 5000, 5000},
		{"a sum of MaxTrust", daysOf("+"), 4900, 100, 5000},
		{"a sum of 1 less", daysOf("+"), 4899, 100, 4999},
		{"a sum of 1 more", daysOf("+"), 4901, 100, 5000},
		{"MaxTrust, and from 0 again", daysOf("++++-+"), 4000, 500, 500},
		{"MaxRides days", thirty, 0, 100, 3000},
		{"MaxRides days to MaxTrust", thirty, 20, 166, 5000},
		{"MaxRides days to 1 less", thirty, 19, 166, 4999},
		{"MaxRides days to 1 more", thirty, 21, 166, 5000},
		{"one day more", append(thirty, true), 0, 100, -1},
		{"one day more, not paid", append(thirty, false), 0, 100, -1},
		{"first below 0", daysOf("-"), -1, 100, -1},
		{"first too great", daysOf("-"), 5001, 100, -1},
		{"step below 0", daysOf("+"), 300, -1, -1},
		{"step too great", daysOf("+"), 300, 5001, -1},
		{"step below 0, no day", nil, 300, -1, -1},
		{"step too great, not paid", daysOf("-"), 300, 5001, -1},
	} {
		if got := impl.TrustOf(c.rides, c.first, c.step); got != c.want {
			t.Errorf("%s: TrustOf(%v, %d, %d) = %d, want %d", c.name, c.rides, c.first, c.step, got, c.want)
		}
	}
}

func TestP105TrustIsBounded(t *testing.T) {
	bounded := 0
	for _, rides := range dayLists() {
		for _, first := range trusts {
			for _, step := range trusts {
				trust := mustTrust(t, rides, first, step)
				if want := trustBy(rides, first, step); trust != want {
					t.Fatalf("TrustOf(%v, %d, %d) = %d, want %d", rides, first, step, trust, want)
				}
				if trust == 5000 {
					bounded++
				}
				if len(rides) == 30 {
					continue
				}
				paid := mustTrust(t, append(slices.Clone(rides), true), first, step)
				not := mustTrust(t, append(slices.Clone(rides), false), first, step)
				if paid < trust || paid != min(5000, trust+step) || not != 0 {
					t.Fatalf("TrustOf(%v, %d, %d) = %d, behind a day more %d, and %d if it was not paid", rides, first, step, trust, paid, not)
				}
			}
		}
	}
	if bounded < 1000 {
		t.Errorf("only %d times MaxTrust was reached", bounded)
	}
}

func TestP106MoreTrustAtFirstIsNotLessLater(t *testing.T) {
	for _, rides := range dayLists() {
		for _, step := range trusts {
			before := 0
			for _, first := range trusts {
				trust := mustTrust(t, rides, first, step)
				if trust < before {
					t.Fatalf("TrustOf(%v, %d, %d) = %d, and %d for a lesser one", rides, first, step, trust, before)
				}
				before = trust
			}
		}
	}
	for first := range 5001 {
		for _, none := range [][]bool{nil, {}} {
			if got := impl.TrustOf(none, first, 5000-first); got != first {
				t.Fatalf("TrustOf without days, %d at first = %d", first, got)
			}
		}
	}
}

func TestTrustOfInvalidArguments(t *testing.T) {
	for _, rides := range dayLists() {
		for _, bad := range badTrusts {
			for _, good := range trusts {
				checkNoTrust(t, "first", rides, bad, good)
				checkNoTrust(t, "step", rides, good, bad)
			}
			checkNoTrust(t, "first and step", rides, bad, bad)
		}
		for number := -20; number <= 5020; number += 7 {
			valid := number >= 0 && number <= 5000
			if (impl.TrustOf(rides, number, 1) >= 0) != valid || (impl.TrustOf(rides, 1, number) >= 0) != valid {
				t.Fatalf("TrustOf(%v) with %d = %d and %d", rides, number, impl.TrustOf(rides, number, 1), impl.TrustOf(rides, 1, number))
			}
		}
	}
	for name, rides := range invalidDayLists() {
		for _, first := range trusts {
			checkNoTrust(t, name, rides, first, 100)
			checkNoTrust(t, name, rides, 100, first)
		}
	}
}

// checkNoTrust checks that TrustOf returns -1.
func checkNoTrust(t *testing.T, name string, rides []bool, first int, step int) {
	t.Helper()
	if got := impl.TrustOf(rides, first, step); got != -1 {
		t.Errorf("%s: TrustOf(%v, %d, %d) = %d", name, rides, first, step, got)
	}
}

func TestRidesOfSomeCards(t *testing.T) {
	for _, c := range []struct {
		name               string
		owed, trust, price int
		may                bool
		left               int
	}{
		{"more trust", 200, 1000, 300, true, 2},
		{"exactly as much trust", 200, 500, 300, true, 1},
		{"one less trust", 200, 499, 300, false, 0},
		{"one more owed", 201, 500, 300, false, 0},
		{"one more to pay", 200, 500, 301, false, 0},
		{"owed as much as the trust", 500, 500, 1, false, 0},
		{"owed a little more than the trust", 501, 500, 300, false, 0},
		{"owed more than the trust", 900, 500, 300, false, 0},
		{"owed much more than the trust", 100000, 0, 300, false, 0},
		{"nothing owed", 0, 500, 300, true, 1},
		{"nothing owed and no trust", 0, 0, 300, false, 0},
		{"nothing owed, a trust of 1", 0, 1, 1, true, 1},
		{"nothing owed, the price as trust", 0, 300, 300, true, 1},
		{"twice the price", 0, 600, 300, true, 2},
		{"one less than twice the price", 0, 599, 300, true, 1},
		{"MaxCharge", 1000, 5000, 4000, true, 1},
		{"MaxCharge and one less trust", 1000, 4999, 4000, false, 0},
		{"the greatest trust for 1", 0, 100000, 1, true, 100000},
		{"the greatest trust for 3", 0, 100000, 3, true, 33333},
		{"the greatest trust for MaxCharge", 0, 100000, 4000, true, 25},
		{"the greatest amounts", 100000, 100000, 1, false, 0},
		{"one less owed than the greatest trust", 99999, 100000, 1, true, 1},
		{"one less owed for 2", 99999, 100000, 2, false, 0},
		{"owed below 0", -1, 500, 300, false, -1},
		{"owed too much", 100001, 100000, 1, false, -1},
		{"trust below 0", 0, -1, 1, false, -1},
		{"trust too great", 0, 100001, 300, false, -1},
		{"price below 0", 200, 500, -1, false, -1},
		{"price too great", 200, 5000, 4001, false, -1},
	} {
		if got := impl.MayRide(c.owed, c.trust, c.price); got != c.may {
			t.Errorf("%s: MayRide(%d, %d, %d) = %v", c.name, c.owed, c.trust, c.price, got)
		}
		if got := impl.RidesLeft(c.owed, c.trust, c.price); got != c.left {
			t.Errorf("%s: RidesLeft(%d, %d, %d) = %d, want %d", c.name, c.owed, c.trust, c.price, got, c.left)
		}
	}
}

// A price of 0 is one for MayRide alone, as such rides would never come to an end.
func TestRidesForNothing(t *testing.T) {
	for _, owed := range sumsOwed {
		for _, trust := range sumsOwed {
			if got := impl.MayRide(owed, trust, 0); got != (owed <= trust) {
				t.Errorf("MayRide(%d, %d, 0) = %v", owed, trust, got)
			}
			if got := impl.RidesLeft(owed, trust, 0); got != -1 {
				t.Errorf("RidesLeft(%d, %d, 0) = %d", owed, trust, got)
			}
		}
	}
}

func TestP107WhoOwesLessMayRide(t *testing.T) {
	may, not := 0, 0
	for _, owed := range sumsOwed {
		for _, trust := range sumsOwed {
			for _, price := range prices {
				got := impl.MayRide(owed, trust, price)
				if got != (trust-owed >= price) {
					t.Fatalf("MayRide(%d, %d, %d) = %v", owed, trust, price, got)
				}
				if !got {
					not++
					continue
				}
				may++
				less, more, cheaper := max(0, owed-1), min(100000, trust+1), max(0, price-1)
				for _, c := range [][3]int{{less, trust, price}, {owed, more, price}, {owed, trust, cheaper}, {0, trust, price}, {owed, 100000, price}, {owed, trust, 0}, {owed / 2, trust, price}, {owed, trust, price / 2}} {
					if !impl.MayRide(c[0], c[1], c[2]) {
						t.Fatalf("MayRide(%d, %d, %d), but not %v", owed, trust, price, c)
					}
				}
			}
		}
	}
	if may < 1000 || not < 1000 {
		t.Errorf("only %d times a card may ride, and %d times not", may, not)
	}
}

// mustRide returns RidesLeft, which must not be for other arguments.
func mustRide(t *testing.T, owed int, trust int, price int) int {
	t.Helper()
	left := impl.RidesLeft(owed, trust, price)
	if left < 0 {
		t.Fatalf("RidesLeft(%d, %d, %d) = %d", owed, trust, price, left)
	}
	return left
}

func TestP108RidesAreLeftOrNot(t *testing.T) {
	for _, owed := range sumsOwed {
		for _, trust := range sumsOwed {
			for _, price := range prices[1:] {
				left := mustRide(t, owed, trust, price)
				if want := ridesBy(owed, trust, price); left != want {
					t.Fatalf("RidesLeft(%d, %d, %d) = %d, want %d", owed, trust, price, left, want)
				}
				may := impl.MayRide(owed, trust, price)
				if may != (left > 0) {
					t.Fatalf("RidesLeft(%d, %d, %d) = %d, but MayRide = %v", owed, trust, price, left, may)
				}
				if may && mustRide(t, owed+price, trust, price) != left-1 {
					t.Fatalf("RidesLeft(%d, %d, %d) = %d, and behind a ride %d", owed, trust, price, left, impl.RidesLeft(owed+price, trust, price))
				}
			}
		}
	}
}

func TestP161CheaperRidesAreMore(t *testing.T) {
	for _, trust := range sumsOwed {
		for _, owed := range sumsOwed {
			before := mustRide(t, owed, trust, 1)
			for price := 2; price <= 4000; price += 1 + price/7 {
				left := mustRide(t, owed, trust, price)
				if left > before {
					t.Fatalf("RidesLeft(%d, %d, %d) = %d, and %d for a lower price", owed, trust, price, left, before)
				}
				before = left
			}
		}
		for _, price := range prices[1:] {
			before := 100000
			for owed := 0; owed <= 100000; owed += 1 + owed/9 {
				left := mustRide(t, owed, trust, price)
				if left > before {
					t.Fatalf("RidesLeft(%d, %d, %d) = %d, and %d with less owed", owed, trust, price, left, before)
				}
				before = left
			}
		}
	}
}

func TestRidesOfInvalidArguments(t *testing.T) {
	for _, good := range sumsOwed {
		for _, price := range prices {
			for _, bad := range badSums {
				checkNoRide(t, bad, good, price)
				checkNoRide(t, good, bad, price)
				checkNoRide(t, bad, bad, price)
			}
		}
		for _, price := range badPrices {
			checkNoRide(t, good, 100000, price)
			checkNoRide(t, 0, good, price)
			checkNoRide(t, -1, good, price)
		}
	}
	// Sums and differences of such numbers turn around.
	for _, c := range [][3]int{{math.MaxInt, 500, 4000}, {4000, 500, math.MaxInt}, {0, math.MinInt, 1}, {1, math.MinInt, 1}, {math.MinInt, 500, 1}, {math.MinInt, math.MaxInt, 4000}, {100000, 100000, math.MinInt}} {
		checkNoRide(t, c[0], c[1], c[2])
	}
	for price := -20; price <= 4020; price++ {
		if got := impl.MayRide(0, 100000, price); got != (price >= 0 && price <= 4000) {
			t.Errorf("MayRide(0, 100000, %d) = %v", price, got)
		}
		if got := impl.RidesLeft(0, 100000, price); (got > 0) != (price >= 1 && price <= 4000) || got == 0 {
			t.Errorf("RidesLeft(0, 100000, %d) = %d", price, got)
		}
	}
}

// checkNoRide checks that MayRide returns false and RidesLeft -1.
func checkNoRide(t *testing.T, owed int, trust int, price int) {
	t.Helper()
	if impl.MayRide(owed, trust, price) {
		t.Errorf("MayRide(%d, %d, %d) = true", owed, trust, price)
	}
	if got := impl.RidesLeft(owed, trust, price); got != -1 {
		t.Errorf("RidesLeft(%d, %d, %d) = %d", owed, trust, price, got)
	}
}

func TestTrustChangesNothing(t *testing.T) {
	for _, rides := range withInvalid(dayLists(), invalidDayLists()) {
		for _, behind := range []bool{true, false} {
			rides := widened(rides, behind)
			before := whole(rides)
			for _, first := range []int{0, 300, 5000, -1} {
				if got := impl.TrustOf(rides, first, 100); first >= 0 && len(rides) <= 30 && got != trustBy(rides, first, 100) {
					t.Fatalf("TrustOf(%v, %d, 100) = %d with days behind it", rides, first, got)
				}
			}
			if !slices.Equal(before, whole(rides)) {
				t.Fatalf("TrustOf changed the days %v to %v", before, whole(rides))
			}
		}
	}
}
