package tests

import (
	"math"
	"slices"
	"testing"

	"loop.example/transitfares/impl"
)

// mustShare returns ShareFare, which has to have a share that is not negative for each operator.
func mustShare(t *testing.T, list []impl.Leg, amount int) []int {
	t.Helper()
	shares := impl.ShareFare(list, amount)
	if len(shares) != 4 || slices.Min(shares) < 0 {
		t.Fatalf("ShareFare(%v, %d) = %v", list, amount, shares)
	}
	return shares
}

// mustJoin returns JoinLegs, which has to make valid legs.
func mustJoin(t *testing.T, list []impl.Leg) []impl.Leg {
	t.Helper()
	joined := impl.JoinLegs(list)
	if impl.LengthOf(joined, 0) < 0 {
		t.Fatalf("JoinLegs(%v) = %v", list, joined)
	}
	return joined
}

func TestLimitsOfSharesAreThoseOfTheDocument(t *testing.T) {
	if impl.MaxOperator != 3 || impl.MaxLength != 500 || impl.MaxLegs != 8 || impl.MaxAmount != 100000 {
		t.Errorf("MaxOperator = %d, MaxLength = %d, MaxLegs = %d, MaxAmount = %d", impl.MaxOperator, impl.MaxLength, impl.MaxLegs, impl.MaxAmount)
	}
}

func TestShareFareOfSomeLegs(t *testing.T) {
	longest := slices.Repeat(legs(0, 500, 3, 500), 4)
	for _, c := range []struct {
		name   string
		list   []impl.Leg
		amount int
		want   []int
	}{
		{"no rest", legs(0, 1, 1, 1), 100, []int{50, 50, 0, 0}},
		{"no rest, four operators", legs(0, 1, 1, 2, 2, 3, 3, 4), 100, []int{10, 20, 30, 40}},
		{"no rest, in another order", legs(3, 4, 1, 2, 2, 3, 0, 1), 100, []int{10, 20, 30, 40}},
		{"one leg", legs(2, 77), 100, []int{0, 0, 100, 0}},
		{"one leg of 1", legs(0, 1), 1, []int{1, 0, 0, 0}},
		{"one leg of MaxLength", legs(3, 500), 99999, []int{0, 0, 0, 99999}},
		{"equal rests, 1 left", legs(0, 1, 1, 1, 2, 1), 100, []int{34, 33, 33, 0}},
		{"equal rests, 2 left", legs(0, 1, 1, 1, 2, 1), 101, []int{34, 34, 33, 0}},
		{"equal rests in another order", legs(2, 1, 1, 1, 0, 1), 100, []int{34, 33, 33, 0}},
		{"equal rests without operator 0", legs(3, 1, 2, 1, 1, 1), 100, []int{0, 34, 33, 33}},
		{"equal rests of all, 1 left", legs(3, 5, 2, 5, 1, 5, 0, 5), 401, []int{101, 100, 100, 100}},
		{"equal rests of all, 2 left", legs(3, 5, 2, 5, 1, 5, 0, 5), 402, []int{101, 101, 100, 100}},
		{"equal rests of all, 3 left", legs(3, 5, 2, 5, 1, 5, 0, 5), 403, []int{101, 101, 101, 100}},
		{"less than operators", legs(3, 5, 2, 5, 1, 5, 0, 5), 3, []int{1, 1, 1, 0}},
		{"the greatest rest at last", legs(0, 2, 3, 3), 3, []int{1, 0, 0, 2}},
		{"the greatest rest of the first one", legs(1, 2, 3, 1), 100, []int{0, 67, 0, 33}},
		{"the greatest rest in the middle", legs(0, 1, 1, 3, 2, 1), 4, []int{1, 2, 1, 0}},
		{"the greatest two rests, of the last ones", legs(0, 1, 1, 1, 2, 2, 3, 2), 2, []int{0, 0, 1, 1}},
		{"a rest behind one that has none", legs(0, 4, 1, 3, 2, 1), 2, []int{1, 1, 0, 0}},
		{"equal rests behind a greater one", legs(0, 1, 1, 2, 2, 1, 3, 3), 9, []int{1, 3, 1, 4}},
		{"equal rests behind a greater one, 2 left", legs(0, 1, 1, 1, 2, 2, 3, 3), 4, []int{1, 0, 1, 2}},
		{"a rest of nothing", legs(2, 1, 3, 1), 1, []int{0, 0, 1, 0}},
		{"several legs of an operator", legs(0, 1, 1, 1, 0, 1), 100, []int{67, 33, 0, 0}},
		{"the rest of several legs", legs(0, 1, 1, 2, 0, 1, 2, 2), 4, []int{2, 1, 1, 0}},
		{"several legs, no rest", legs(0, 1, 1, 2, 0, 3), 60, []int{40, 20, 0, 0}},
		{"nothing", legs(0, 1, 1, 1, 2, 1), 0, []int{0, 0, 0, 0}},
		{"MaxAmount", legs(0, 1, 1, 1, 2, 1), 100000, []int{33334, 33333, 33333, 0}},
		{"MaxAmount for MaxLegs legs of MaxLength", longest, 100000, []int{50000, 0, 0, 50000}},
		{"one less", longest, 99999, []int{50000, 0, 0, 49999}},
		{"very different lengths", legs(1, 1, 3, 500), 250, []int{0, 0, 0, 250}},
		{"very different lengths, a rest of half", legs(1, 1, 3, 499), 250, []int{0, 1, 0, 249}},
		{"no leg", nil, 100, nil},
		{"a leg too many", slices.Repeat(legs(1, 5), 9), 100, nil},
		{"an operator too great", legs(0, 1, 4, 1), 100, nil},
		{"an operator below 0", legs(0, 1, -1, 1), 100, nil},
		{"a length of 0", legs(0, 1, 1, 0), 100, nil},
		{"a length too great", legs(0, 1, 1, 501), 100, nil},
		{"an amount below 0", legs(0, 1), -1, nil},
		{"an amount too great", legs(0, 1), 100001, nil},
	} {
		if got := impl.ShareFare(c.list, c.amount); !slices.Equal(got, c.want) || (got == nil) != (c.want == nil) {
			t.Errorf("%s: ShareFare(%v, %d) = %v, want %v", c.name, c.list, c.amount, got, c.want)
		}
	}
}

func TestShareFareOfAllShortLegs(t *testing.T) {
	equal := 0
	for code := range 13 * 13 * 13 {
		var list []impl.Leg
		for rest := code; rest > 0; rest /= 13 {
			if number := rest % 13; number > 0 {
				list = append(list, leg((number-1)%4, 1+(number-1)/4))
			}
		}
		if len(list) == 0 {
			continue
		}
		for amount := range 12 {
			got := mustShare(t, list, amount)
			if want := sharesBy(list, amount); !slices.Equal(got, want) {
				t.Fatalf("ShareFare(%v, %d) = %v, want %v", list, amount, got, want)
			}
			if lengthBy(list, 1) == lengthBy(list, 3) && got[1] > got[3] {
				equal++
			}
		}
	}
	if equal < 500 {
		t.Errorf("only %d times the first one of equal rests got more", equal)
	}
}

func TestP109SharesAddUp(t *testing.T) {
	n := &numbers{state: 1090}
	some := 0
	for _, list := range legLists() {
		whole := wholeBy(list)
		for _, amount := range append(slices.Clone(fares), n.below(100001), n.below(100001)) {
			got := mustShare(t, list, amount)
			if want := sharesBy(list, amount); !slices.Equal(got, want) {
				t.Fatalf("ShareFare(%v, %d) = %v, want %v", list, amount, got, want)
			}
			if sum(got) != amount {
				t.Fatalf("ShareFare(%v, %d) = %v, together %d", list, amount, got, sum(got))
			}
			for operator, part := range got {
				exact := amount * lengthBy(list, operator)
				if part*whole <= exact-whole || part*whole >= exact+whole {
					t.Fatalf("ShareFare(%v, %d) = %v, and exactly %d/%d for operator %d", list, amount, got, exact, whole, operator)
				}
				if part*whole > exact {
					some++
				}
			}
		}
	}
	if some < 3000 {
		t.Errorf("only %d shares were rounded up", some)
	}
}

func TestP110TheOrderOfLegsDoesNotMatter(t *testing.T) {
	n := &numbers{state: 110}
	shorter := 0
	for _, list := range legLists() {
		joined := mustJoin(t, list)
		if len(joined) < len(list) {
			shorter++
		}
		for _, amount := range fares {
			want := mustShare(t, list, amount)
			for _, other := range [][]impl.Leg{turned(list), mixed(n, list), joined, mustJoin(t, turned(list))} {
				if got := mustShare(t, other, amount); !slices.Equal(got, want) {
					t.Fatalf("ShareFare(%v, %d) = %v, and of %v %v", list, amount, want, other, got)
				}
			}
		}
	}
	if shorter < 200 {
		t.Errorf("only %d times legs were joined", shorter)
	}
}

func TestP111OneOperatorGetsEverything(t *testing.T) {
	for _, list := range legLists() {
		for _, amount := range fares {
			want := make([]int, 4)
			want[list[0].Operator] = amount
			for _, own := range [][]impl.Leg{list[:1], slices.Repeat(list[:1], 8)} {
				if got := mustShare(t, own, amount); !slices.Equal(got, want) {
					t.Fatalf("ShareFare(%v, %d) = %v", own, amount, got)
				}
			}
		}
	}
}

func TestP162WhoHasNoLegGetsNothing(t *testing.T) {
	without := 0
	for _, list := range legLists() {
		for _, amount := range fares {
			for operator, part := range mustShare(t, list, amount) {
				if lengthBy(list, operator) == 0 {
					without++
				}
				if part != 0 && (amount == 0 || lengthBy(list, operator) == 0) {
					t.Fatalf("ShareFare(%v, %d) gives %d to operator %d", list, amount, part, operator)
				}
			}
		}
	}
	if without < 3000 {
		t.Errorf("only %d times an operator had no leg", without)
	}
}

func TestShareFareOfInvalidArguments(t *testing.T) {
	for _, list := range legLists() {
		for _, amount := range badSums {
			checkNotShared(t, "amount", list, amount)
		}
	}
	for amount := -50; amount < 0; amount++ {
		checkNotShared(t, "amount", legs(0, 1), amount)
		checkNotShared(t, "amount", legs(0, 1), 100000-amount)
	}
	for name, list := range invalidLegLists() {
		for _, amount := range fares {
			checkNotShared(t, name, list, amount)
		}
		for _, amount := range badSums {
			checkNotShared(t, name, list, amount)
		}
	}
}

// checkNotShared checks that ShareFare returns nil.
func checkNotShared(t *testing.T, name string, list []impl.Leg, amount int) {
	t.Helper()
	if got := impl.ShareFare(list, amount); got != nil {
		t.Errorf("%s: ShareFare(%v, %d) = %v", name, list, amount, got)
	}
}

func TestLengthOfSomeLegs(t *testing.T) {
	list := legs(0, 300, 3, 7, 0, 200, 2, 500)
	for _, c := range []struct {
		name     string
		list     []impl.Leg
		operator int
		want     int
	}{
		{"two legs", list, 0, 500},
		{"one leg", list, 2, 500},
		{"operator MaxOperator", list, 3, 7},
		{"an operator without a leg", list, 1, 0},
		{"a negative operator", list, -1, 0},
		{"an operator that is too great", list, 4, 0},
		{"a very large one", list, math.MaxInt, 0},
		{"the least one", list, math.MinInt, 0},
		{"a leg of 1", legs(1, 1), 1, 1},
		{"MaxLegs legs of MaxLength", slices.Repeat(legs(3, 500), 8), 3, 4000},
		{"no leg", nil, 1, -1},
		{"no leg, a negative operator", nil, -1, -1},
		{"a leg too many", slices.Repeat(legs(3, 500), 9), 3, -1},
		{"an operator too great, that one", legs(0, 1, 4, 1), 4, -1},
		{"an operator below 0, that one", legs(0, 1, -1, 1), -1, -1},
		{"a length of 0 of another one", legs(0, 1, 1, 0), 0, -1},
		{"a length too great of another one", legs(0, 1, 1, 501), 0, -1},
	} {
		if got := impl.LengthOf(c.list, c.operator); got != c.want {
			t.Errorf("%s: LengthOf(%v, %d) = %d, want %d", c.name, c.list, c.operator, got, c.want)
		}
	}
}

// anyOperators are all operators, and numbers that none has.
var anyOperators = append(cardsFrom(0, 4), badOperators...)

func TestP112LengthsAddUp(t *testing.T) {
	for _, list := range legLists() {
		for _, operator := range anyOperators {
			all := impl.LengthOf(list, operator)
			if want := lengthBy(list, operator); all != want {
				t.Fatalf("LengthOf(%v, %d) = %d, want %d", list, operator, all, want)
			}
			for place := 1; place < len(list); place++ {
				if first, others := impl.LengthOf(list[:place], operator), impl.LengthOf(list[place:], operator); first+others != all {
					t.Fatalf("LengthOf(%v, %d) = %d, and of parts %d and %d", list, operator, all, first, others)
				}
			}
		}
	}
}

func TestJoinLegsOfSomeLegs(t *testing.T) {
	for _, c := range []struct {
		name string
		list []impl.Leg
		want []impl.Leg
	}{
		{"one leg", legs(0, 1), legs(0, 1)},
		{"one leg of MaxLength", legs(3, 500), legs(3, 500)},
		{"neighbours", legs(1, 3, 1, 4), legs(1, 7)},
		{"different operators", legs(1, 3, 2, 4), legs(1, 3, 2, 4)},
		{"not neighbours", legs(1, 3, 2, 4, 1, 5), legs(1, 3, 2, 4, 1, 5)},
		{"two pairs", legs(1, 3, 1, 4, 2, 5, 2, 6), legs(1, 7, 2, 11)},
		{"pairs of one operator around another", legs(1, 3, 1, 4, 2, 5, 1, 6, 1, 7), legs(1, 7, 2, 5, 1, 13)},
		{"neighbours at last", legs(1, 3, 2, 4, 2, 5), legs(1, 3, 2, 9)},
		{"neighbours at first", legs(1, 3, 1, 4, 2, 5), legs(1, 7, 2, 5)},
		{"together MaxLength", legs(1, 250, 1, 250), legs(1, 500)},
		{"together one less", legs(1, 249, 1, 250), legs(1, 499)},
		{"together one more", legs(1, 250, 1, 251), legs(1, 250, 1, 251)},
		{"MaxLength and 1", legs(1, 500, 1, 1), legs(1, 500, 1, 1)},
		{"1 and MaxLength", legs(1, 1, 1, 500), legs(1, 1, 1, 500)},
		{"operator 0", legs(0, 400, 0, 100), legs(0, 500)},
		{"three in a row", legs(2, 1, 2, 2, 2, 3), legs(2, 6)},
		{"three in a row, together MaxLength", legs(2, 100, 2, 300, 2, 100), legs(2, 500)},
		{"three in a row, together one more", legs(2, 100, 2, 300, 2, 101), legs(2, 400, 2, 101)},
		{"three in a row, the last two together", legs(2, 300, 2, 201, 2, 100), legs(2, 300, 2, 301)},
		{"three in a row, the last one longer", legs(2, 200, 2, 200, 2, 200), legs(2, 400, 2, 200)},
		{"three in a row, none of them together", legs(2, 300, 2, 300, 2, 300), legs(2, 300, 2, 300, 2, 300)},
		{"three in a row, around a long one", legs(2, 1, 2, 500, 2, 1), legs(2, 1, 2, 500, 2, 1)},
		{"four in a row, two and two", legs(2, 250, 2, 250, 2, 250, 2, 250), legs(2, 500, 2, 500)},
		{"four in a row, three and one", legs(2, 100, 2, 200, 2, 200, 2, 1), legs(2, 500, 2, 1)},
		{"four in a row, one and three", legs(2, 401, 2, 100, 2, 200, 2, 200), legs(2, 401, 2, 500)},
		{"MaxLegs in a row", slices.Repeat(legs(3, 1), 8), legs(3, 8)},
		{"MaxLegs in a row, together too long", slices.Repeat(legs(3, 200), 8), slices.Repeat(legs(3, 400), 4)},
		{"MaxLegs of MaxLength", slices.Repeat(legs(3, 500), 8), slices.Repeat(legs(3, 500), 8)},
		{"no leg", nil, nil},
		{"a leg too many, if they were not joined", slices.Repeat(legs(3, 1), 9), nil},
		{"an operator too great", legs(4, 1, 4, 1), nil},
		{"an operator below 0", legs(-1, 1, -1, 1), nil},
		{"a length of 0", legs(1, 1, 1, 0), nil},
		{"a length too great", legs(1, 501, 2, 1), nil},
		{"lengths whose sum would do", legs(1, 501, 1, -1), nil},
	} {
		if got := impl.JoinLegs(c.list); !slices.Equal(got, c.want) {
			t.Errorf("%s: JoinLegs(%v) = %v, want %v", c.name, c.list, got, c.want)
		}
	}
}

func TestP113JoinedLegsAreAsLong(t *testing.T) {
	tooLong := 0
	for _, list := range legLists() {
		joined := mustJoin(t, list)
		if want := joinedBy(list); !slices.Equal(joined, want) {
			t.Fatalf("JoinLegs(%v) = %v, want %v", list, joined, want)
		}
		for _, operator := range anyOperators {
			if got, want := impl.LengthOf(joined, operator), impl.LengthOf(list, operator); got != want {
				t.Fatalf("LengthOf(%v, %d) = %d, of joined legs %d", list, operator, want, got)
			}
		}
		if again := mustJoin(t, joined); !slices.Equal(again, joined) {
			t.Fatalf("JoinLegs(%v) = %v, and again %v", list, joined, again)
		}
		for i := 1; i < len(joined); i++ {
			if joined[i].Operator == joined[i-1].Operator {
				tooLong++
			}
		}
	}
	if tooLong < 300 {
		t.Errorf("only %d times neighbours were too long together", tooLong)
	}
}

func TestLegsOfInvalidLists(t *testing.T) {
	for name, list := range invalidLegLists() {
		for _, operator := range anyOperators {
			if got := impl.LengthOf(list, operator); got != -1 {
				t.Errorf("%s: LengthOf(%v, %d) = %d", name, list, operator, got)
			}
		}
		if got := impl.JoinLegs(list); got != nil {
			t.Errorf("%s: JoinLegs(%v) = %v", name, list, got)
		}
	}
}

func TestSharesChangeNothing(t *testing.T) {
	for _, list := range withInvalid(legLists(), invalidLegLists()) {
		for _, behind := range []impl.Leg{noLeg, leg(2, 50)} {
			list := widened(list, behind)
			before := whole(list)
			for _, amount := range []int{0, 101, 100000, -1} {
				fill(impl.ShareFare(list, amount), -9)
			}
			for _, operator := range anyOperators {
				impl.LengthOf(list, operator)
			}
			fill(impl.JoinLegs(list), noLeg)
			if !slices.Equal(before, whole(list)) {
				t.Fatalf("a call changed the legs %v to %v, or shares memory with them", before, whole(list))
			}
		}
	}
}

func TestSharesAreNewMemory(t *testing.T) {
	for _, list := range legLists() {
		changing := widened(list, noLeg)
		shares, joined := impl.ShareFare(changing, 101), impl.JoinLegs(changing)
		fill(impl.ShareFare(changing, 101), -9)
		fill(impl.JoinLegs(changing), noLeg)
		fill(changing, noLeg)
		if want := sharesBy(list, 101); !slices.Equal(shares, want) {
			t.Fatalf("ShareFare(%v, 101) = %v behind a change, want %v", list, shares, want)
		}
		if want := joinedBy(list); !slices.Equal(joined, want) {
			t.Fatalf("JoinLegs(%v) = %v behind a change, want %v", list, joined, want)
		}
	}
}
