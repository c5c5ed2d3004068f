package tests

import (
	"math"
	"slices"
	"testing"

	"loop.example/transitfares/impl"
)

func TestLimitsOfBanksAreThoseOfTheDocument(t *testing.T) {
	if impl.MaxBill != 9 || impl.MaxNotes != 20 || impl.MaxAmount != 100000 {
		t.Errorf("MaxBill = %d, MaxNotes = %d, MaxAmount = %d", impl.MaxBill, impl.MaxNotes, impl.MaxAmount)
	}
}

func TestBankBalanceOfSomeNotes(t *testing.T) {
	mixed := []impl.Note{took(1, 100), gave(2, 50), gave(1, 100), took(1, 70), took(9, 100000), took(9, 100000), gave(0, 1)}
	for _, c := range []struct {
		name string
		list []impl.Note
		bill int
		want int
	}{
		{"no notes", nil, 1, 0},
		{"taken", notesOf(1, "+"), 1, 100},
		{"taken for another bill", notesOf(1, "+"), 2, 0},
		{"given back", notesOf(1, "-"), 1, -100},
		{"taken and given back", notesOf(1, "+-"), 1, 0},
		{"given back before", notesOf(1, "-+"), 1, 0},
		{"given back before it is taken twice", notesOf(1, "-++"), 1, 100},
		{"taken three times", notesOf(1, "+++"), 1, 300},
		{"less is given back", []impl.Note{took(1, 500), gave(1, 499)}, 1, 1},
		{"more is given back", []impl.Note{took(1, 500), gave(1, 501)}, 1, -1},
		{"some of all", mixed, 1, 70},
		{"below 0", mixed, 2, -50},
		{"the first bill", mixed, 0, -1},
		{"the last bill", mixed, 9, 200000},
		{"a bill without notes", mixed, 3, 0},
		{"a bill behind all", mixed, 10, 0},
		{"a negative bill", mixed, -1, 0},
		{"the least bill", mixed, math.MinInt, 0},
		{"the greatest bill", mixed, math.MaxInt, 0},
		{"all notes", slices.Repeat([]impl.Note{took(9, 100000)}, 20), 9, 2000000},
		{"all notes back", slices.Repeat([]impl.Note{gave(0, 100000)}, 20), 0, -2000000},
	} {
		if got := impl.BankBalance(c.list, c.bill); got != c.want {
			t.Errorf("%s: BankBalance(%v, %d) = %d, want %d", c.name, c.list, c.bill, got, c.want)
		}
	}
}

func TestBanksWithinLimits(t *testing.T) {
	for bill := -20; bill <= 40; bill++ {
		checkBank(t, []impl.Note{took(bill, 5), took(bill, 7)}, bill >= 0 && bill <= 9)
	}
	for _, amount := range []int{-100001, -100000, -1, 0, 1, 2, 99999, 100000, 100001, 200000} {
		list := []impl.Note{took(3, amount), took(3, amount)}
		valid := amount >= 1 && amount <= 100000
		checkBank(t, list, valid)
		list[0].Back, list[1].Back = true, true
		want := 0
		if valid {
			want = -2 * amount
		}
		if got := impl.BankBalance(list, 3); got != want {
			t.Errorf("BankBalance(%v, 3) = %d", list, got)
		}
	}
	for count := 2; count <= 45; count++ {
		checkBank(t, slices.Repeat([]impl.Note{took(6, 100000)}, count), count <= 20)
	}
}

// checkBank checks notes of one bill that take money: each function returns something for valid notes alone.
func checkBank(t *testing.T, list []impl.Note, valid bool) {
	t.Helper()
	bill, balance := list[0].Bill, 0
	var twice []int
	var back []impl.Note
	if valid {
		balance, twice, back = balanceBy(list, bill), []int{bill}, givenBy(list)
	}
	if got := impl.BankBalance(list, bill); got != balance {
		t.Errorf("BankBalance(%v, %d) = %d, want %d", list, bill, got, balance)
	}
	if got := impl.TakenTwice(list); !slices.Equal(got, twice) {
		t.Errorf("TakenTwice(%v) = %v, want %v", list, got, twice)
	}
	if got := impl.BackNotes(list); !slices.Equal(got, back) {
		t.Errorf("BackNotes(%v) = %v, want %v", list, got, back)
	}
}

func TestP88BalancesAddUp(t *testing.T) {
	below, above := 0, 0
	for _, list := range noteLists() {
		for bill := -2; bill <= 12; bill++ {
			all := impl.BankBalance(list, bill)
			if want := balanceBy(list, bill); all != want {
				t.Fatalf("BankBalance(%v, %d) = %d, want %d", list, bill, all, want)
			}
			for place := range len(list) + 1 {
				if first, others := impl.BankBalance(list[:place], bill), impl.BankBalance(list[place:], bill); first+others != all {
					t.Fatalf("BankBalance(%v, %d) = %d, and of parts %d and %d", list, bill, all, first, others)
				}
			}
			if all < 0 {
				below++
			} else if all > 0 {
				above++
			}
		}
	}
	if below < 500 || above < 500 {
		t.Errorf("only %d balances are below 0, and %d above", below, above)
	}
}

func TestBankBalanceOfBillsThatNoNoteHas(t *testing.T) {
	for _, list := range noteLists() {
		for _, bill := range append([]int{-100, 11, 20, 256, 1 << 32}, badBills...) {
			if got := impl.BankBalance(list, bill); got != 0 {
				t.Errorf("BankBalance(%v, %d) = %d", list, bill, got)
			}
		}
	}
}

func TestP155MoneyCanBeGivenBack(t *testing.T) {
	checked := 0
	for _, list := range noteLists() {
		if len(list) == 20 {
			continue
		}
		checked++
		for bill := range 10 {
			for _, amount := range []int{1, 500, 99999, 100000} {
				behind := append(slices.Clone(list), gave(bill, amount))
				for other := range 10 {
					want := impl.BankBalance(list, other)
					if other == bill {
						want -= amount
					}
					if got := impl.BankBalance(behind, other); got != want {
						t.Fatalf("BankBalance(%v, %d) = %d, want %d", behind, other, got, want)
					}
				}
			}
		}
	}
	if checked < 500 {
		t.Errorf("only %d lists had a place for one more", checked)
	}
}

func TestTakenTwiceOfSomeNotes(t *testing.T) {
	for _, c := range []struct {
		name string
		list []impl.Note
		want []int
	}{
		{"no notes", nil, nil},
		{"once", notesOf(3, "+"), nil},
		{"twice", notesOf(3, "++"), []int{3}},
		{"three times", notesOf(3, "+++"), []int{3}},
		{"given back between", notesOf(3, "+-+"), nil},
		{"given back later", notesOf(3, "++-"), []int{3}},
		{"all given back later", notesOf(3, "++--"), []int{3}},
		{"more given back later", notesOf(3, "++---"), []int{3}},
		{"given back later, and twice again", notesOf(3, "++--++"), []int{3}},
		{"given back before", notesOf(3, "-++"), nil},
		{"given back before, and three times", notesOf(3, "-+++"), []int{3}},
		{"given back twice before", notesOf(3, "--+++"), nil},
		{"given back twice before, and four times", notesOf(3, "--++++"), []int{3}},
		{"given back alone", notesOf(3, "--"), nil},
		{"in turns", notesOf(3, "+-+-+-"), nil},
		{"in turns, and twice at last", notesOf(3, "+-+-++"), []int{3}},
		{"twice, and then in turns", notesOf(3, "++-+-"), []int{3}},
		{"the first bill", notesOf(0, "++"), []int{0}},
		{"the last bill", notesOf(9, "++"), []int{9}},
		{"two bills once each", append(notesOf(3, "+"), notesOf(4, "+")...), nil},
		{"two bills in turns", []impl.Note{took(4, 1), took(3, 1), took(4, 1), took(3, 1)}, []int{3, 4}},
		{"another bill is given back", []impl.Note{took(4, 1), gave(3, 1), took(4, 1)}, []int{4}},
		{"bills that fall", slices.Concat(notesOf(9, "++"), notesOf(5, "++"), notesOf(0, "++")), []int{0, 5, 9}},
		{"other amounts", []impl.Note{took(3, 1), gave(3, 100000), took(3, 2), took(3, 3)}, []int{3}},
		{"less given back", []impl.Note{took(3, 500), gave(3, 1), took(3, 500)}, nil},
		{"all notes", slices.Repeat(notesOf(7, "+"), 20), []int{7}},
	} {
		if got := impl.TakenTwice(c.list); !slices.Equal(got, c.want) {
			t.Errorf("%s: TakenTwice(%v) = %v, want %v", c.name, c.list, got, c.want)
		}
	}
	if got := impl.TakenTwice(append(allBills(took), allBills(took)...)); !slices.Equal(got, cardsFrom(0, 10)) {
		t.Errorf("TakenTwice of all bills = %v", got)
	}
}

// allBills returns a note for each bill, from the last one on.
func allBills(note func(bill int, amount int) impl.Note) []impl.Note {
	var list []impl.Note
	for bill := 9; bill >= 0; bill-- {
		list = append(list, note(bill, 100*(bill+1)))
	}
	return list
}

func TestP89MoneyThatIsGivenBackBeforeIsNotTakenTwice(t *testing.T) {
	count := map[int]int{}
	for _, list := range noteLists() {
		got := impl.TakenTwice(list)
		if want := twiceBy(list); !slices.Equal(got, want) {
			t.Fatalf("TakenTwice(%v) = %v, want %v", list, got, want)
		}
		count[len(got)]++
		for i, bill := range got {
			taken := 0
			for _, note := range list {
				if note.Bill == bill && !note.Back {
					taken++
				}
			}
			if taken < 2 || i > 0 && bill <= got[i-1] {
				t.Fatalf("TakenTwice(%v) = %v", list, got)
			}
		}
	}
	for many := range 4 {
		if count[many] < 10 {
			t.Errorf("only %d lists had %d bills that were taken twice", count[many], many)
		}
	}
}

// Money that is given back first leaves as much to take once more.
func TestP89ManyGivenBackBefore(t *testing.T) {
	for given := range 10 {
		for taken := range 11 {
			list := append(slices.Repeat(notesOf(6, "-"), given), slices.Repeat(notesOf(6, "+"), taken)...)
			var want []int
			if taken > given+1 {
				want = []int{6}
			}
			if got := impl.TakenTwice(list); !slices.Equal(got, want) {
				t.Errorf("TakenTwice of %d given back and %d taken = %v", given, taken, got)
			}
		}
	}
}

func TestP90WhatWasTakenTwiceStaysSo(t *testing.T) {
	found := 0
	for _, list := range noteLists() {
		all := impl.TakenTwice(list)
		for place := range len(list) + 1 {
			for _, bill := range impl.TakenTwice(list[:place]) {
				found++
				if !slices.Contains(all, bill) {
					t.Fatalf("TakenTwice(%v) = %v, without %d", list, all, bill)
				}
			}
		}
	}
	if found < 1000 {
		t.Errorf("only %d bills were taken twice", found)
	}
}

func TestP156TakingAndGivingBackInTurnsIsFine(t *testing.T) {
	for bill := range 10 {
		list := notesOf(bill, "+-+-+-+-+-+-+-+-+-+-")
		for i := range list {
			list[i].Amount = 1 + 4999*i
		}
		for count := range 21 {
			if got := impl.TakenTwice(list[:count]); len(got) != 0 {
				t.Errorf("TakenTwice(%v) = %v", list[:count], got)
			}
		}
	}
}

// The bills of the turns come in any order.
func TestP156TurnsOfManyBills(t *testing.T) {
	n := &numbers{state: 156}
	for i := range 300 {
		var list []impl.Note
		given := map[int]bool{}
		for range i % 21 {
			bill := n.below(1 + i%10)
			list = append(list, impl.Note{Bill: bill, Amount: 1 + n.below(100000), Back: given[bill]})
			given[bill] = !given[bill]
		}
		if got := impl.TakenTwice(list); len(got) != 0 {
			t.Fatalf("TakenTwice(%v) = %v", list, got)
		}
	}
}

func TestBackNotesOfSomeNotes(t *testing.T) {
	most := func(bill int, count int) []impl.Note { return slices.Repeat([]impl.Note{took(bill, 100000)}, count) }
	for _, c := range []struct {
		name string
		list []impl.Note
		want []impl.Note
	}{
		{"no notes", nil, nil},
		{"taken", []impl.Note{took(3, 500)}, []impl.Note{gave(3, 500)}},
		{"given back", []impl.Note{gave(3, 500)}, []impl.Note{took(3, 500)}},
		{"a balance of 0", notesOf(3, "+-"), nil},
		{"a balance of 0, given back before", notesOf(3, "-+-+"), nil},
		{"a balance of 1", []impl.Note{took(3, 500), gave(3, 499)}, []impl.Note{gave(3, 1)}},
		{"a balance of -1", []impl.Note{gave(3, 500), took(3, 499)}, []impl.Note{took(3, 1)}},
		{"a sum", notesOf(3, "+++"), []impl.Note{gave(3, 300)}},
		{"less than MaxAmount by 1", []impl.Note{took(3, 99999)}, []impl.Note{gave(3, 99999)}},
		{"MaxAmount", most(3, 1), []impl.Note{gave(3, 100000)}},
		{"MaxAmount of two", []impl.Note{took(3, 1), took(3, 99999)}, []impl.Note{gave(3, 100000)}},
		{"one more than MaxAmount", append(most(3, 1), took(3, 1)), []impl.Note{gave(3, 100000), gave(3, 1)}},
		{"one less than twice MaxAmount", append(most(3, 1), took(3, 99999)), []impl.Note{gave(3, 100000), gave(3, 99999)}},
		{"twice MaxAmount", most(3, 2), []impl.Note{gave(3, 100000), gave(3, 100000)}},
		{"one more than twice MaxAmount", append(most(3, 2), took(3, 1)), []impl.Note{gave(3, 100000), gave(3, 100000), gave(3, 1)}},
		{"MaxAmount given back", []impl.Note{gave(3, 100000)}, []impl.Note{took(3, 100000)}},
		{"one more given back", []impl.Note{gave(3, 100000), gave(3, 1)}, []impl.Note{took(3, 100000), took(3, 1)}},
		{"twice MaxAmount given back", []impl.Note{gave(3, 100000), gave(3, 100000)}, []impl.Note{took(3, 100000), took(3, 100000)}},
		{"bills that fall", []impl.Note{took(9, 1), gave(5, 2), took(0, 3)}, []impl.Note{gave(0, 3), took(5, 2), gave(9, 1)}},
		{"bills in turns", []impl.Note{took(5, 1), took(2, 100000), took(5, 2), took(2, 4)}, []impl.Note{gave(2, 100000), gave(2, 4), gave(5, 3)}},
		{"one of them 0", []impl.Note{took(5, 1), took(2, 4), gave(2, 4), took(1, 7)}, []impl.Note{gave(1, 7), gave(5, 1)}},
		{"all notes", most(9, 20), slices.Repeat([]impl.Note{gave(9, 100000)}, 20)},
		{"all notes given back", slices.Repeat([]impl.Note{gave(0, 100000)}, 20), most(0, 20)},
	} {
		if got := impl.BackNotes(c.list); !slices.Equal(got, c.want) {
			t.Errorf("%s: BackNotes(%v) = %v, want %v", c.name, c.list, got, c.want)
		}
	}
	if got, want := impl.BackNotes(allBills(took)), turned(allBills(gave)); !slices.Equal(got, want) {
		t.Errorf("BackNotes of all bills = %v, want %v", got, want)
	}
}

func TestP91EverythingCanBeGivenBack(t *testing.T) {
	checked := 0
	for _, list := range noteLists() {
		given := impl.BackNotes(list)
		if want := givenBy(list); !slices.Equal(given, want) {
			t.Fatalf("BackNotes(%v) = %v, want %v", list, given, want)
		}
		behind := append(slices.Clone(list), given...)
		if len(behind) > 20 || len(given) == 0 {
			continue
		}
		checked++
		for bill := range 10 {
			if got := impl.BankBalance(behind, bill); got != 0 {
				t.Fatalf("BankBalance(%v, %d) = %d", behind, bill, got)
			}
		}
		if again := impl.BackNotes(behind); len(again) != 0 {
			t.Fatalf("BackNotes(%v) = %v", behind, again)
		}
	}
	if checked < 200 {
		t.Errorf("only %d lists had places for what is given back", checked)
	}
}

func TestP92NotesThatGiveBackAreInOrder(t *testing.T) {
	parts := 0
	for _, list := range noteLists() {
		given := impl.BackNotes(list)
		for i, note := range given {
			if i == 0 {
				continue
			}
			before := given[i-1]
			if note.Bill < before.Bill || note.Bill == before.Bill && (note.Back != before.Back || before.Amount != 100000) {
				t.Fatalf("BackNotes(%v) = %v", list, given)
			}
			if note.Bill == before.Bill {
				parts++
			}
		}
		for bill := range 10 {
			if got, want := impl.BankBalance(given, bill), -impl.BankBalance(list, bill); got != want {
				t.Fatalf("BackNotes(%v) = %v, which is %d for bill %d, want %d", list, given, got, bill, want)
			}
		}
	}
	if parts < 200 {
		t.Errorf("only %d notes follow one of their bill", parts)
	}
}

func TestBanksOfInvalidNotes(t *testing.T) {
	for name, list := range invalidNoteLists() {
		for bill := -2; bill <= 12; bill++ {
			if got := impl.BankBalance(list, bill); got != 0 {
				t.Errorf("%s: BankBalance(%v, %d) = %d", name, list, bill, got)
			}
		}
		if got := impl.BankBalance(list, list[0].Bill); got != 0 {
			t.Errorf("%s: BankBalance(%v, %d) = %d", name, list, list[0].Bill, got)
		}
		if got := impl.TakenTwice(list); got != nil {
			t.Errorf("%s: TakenTwice(%v) = %v", name, list, got)
		}
		if got := impl.BackNotes(list); got != nil {
			t.Errorf("%s: BackNotes(%v) = %v", name, list, got)
		}
	}
}

func TestBanksChangeNothing(t *testing.T) {
	for _, list := range anyNotes() {
		list = widened(list, noNote)
		before := whole(list)
		for bill := range 10 {
			impl.BankBalance(list, bill)
		}
		fill(impl.TakenTwice(list), -9)
		fill(impl.BackNotes(list), noNote)
		if !slices.Equal(before, whole(list)) {
			t.Fatalf("a call changed the notes %v to %v, or shares memory with them", before, whole(list))
		}
	}
}

func TestBanksAreNewMemory(t *testing.T) {
	for _, list := range noteLists() {
		changing := widened(list, noNote)
		twice, given := impl.TakenTwice(changing), impl.BackNotes(changing)
		fill(changing, noNote)
		fill(impl.TakenTwice(list), -9)
		fill(impl.BackNotes(list), noNote)
		if !slices.Equal(twice, twiceBy(list)) || !slices.Equal(given, givenBy(list)) {
			t.Fatalf("TakenTwice(%v) = %v, and BackNotes = %v, behind a change of later results", list, twice, given)
		}
	}
}
