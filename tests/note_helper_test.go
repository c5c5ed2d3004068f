package tests

import (
	"math"
	"slices"
	"strconv"

	"loop.example/transitfares/impl"
)

// noNote stands for what is not valid, so that it shows wherever it turns up.
var noNote = impl.Note{Bill: -1, Amount: -2, Back: true}

// badBills are numbers that no bill has.
var badBills = []int{-1, 10, math.MinInt, math.MaxInt}

// took returns a note of money that is taken.
func took(bill int, amount int) impl.Note {
	return impl.Note{Bill: bill, Amount: amount}
}

// gave returns a note of money that is given back.
func gave(bill int, amount int) impl.Note {
	return impl.Note{Bill: bill, Amount: amount, Back: true}
}

// notesOf returns notes of a bill of 100 each: taken for each '+', and given back for each '-'.
func notesOf(bill int, signs string) []impl.Note {
	var list []impl.Note
	for _, sign := range signs {
		list = append(list, impl.Note{Bill: bill, Amount: 100, Back: sign == '-'})
	}
	return list
}

// drawnNotes returns valid notes. Few bills and few amounts make it likely that money is taken twice, and that balances are 0 or multiples of MaxAmount.
func drawnNotes(n *numbers, count int) []impl.Note {
	bills, backs := []int{1, 2, 4, 10}[n.below(4)], 1+n.below(4)
	first := n.below(11 - bills)
	amounts := [][]int{{100000}, {1, 2}, {100000, 50000, 1, 99999}, {1 + n.below(100000), 1 + n.below(100000)}}[n.below(4)]
	list := make([]impl.Note, count)
	for i := range list {
		list[i] = impl.Note{Bill: first + n.below(bills), Amount: amounts[n.below(len(amounts))], Back: n.below(5) < backs}
	}
	return list
}

// noteLists returns valid notes: some by hand, and drawn ones of all numbers.
func noteLists() [][]impl.Note {
	list := [][]impl.Note{
		nil,
		{},
		{took(0, 1)},
		{gave(9, 100000)},
		{took(9, 100000), gave(9, 100000), took(0, 100000), gave(0, 99999)},
		{gave(3, 500), took(3, 500), took(3, 500)},
		{took(3, 500), took(3, 500), gave(3, 500), gave(3, 500)},
		notesOf(4, "+-+-+-+-+-+-+-+-+-+-"),
		notesOf(4, "-+-+-+-+-+-+-+-+-+-+"),
		slices.Concat(notesOf(8, "+"), notesOf(2, "++"), notesOf(8, "+"), notesOf(5, "--")),
		slices.Repeat([]impl.Note{took(9, 100000)}, 20),
		slices.Repeat([]impl.Note{gave(0, 100000)}, 20),
		slices.Repeat([]impl.Note{took(0, 1), gave(9, 1)}, 10),
	}
	n := &numbers{state: 88}
	for i := range 600 {
		list = append(list, drawnNotes(n, i%21))
	}
	return list
}

// invalidNotes returns notes that are not valid each, by what is wrong with them.
func invalidNotes() map[string]impl.Note {
	list := map[string]impl.Note{"no amount": {}, "everything": noNote}
	for _, bill := range badBills {
		list["bill "+strconv.Itoa(bill)] = took(bill, 500)
		list["bill given back "+strconv.Itoa(bill)] = gave(bill, 500)
	}
	for _, amount := range badAmounts {
		list["amount "+strconv.Itoa(amount)] = took(3, amount)
		list["amount given back "+strconv.Itoa(amount)] = gave(3, amount)
	}
	return list
}

// invalidNoteLists returns notes that are not valid together, by what is wrong with them.
func invalidNoteLists() map[string][]impl.Note {
	list := map[string][]impl.Note{
		"one too many":        slices.Repeat([]impl.Note{took(3, 500)}, 21),
		"one back too many":   slices.Repeat([]impl.Note{gave(3, 500)}, 21),
		"one in turns":        append(notesOf(3, "+-+-+-+-+-+-+-+-+-+-"), took(3, 500)),
		"many too many":       slices.Repeat([]impl.Note{took(3, 500), took(4, 500)}, 500),
		"one of many invalid": append(slices.Repeat([]impl.Note{took(3, 500)}, 19), noNote),
	}
	for name, note := range invalidNotes() {
		list["alone: "+name] = []impl.Note{note}
		list["first: "+name] = append([]impl.Note{note}, notesOf(3, "++")...)
		list["last: "+name] = append(notesOf(3, "++"), note)
		list["between: "+name] = []impl.Note{took(3, 500), note, took(3, 500)}
	}
	return list
}

// anyNotes returns notes that are valid or not.
func anyNotes() [][]impl.Note {
	return withInvalid(noteLists(), invalidNoteLists())
}

// balanceBy returns the balance of a bill: what was taken, and without what was given back.
func balanceBy(list []impl.Note, bill int) int {
	taken, given := 0, 0
	for _, note := range list {
		if note.Bill == bill && note.Back {
			given += note.Amount
		} else if note.Bill == bill {
			taken += note.Amount
		}
	}
	return taken - given
}

// isTwiceBy reports whether money was taken more than once for a bill, by counting anew at each place.
func isTwiceBy(list []impl.Note, bill int) bool {
	for place := range list {
		taken, given := 0, 0
		for _, note := range list[:place+1] {
			if note.Bill == bill && note.Back {
				given++
			} else if note.Bill == bill {
				taken++
			}
		}
		if taken >= given+2 {
			return true
		}
	}
	return false
}

// twiceBy returns the bills that were taken twice, by asking for each of them.
func twiceBy(list []impl.Note) []int {
	return slices.DeleteFunc(cardsFrom(0, 10), func(bill int) bool { return !isTwiceBy(list, bill) })
}

// givenBy returns the notes that give everything back, bill by bill.
func givenBy(list []impl.Note) []impl.Note {
	var given []impl.Note
	for bill := range 10 {
		balance := balanceBy(list, bill)
		note := gave(bill, balance)
		if balance < 0 {
			note = took(bill, -balance)
		}
		many, rest := note.Amount/100000, note.Amount%100000
		note.Amount = 100000
		given = append(given, slices.Repeat([]impl.Note{note}, many)...)
		if note.Amount = rest; rest > 0 {
			given = append(given, note)
		}
	}
	return given
}
