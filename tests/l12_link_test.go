package tests

import (
	"slices"
	"testing"

	"loop.example/transitfares/impl"
)

// mustBeLink checks that a result is a valid link.
func mustBeLink(t *testing.T, k impl.Link) impl.Link {
	t.Helper()
	if !impl.ValidLink(k) {
		t.Fatalf("ValidLink(%v) = false", k)
	}
	return k
}

// mustCall returns SendCall, which has to succeed and make a valid link.
func mustCall(t *testing.T, k impl.Link, amount int, minute int) (impl.Link, int) {
	t.Helper()
	more, trace, ok := impl.SendCall(k, amount, minute)
	if !ok {
		t.Fatalf("SendCall(%v, %d, %d) = %v, %d, false", k, amount, minute, more, trace)
	}
	return mustBeLink(t, more), trace
}

func TestValidLinkWithinLimits(t *testing.T) {
	for _, k := range links() {
		if !impl.ValidLink(k) {
			t.Errorf("ValidLink(%v) = false", k)
		}
	}
	for number := -20; number <= 40; number++ {
		want := 1 <= number && number <= 12
		if got := impl.ValidLink(link(number)); got != want {
			t.Errorf("ValidLink of next %d = %v", number, got)
		}
		if got := impl.ValidLink(link(3, call(number, 500, 600))); got != want {
			t.Errorf("ValidLink of trace %d = %v", number, got)
		}
	}
	for _, c := range []struct {
		call impl.Call
		want bool
	}{
		{call(1, 1, 0), true}, {call(12, 100000, 40319), true}, {call(5, 0, 600), false}, {call(5, 100001, 600), false},
		{call(5, 500, -1), false}, {call(5, 500, 40320), false}, {call(5, 1, 40319), true}, {call(5, 100000, 0), true},
	} {
		if got := impl.ValidLink(link(5, c.call)); got != c.want {
			t.Errorf("ValidLink of %v = %v", c.call, got)
		}
	}
	for count := range 13 {
		if got := impl.ValidLink(link(5, openCalls(cardsFrom(1, count)...)...)); got != (count <= 6) {
			t.Errorf("ValidLink of %d calls = %v", count, got)
		}
	}
}

// Every two traces, with calls between them and none.
func TestValidLinkOfTwoTraces(t *testing.T) {
	for a := 1; a <= 12; a++ {
		for b := 1; b <= 12; b++ {
			if got := impl.ValidLink(link(5, call(a, 500, 600), call(b, 700, 800))); got != (a != b) {
				t.Errorf("ValidLink of traces %d and %d = %v", a, b, got)
			}
			other := 1
			for other == a || other == b {
				other++
			}
			if got := impl.ValidLink(link(5, call(a, 500, 600), call(other, 1, 2), call(b, 700, 800))); got != (a != b) {
				t.Errorf("ValidLink of traces %d, %d and %d = %v", a, other, b, got)
			}
		}
	}
}

func TestValidLinkOutsideOfLimits(t *testing.T) {
	for name, k := range invalidLinks() {
		if impl.ValidLink(k) {
			t.Errorf("%s: ValidLink(%v) = true", name, k)
		}
	}
}

func TestP74CallsCanBeAnswered(t *testing.T) {
	for _, k := range links() {
		for count := range len(k.Open) {
			mustBeLink(t, link(k.Next, k.Open[:count]...))
		}
	}
}

func TestSendCallOfSomeCalls(t *testing.T) {
	for _, c := range []struct {
		name        string
		next        int
		open        []int
		trace, then int
	}{
		{"the first one", 1, nil, 1, 2},
		{"one between", 5, nil, 5, 6},
		{"the last but one", 11, nil, 11, 12},
		{"the last one", 12, nil, 12, 1},
		{"behind others", 4, []int{1, 2, 3}, 4, 5},
		{"in front of others", 4, []int{5, 6, 7}, 4, 5},
		{"over one", 5, []int{5}, 6, 7},
		{"over one to the last one", 11, []int{11}, 12, 1},
		{"over the last one", 12, []int{12}, 1, 2},
		{"over the last two", 11, []int{11, 12}, 1, 2},
		{"over the last two, in another order", 11, []int{12, 11}, 1, 2},
		{"over the last one and the first one", 12, []int{1, 12}, 2, 3},
		{"over five", 3, []int{3, 4, 5, 6, 7}, 8, 9},
		{"over five to the last one", 7, []int{11, 9, 7, 8, 10}, 12, 1},
		{"over five to the first one", 8, []int{8, 9, 10, 11, 12}, 1, 2},
		{"over five behind the last one", 10, []int{2, 1, 12, 11, 10}, 3, 4},
		{"over five from the first one", 1, []int{1, 2, 3, 4, 5}, 6, 7},
		{"into a gap", 2, []int{2, 3, 5, 6}, 4, 5},
		{"over one, next to others", 6, []int{6, 1, 12}, 7, 8},
	} {
		k := link(c.next, openCalls(c.open...)...)
		want := link(c.then, append(openCalls(c.open...), call(c.trace, 777, 888))...)
		if got, trace, ok := impl.SendCall(k, 777, 888); !ok || trace != c.trace || !sameLink(got, want) {
			t.Errorf("%s: SendCall = %v, %d, %v, want %v", c.name, got, trace, ok, want)
		}
	}
}

func TestSendCallWithinLimits(t *testing.T) {
	for _, amount := range []int{1, 2, 500, 99999, 100000} {
		for _, minute := range []int{0, 1, 600, 40318, 40319} {
			if got, trace := mustCall(t, link(12), amount, minute); trace != 12 || !sameLink(got, link(1, call(12, amount, minute))) {
				t.Errorf("SendCall(%d, %d) = %v, %d", amount, minute, got, trace)
			}
		}
	}
}

func TestP75OpenCallsHaveDifferentTraces(t *testing.T) {
	n := &numbers{state: 75}
	sent, full := 0, 0
	for _, k := range links() {
		for range 5 {
			amount, minute := 1+n.below(100000), n.below(40320)
			got, trace, ok := impl.SendCall(k, amount, minute)
			want, wantTrace, wantOk := calledBy(k, amount, minute)
			if !sameLink(got, want) || trace != wantTrace || ok != wantOk {
				t.Fatalf("SendCall(%v, %d, %d) = %v, %d, %v, want %v", k, amount, minute, got, trace, ok, want)
			}
			if !ok {
				full++
				continue
			}
			sent++
			mustBeLink(t, got)
			if slices.ContainsFunc(k.Open, func(c impl.Call) bool { return c.Trace == trace }) || got.Open[len(k.Open)] != call(trace, amount, minute) {
				t.Fatalf("SendCall(%v) = %v, %d", k, got, trace)
			}
		}
	}
	if sent < 1000 || full < 100 {
		t.Errorf("only %d calls were sent, and %d had no place", sent, full)
	}
}

func TestP151CallsThatFollowEachOtherHaveDifferentTraces(t *testing.T) {
	checked := 0
	for _, k := range links() {
		if len(k.Open) > 4 {
			continue
		}
		checked++
		first, a := mustCall(t, k, 300, 700)
		both, b := mustCall(t, first, 400, 600)
		count := len(k.Open)
		if a == b || len(both.Open) != count+2 || both.Open[count] != call(a, 300, 700) || both.Open[count+1] != call(b, 400, 600) {
			t.Fatalf("two calls of SendCall(%v) = %v with traces %d and %d", k, both, a, b)
		}
	}
	if checked < 200 {
		t.Errorf("only %d links had places for two calls", checked)
	}
}

// Calls are sent and answered in turns, so that the traces go around many times.
func TestSendCallAgainAndAgain(t *testing.T) {
	n := &numbers{state: 12}
	for _, first := range links() {
		got, want := first, first
		for range 60 {
			amount, minute := 1+n.below(100000), n.below(40320)
			if len(want.Open) < 6 {
				got, _ = mustCall(t, got, amount, minute)
				want, _, _ = calledBy(want, amount, minute)
			}
			if n.below(3) > 0 || len(want.Open) == 6 {
				c := want.Open[n.below(len(want.Open))]
				got, _ = impl.TakeAnswer(got, c.Trace, c.Amount)
				want, _ = answeredBy(want, c.Trace, c.Amount)
			}
			if !sameLink(got, want) {
				t.Fatalf("%v became %v, want %v", first, got, want)
			}
		}
	}
}

// checkNotCalled checks that SendCall returns the zero value, 0 and false.
func checkNotCalled(t *testing.T, name string, k impl.Link, amount int, minute int) {
	t.Helper()
	if got, trace, ok := impl.SendCall(k, amount, minute); ok || trace != 0 || !sameLink(got, impl.Link{}) {
		t.Errorf("%s: SendCall(%v, %d, %d) = %v, %d, %v", name, k, amount, minute, got, trace, ok)
	}
}

func TestSendCallWithoutAPlace(t *testing.T) {
	for next := 1; next <= 12; next++ {
		for first := 1; first <= 7; first++ {
			checkNotCalled(t, "no place", link(next, openCalls(cardsFrom(first, 6)...)...), 500, 600)
		}
		if _, trace := mustCall(t, link(next, openCalls(cardsFrom(1, 5)...)...), 500, 600); trace != max(6, next) {
			t.Errorf("SendCall into the last place has trace %d", trace)
		}
	}
}

func TestSendCallOfInvalidArguments(t *testing.T) {
	for _, k := range links() {
		for _, amount := range badAmounts {
			checkNotCalled(t, "amount", k, amount, 600)
			checkNotCalled(t, "amount and minute", k, amount, -1)
		}
		for _, minute := range badMinutes {
			checkNotCalled(t, "minute", k, 500, minute)
		}
	}
	for name, k := range invalidLinks() {
		checkNotCalled(t, name, k, 500, 600)
		checkNotCalled(t, name, k, 0, -1)
	}
}

func TestTakeAnswerOfSomeAnswers(t *testing.T) {
	k := link(2, call(11, 300, 40), call(1, 200, 30), call(12, 300, 20))
	for _, c := range []struct {
		name          string
		trace, amount int
		want          impl.Link
		answered      bool
	}{
		{"the first one", 11, 300, link(2, k.Open[1], k.Open[2]), true},
		{"one between", 1, 200, link(2, k.Open[0], k.Open[2]), true},
		{"the last one", 12, 300, link(2, k.Open[0], k.Open[1]), true},
		{"another amount", 11, 200, k, false},
		{"an amount less by 1", 11, 299, k, false},
		{"an amount greater by 1", 12, 301, k, false},
		{"an amount of another call", 1, 300, k, false},
		{"another trace", 10, 300, k, false},
		{"the next trace", 2, 300, k, false},
		{"no amount", 11, 0, k, false},
		{"no trace", 0, 300, k, false},
		{"neither", 0, 0, k, false},
		{"numbers exchanged", 300, 11, k, false},
	} {
		if got, answered := impl.TakeAnswer(k, c.trace, c.amount); answered != c.answered || !sameLink(got, c.want) {
			t.Errorf("%s: TakeAnswer = %v, %v, want %v, %v", c.name, got, answered, c.want, c.answered)
		}
	}
	if got, answered := impl.TakeAnswer(link(9, call(5, 7, 1)), 5, 7); !answered || !sameLink(got, link(9)) {
		t.Errorf("TakeAnswer of the only call = %v, %v", got, answered)
	}
	if got, answered := impl.TakeAnswer(link(9), 0, 0); answered || !sameLink(got, link(9)) {
		t.Errorf("TakeAnswer without calls = %v, %v", got, answered)
	}
}

func TestP76AnsweredCallsAreClosed(t *testing.T) {
	checked := 0
	for _, k := range links() {
		if len(k.Open) == 6 {
			continue
		}
		for _, amount := range []int{1, 500, 100000} {
			checked++
			more, trace := mustCall(t, k, amount, 600)
			if got, ok := impl.TakeAnswer(more, trace, amount); !ok || !slices.Equal(got.Open, k.Open) || got.Next != more.Next || !impl.ValidLink(got) {
				t.Fatalf("TakeAnswer of SendCall(%v) = %v, %v", k, got, ok)
			}
		}
	}
	if checked < 600 {
		t.Errorf("only %d calls were answered", checked)
	}
}

func TestP77AnswersCloseOneCall(t *testing.T) {
	closed, left := 0, 0
	for _, k := range links() {
		amounts := append([]int{2, 501}, badAmounts...)
		for _, c := range k.Open {
			amounts = append(amounts, c.Amount, c.Amount-1, c.Amount+1)
		}
		for _, trace := range append(cardsFrom(-2, 18), badTraces...) {
			for _, amount := range amounts {
				got, ok := impl.TakeAnswer(k, trace, amount)
				want, wantOk := answeredBy(k, trace, amount)
				if ok != wantOk || !sameLink(got, want) || !impl.ValidLink(got) {
					t.Fatalf("TakeAnswer(%v, %d, %d) = %v, %v, want %v", k, trace, amount, got, ok, want)
				}
				if ok {
					closed++
				} else {
					left++
				}
			}
		}
	}
	if closed < 500 || left < 10000 {
		t.Errorf("only %d answers closed a call, and %d did not", closed, left)
	}
}

func TestTakeAnswerOfInvalidLinks(t *testing.T) {
	for name, k := range invalidLinks() {
		for _, c := range append(slices.Clone(k.Open), call(2, 500, 0), call(0, 0, 0)) {
			if got, ok := impl.TakeAnswer(k, c.Trace, c.Amount); ok || !sameLink(got, impl.Link{}) {
				t.Errorf("%s: TakeAnswer(%v, %d, %d) = %v, %v", name, k, c.Trace, c.Amount, got, ok)
			}
		}
	}
}

func TestLateCallsOfSomeWaits(t *testing.T) {
	a, b, c, d := call(4, 100, 50), call(2, 100, 20), call(3, 100, 70), call(9, 100, 50)
	k := link(5, a, b, c, d)
	for _, x := range []struct {
		name         string
		minute, wait int
		late, others []impl.Call
	}{
		{"exactly the wait", 60, 10, []impl.Call{b}, []impl.Call{a, c, d}},
		{"a minute more", 61, 10, []impl.Call{a, b, d}, []impl.Call{c}},
		{"a shorter wait", 60, 9, []impl.Call{a, b, d}, []impl.Call{c}},
		{"all", 81, 10, []impl.Call{a, b, c, d}, nil},
		{"all but the last one", 80, 10, []impl.Call{a, b, d}, []impl.Call{c}},
		{"no wait at the minute", 50, 0, []impl.Call{b}, []impl.Call{a, c, d}},
		{"no wait a minute behind it", 51, 0, []impl.Call{a, b, d}, []impl.Call{c}},
		{"no wait at the first one", 20, 0, nil, []impl.Call{a, b, c, d}},
		{"no wait behind the first one", 21, 0, []impl.Call{b}, []impl.Call{a, c, d}},
		{"before they were sent", 0, 0, nil, []impl.Call{a, b, c, d}},
		{"before they were sent, a long wait", 10, 40319, nil, []impl.Call{a, b, c, d}},
		{"the longest wait", 40319, 40319, nil, []impl.Call{a, b, c, d}},
		{"the end of time", 40319, 40319 - 50, []impl.Call{b}, []impl.Call{a, c, d}},
		{"no wait at the end of time", 40319, 0, []impl.Call{a, b, c, d}, nil},
	} {
		if got := impl.LateCalls(k, x.minute, x.wait); !slices.Equal(got, x.late) {
			t.Errorf("%s: LateCalls = %v, want %v", x.name, got, x.late)
		}
		if got := impl.DropLate(k, x.minute, x.wait); !sameLink(got, link(5, x.others...)) {
			t.Errorf("%s: DropLate = %v, want %v", x.name, got, x.others)
		}
	}
	if got := impl.LateCalls(link(5, call(1, 1, 0)), 40319, 40318); len(got) != 1 {
		t.Errorf("LateCalls of a call of minute 0 at the end of time = %v", got)
	}
}

func TestP78LateCallsAreLate(t *testing.T) {
	n := &numbers{state: 78}
	count := map[bool]int{}
	for _, k := range links() {
		for _, minute := range minutesOf(n, k) {
			for _, wait := range waitsOf(k, minute) {
				late, _ := splitBy(k, minute, wait)
				if got := impl.LateCalls(k, minute, wait); !slices.Equal(got, late) {
					t.Fatalf("LateCalls(%v, %d, %d) = %v, want %v", k, minute, wait, got, late)
				}
				count[len(late) > 0 && len(late) < len(k.Open)]++
			}
		}
	}
	if count[true] < 1000 || count[false] < 1000 {
		t.Errorf("only %v links had some late calls", count)
	}
}

func TestP79WhatIsNotLateStays(t *testing.T) {
	n := &numbers{state: 79}
	for _, k := range links() {
		for _, minute := range minutesOf(n, k) {
			for _, wait := range waitsOf(k, minute) {
				_, others := splitBy(k, minute, wait)
				got := mustBeLink(t, impl.DropLate(k, minute, wait))
				if !sameLink(got, link(k.Next, others...)) || len(impl.LateCalls(got, minute, wait)) != 0 {
					t.Fatalf("DropLate(%v, %d, %d) = %v", k, minute, wait, got)
				}
				late := impl.LateCalls(k, minute, wait)
				for _, c := range k.Open {
					if slices.Contains(late, c) == slices.Contains(got.Open, c) {
						t.Fatalf("LateCalls(%v, %d, %d) = %v, and DropLate = %v", k, minute, wait, late, got)
					}
				}
				if len(late)+len(got.Open) != len(k.Open) {
					t.Fatalf("LateCalls(%v, %d, %d) = %v, and DropLate = %v", k, minute, wait, late, got)
				}
			}
		}
	}
}

func TestP152LessPatienceFindsMore(t *testing.T) {
	n := &numbers{state: 152}
	for _, k := range links() {
		for _, minute := range minutesOf(n, k) {
			waits := waitsOf(k, minute)
			slices.Sort(waits)
			most := len(k.Open)
			for _, wait := range waits {
				count := len(impl.LateCalls(k, minute, wait))
				if count > most {
					t.Fatalf("LateCalls(%v, %d, %d) are %d, and %d of a shorter wait", k, minute, wait, count, most)
				}
				most = count
			}
			same := link(k.Next)
			for _, c := range k.Open {
				same.Open = append(same.Open, call(c.Trace, c.Amount, minute))
			}
			if got := impl.LateCalls(same, minute, 0); len(got) != 0 {
				t.Fatalf("LateCalls(%v, %d, 0) = %v", same, minute, got)
			}
		}
	}
}

// checkNotLate checks that LateCalls and DropLate return nil and the zero value.
func checkNotLate(t *testing.T, name string, k impl.Link, minute int, wait int) {
	t.Helper()
	if got := impl.LateCalls(k, minute, wait); got != nil {
		t.Errorf("%s: LateCalls(%v, %d, %d) = %v", name, k, minute, wait, got)
	}
	if got := impl.DropLate(k, minute, wait); !sameLink(got, impl.Link{}) {
		t.Errorf("%s: DropLate(%v, %d, %d) = %v", name, k, minute, wait, got)
	}
}

func TestLateCallsOfInvalidArguments(t *testing.T) {
	for _, k := range links() {
		for _, minute := range badMinutes {
			checkNotLate(t, "minute", k, minute, 5)
			checkNotLate(t, "wait", k, 600, minute)
			checkNotLate(t, "wait at the end of time", k, 40319, minute)
			checkNotLate(t, "both", k, minute, minute)
		}
	}
	for name, k := range invalidLinks() {
		checkNotLate(t, name, k, 40319, 0)
		checkNotLate(t, name, k, 0, 40319)
	}
}

// linkCalls returns the links that the functions of the chapter make of one, by their names; the calls of LateCalls are one of them.
func linkCalls(k impl.Link) map[string]impl.Link {
	c := call(5, 500, 600)
	if len(k.Open) > 0 {
		c = k.Open[len(k.Open)/2]
	}
	made := map[string]impl.Link{}
	made["SendCall"], _, _ = impl.SendCall(k, 777, 888)
	made["SendCall of nothing"], _, _ = impl.SendCall(k, 0, 888)
	made["TakeAnswer"], _ = impl.TakeAnswer(k, c.Trace, c.Amount)
	made["TakeAnswer of another amount"], _ = impl.TakeAnswer(k, c.Trace, c.Amount+1)
	for name, minute := range map[string]int{" at first": 0, " in between": c.Sent + 1, " at last": 40319, " outside": -1} {
		made["LateCalls"+name] = impl.Link{Open: impl.LateCalls(k, minute, 0)}
		made["DropLate"+name] = impl.DropLate(k, minute, 0)
	}
	return made
}

func TestLinksChangeNothing(t *testing.T) {
	for _, k := range anyLinks() {
		k.Open = widened(k.Open, noCall)
		before := whole(k.Open)
		impl.ValidLink(k)
		for _, made := range linkCalls(k) {
			fill(made.Open, noCall)
		}
		if !slices.Equal(before, whole(k.Open)) {
			t.Fatalf("a call changed the calls %v to %v, or shares memory with them", before, whole(k.Open))
		}
	}
}

func TestLinksAreNewMemory(t *testing.T) {
	for _, k := range links() {
		want := linkCalls(k)
		changing := link(k.Next, widened(k.Open, noCall)...)
		got := linkCalls(changing)
		fill(changing.Open, noCall)
		for name := range want {
			if !sameLink(got[name], want[name]) {
				t.Fatalf("%s of %v = %v behind a change of the link, before %v", name, k, got[name], want[name])
			}
		}
		for name := range want {
			made := whole(got[name].Open)
			for other := range want {
				if other != name {
					fill(got[other].Open, noCall)
				}
			}
			if !slices.Equal(made, whole(got[name].Open)) {
				t.Fatalf("%s of %v shares memory with another result", name, k)
			}
			got = linkCalls(k)
		}
	}
}
