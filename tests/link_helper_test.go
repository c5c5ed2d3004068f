package tests

import (
	"math"
	"slices"
	"strconv"

	"loop.example/transitfares/impl"
)

// noCall stands for what is not valid in any field, so that it shows wherever it turns up.
var noCall = impl.Call{Trace: -1, Amount: -2, Sent: -3}

// badTraces are numbers that no call has.
var badTraces = []int{0, 13, -1, math.MinInt, math.MaxInt}

// badAmounts are amounts that no call has.
var badAmounts = []int{0, 100001, -1, math.MinInt, math.MaxInt}

// badMinutes are minutes that there are not, and no times to wait.
var badMinutes = []int{-1, 40320, math.MinInt, math.MaxInt}

// call returns an open call.
func call(trace int, amount int, sent int) impl.Call {
	return impl.Call{Trace: trace, Amount: amount, Sent: sent}
}

// link returns a link.
func link(next int, open ...impl.Call) impl.Link {
	return impl.Link{Next: next, Open: open}
}

// sameLink reports whether two links are equal.
func sameLink(a impl.Link, b impl.Link) bool {
	return a.Next == b.Next && slices.Equal(a.Open, b.Open)
}

// openCalls returns open calls with some traces, a minute apart.
func openCalls(traces ...int) []impl.Call {
	var list []impl.Call
	for i, trace := range traces {
		list = append(list, call(trace, 100+10*trace, 500+i))
	}
	return list
}

// drawnLink returns a valid link with a number of calls, in any order of their traces and minutes.
func drawnLink(n *numbers, count int) impl.Link {
	k := link(1 + n.below(12))
	begin, spread := n.below(40000), []int{1, 10, 300}[n.below(3)]
	for _, trace := range mixed(n, cardsFrom(1, 12))[:count] {
		k.Open = append(k.Open, call(trace, []int{1, 100000, 500, 1 + n.below(100000)}[n.below(4)], begin+n.below(spread)))
	}
	return k
}

// links returns valid links: some by hand, and drawn ones with all numbers of calls.
func links() []impl.Link {
	list := []impl.Link{
		link(1),
		link(12),
		{Next: 5, Open: []impl.Call{}},
		link(1, call(1, 1, 0)),
		link(12, call(12, 100000, 40319)),
		link(7, openCalls(7, 8, 9, 10, 11, 12)...),
		link(1, openCalls(1, 2, 3, 4, 5, 6)...),
		link(12, openCalls(12, 1, 2, 3, 4)...),
		link(10, openCalls(2, 12, 10, 1, 11)...),
		link(3, call(9, 500, 100), call(2, 500, 100), call(4, 500, 100)),
		link(3, call(9, 500, 40319), call(2, 600, 0), call(4, 700, 20000)),
	}
	n := &numbers{state: 74}
	for i := range 300 {
		list = append(list, drawnLink(n, i%7))
	}
	return list
}

// traceBy returns the trace of the next call, by going over all of them from Next on.
func traceBy(k impl.Link) int {
	for behind := range 12 {
		trace := (k.Next-1+behind)%12 + 1
		if !slices.ContainsFunc(k.Open, func(c impl.Call) bool { return c.Trace == trace }) {
			return trace
		}
	}
	return -1
}

// calledBy returns a valid link after a call, and its trace; false if there is no place for it.
func calledBy(k impl.Link, amount int, minute int) (impl.Link, int, bool) {
	if len(k.Open) == 6 {
		return impl.Link{}, 0, false
	}
	trace := traceBy(k)
	next := trace + 1
	if trace == 12 {
		next = 1
	}
	return link(next, append(slices.Clone(k.Open), call(trace, amount, minute))...), trace, true
}

// answeredBy returns a valid link after an answer, and whether it is the one to a call.
func answeredBy(k impl.Link, trace int, amount int) (impl.Link, bool) {
	for i, c := range k.Open {
		if c.Trace == trace && c.Amount == amount {
			return link(k.Next, without(k.Open, i)...), true
		}
	}
	return k, false
}

// splitBy returns the calls of a valid link that are late, and all others.
func splitBy(k impl.Link, minute int, wait int) ([]impl.Call, []impl.Call) {
	var late, others []impl.Call
	for _, c := range k.Open {
		if c.Sent+wait < minute {
			late = append(late, c)
		} else {
			others = append(others, c)
		}
	}
	return late, others
}

// minutesOf returns minutes at and around which the calls of a link were sent, the first and the last one, and a drawn one.
func minutesOf(n *numbers, k impl.Link) []int {
	list := []int{0, 40319, n.below(40320)}
	for _, c := range k.Open {
		for minute := c.Sent - 1; minute <= c.Sent+2; minute++ {
			list = append(list, min(40319, max(0, minute)))
		}
	}
	return list
}

// waitsOf returns times to wait: short and long ones, and such as calls of a link wait exactly at a minute, or nearly.
func waitsOf(k impl.Link, minute int) []int {
	list := []int{0, 1, 2, 40318, 40319}
	for _, c := range k.Open {
		for wait := minute - c.Sent - 1; wait <= minute-c.Sent+1; wait++ {
			list = append(list, min(40319, max(0, wait)))
		}
	}
	return list
}

// invalidCalls returns calls that are not valid, by what is wrong with them.
func invalidCalls() map[string]impl.Call {
	list := map[string]impl.Call{"nothing": {}, "everything": noCall}
	for _, trace := range badTraces {
		list["trace "+strconv.Itoa(trace)] = call(trace, 500, 600)
	}
	for _, amount := range badAmounts {
		list["amount "+strconv.Itoa(amount)] = call(5, amount, 600)
	}
	for _, minute := range badMinutes {
		list["minute "+strconv.Itoa(minute)] = call(5, 500, minute)
	}
	return list
}

// invalidLinks returns links that are not valid, by what is wrong with them.
func invalidLinks() map[string]impl.Link {
	list := map[string]impl.Link{
		"nothing":               {},
		"a call too many":       link(8, openCalls(1, 2, 3, 4, 5, 6, 7)...),
		"all traces":            link(8, openCalls(1, 2, 3, 4, 5, 6, 7, 8, 9, 10, 11, 12)...),
		"many calls too many":   link(8, slices.Repeat(openCalls(1), 200)...),
		"a trace twice":         link(8, call(5, 500, 600), call(5, 600, 700)),
		"a call twice":          link(8, call(5, 500, 600), call(5, 500, 600)),
		"a trace again":         link(8, call(5, 500, 600), call(6, 500, 600), call(5, 600, 700)),
		"a trace twice at end":  link(8, openCalls(1, 2, 3, 4, 6, 6)...),
		"a trace twice at once": link(8, openCalls(2, 2, 3, 4, 5, 6)...),
	}
	for _, next := range badTraces {
		list["next "+strconv.Itoa(next)] = link(next)
		list["next with calls "+strconv.Itoa(next)] = link(next, openCalls(2, 3)...)
	}
	for name, c := range invalidCalls() {
		list["call alone: "+name] = link(8, c)
		list["first call: "+name] = link(8, c, call(2, 500, 600), call(3, 500, 600))
		list["last call: "+name] = link(8, call(2, 500, 600), call(3, 500, 600), c)
	}
	return list
}

// anyLinks returns links that are valid or not.
func anyLinks() []impl.Link {
	return withInvalid(links(), invalidLinks())
}
