package tests

import (
	"math"
	"slices"

	"loop.example/transitfares/impl"
)

// noPass stands for what is not valid in any field.
var noPass = impl.Pass{From: -1, To: -2, Zones: []int{-3}}

// holder is a rider with passes.
type holder struct {
	trip
	passes []impl.Pass
}

// pass returns a pass for days and zones.
func pass(from int, to int, zones ...int) impl.Pass {
	return impl.Pass{From: from, To: to, Zones: zones}
}

// widest returns the pass for all days and zones.
func widest() impl.Pass {
	return pass(0, 28, 0, 1, 2, 3, 4)
}

// dayOf returns the service day of a minute.
func dayOf(minute int) int {
	return (minute + 1200) / 1440
}

// drawnPass returns a valid pass that begins and ends about the day of one of some journeys.
func drawnPass(n *numbers, list []impl.Journey) impl.Pass {
	day := n.below(29)
	if len(list) > 0 {
		day = dayOf(list[n.below(len(list))].Begin)
	}
	day = min(27, max(1, day))
	first, last := day+1-n.below(3), day-1+n.below(3)
	p := pass(min(first, last), max(first, last))
	for zone := range 5 {
		if n.below(4) > 0 {
			p.Zones = append(p.Zones, zone)
		}
	}
	return p
}

// holders returns journeys by hand and drawn ones, each with up to MaxPasses passes.
func holders() []holder {
	n := &numbers{state: 47}
	var list []holder
	for i, x := range trips() {
		h := holder{trip: x}
		for range i % (impl.MaxPasses + 1) {
			h.passes = append(h.passes, drawnPass(n, x.list))
		}
		list = append(list, h)
	}
	return list
}

// coversBy reports whether a valid pass covers a journey, by looking for both zones.
func coversBy(t impl.Tariff, p impl.Pass, j impl.Journey) bool {
	return j.Full && p.From <= dayOf(j.Begin) && dayOf(j.Begin) <= p.To &&
		slices.Contains(p.Zones, t.Zones[j.From]) && slices.Contains(p.Zones, t.Zones[j.To])
}

// openBy returns the journeys that none of the passes covers.
func openBy(x holder) []impl.Journey {
	return slices.DeleteFunc(slices.Clone(x.list), func(j impl.Journey) bool {
		return slices.ContainsFunc(x.passes, func(p impl.Pass) bool { return coversBy(x.tariff, p, j) })
	})
}

// invalidPasses returns passes that are not valid each, by what is wrong with them.
func invalidPasses() map[string]impl.Pass {
	list := map[string]impl.Pass{
		"from behind to":         pass(4, 3, 0, 1, 2, 3, 4),
		"from far behind to":     pass(28, 0, 0, 1, 2, 3, 4),
		"from below 0":           pass(-1, 28, 0, 1, 2, 3, 4),
		"from and to below 0":    pass(-1, -1, 0, 1, 2, 3, 4),
		"to too great":           pass(0, 29, 0, 1, 2, 3, 4),
		"from and to too great":  pass(29, 29, 0, 1, 2, 3, 4),
		"least from":             pass(math.MinInt, 28, 0, 1, 2, 3, 4),
		"greatest to":            pass(0, math.MaxInt, 0, 1, 2, 3, 4),
		"least of all":           pass(math.MinInt, math.MinInt, 0, 1, 2, 3, 4),
		"everything":             noPass,
		"zones that fall":        pass(0, 28, 1, 0),
		"zones that fall at end": pass(0, 28, 0, 1, 2, 4, 3),
		"a zone twice":           pass(0, 28, 0, 0),
		"a zone twice at end":    pass(0, 28, 0, 1, 2, 2),
		"a zone again":           pass(0, 28, 0, 1, 0),
		"six zones":              pass(0, 28, 0, 1, 2, 3, 4, 4),
		"six zones, all others":  pass(0, 28, 0, 1, 2, 3, 4, 5),
		"many zones":             {From: 0, To: 28, Zones: make([]int, 300)},
	}
	for name, zone := range map[string]int{"below 0": -1, "too great": 5, "of another word": 64, "of another byte": 8, "least of all": math.MinInt, "greatest of all": math.MaxInt} {
		list["zone alone "+name] = pass(0, 28, zone)
		list["first zone "+name] = pass(0, 28, zone, 0, 1, 2)
		list["last zone "+name] = pass(0, 28, 0, 1, 2, zone)
	}
	return list
}

// sparePasses returns passes all of whose slices have memory behind them.
func sparePasses(passes []impl.Pass) []impl.Pass {
	wide := widened(passes, noPass)
	for i := range wide {
		wide[i].Zones = spare(wide[i].Zones)
	}
	return wide
}

// passMemory lists all numbers of passes, with those behind their slices.
func passMemory(passes []impl.Pass) []int {
	list := []int{len(passes)}
	for _, p := range passes[:cap(passes)] {
		list = append(append(list, p.From, p.To, len(p.Zones)), p.Zones[:cap(p.Zones)]...)
	}
	return list
}
