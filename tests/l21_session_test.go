package tests

import (
	"slices"
	"strconv"
	"strings"
	"testing"

	"loop.example/transitfares/impl"
)

func TestLimitsOfSessionsAreThoseOfTheDocument(t *testing.T) {
	if impl.MaxLines != 24 || impl.MaxTaps != 24 || impl.MaxCard != 99 || impl.MaxMinute != 40319 {
		t.Errorf("MaxLines = %d, MaxTaps = %d, MaxCard = %d, MaxMinute = %d", impl.MaxLines, impl.MaxTaps, impl.MaxCard, impl.MaxMinute)
	}
}

// checkSession checks the output of some lines.
func checkSession(t *testing.T, name string, list []string, want string) {
	t.Helper()
	if got := impl.RunSession(list); got != want {
		t.Errorf("%s: RunSession(%q) = %q, want %q", name, list, got, want)
	}
}

func TestSessionsOfSomeLines(t *testing.T) {
	for _, c := range []struct {
		name  string
		lines string
		want  string
	}{
		{"no lines", "", ""},
		{"a question", "revenue", "0\n"},
		{"a journey", "in 1 600 0\nout 1 630 2\ndue 1\nbill 1\nrevenue", "ok\nok\n300\n300\n300\n"},
		{"a journey from a stop to itself", "in 1 600 3\nout 1 630 3\ndue 1", "ok\nok\n200\n"},
		{"a journey that is not over", "in 1 600 0\ndue 1\nbill 1\nout 1 630 2\ndue 1", "ok\n500\n500\nok\n300\n"},
		{"in alone", "in 1 600 0\nbill 1", "ok\n500\n"},
		{"out alone", "out 1 600 0\nbill 1", "ok\n500\n"},
		{"in twice, and out", "in 1 600 0\nin 1 610 0\nout 1 630 0\nbill 1", "ok\nok\nok\n500 200\n"},
		{"out MaxRide minutes later", "in 1 600 0\nout 1 780 2\nbill 1", "ok\nok\n300\n"},
		{"out a minute too late", "in 1 600 0\nout 1 781 2\nbill 1", "ok\nok\n500 400\n"},
		{"before the peak", "in 1 419 0\nout 1 430 2\nbill 1", "ok\nok\n300\n"},
		{"the first minute of the peak", "in 1 420 0\nout 1 430 2\nbill 1", "ok\nok\n450\n"},
		{"the last minute of the peak", "in 1 539 0\nout 1 550 1\nbill 1", "ok\nok\n300\n"},
		{"behind the peak", "in 1 540 0\nout 1 550 1\nbill 1", "ok\nok\n200\n"},
		{"the peak of the last working day", "in 1 4770 0\nout 1 4780 2\nbill 1", "ok\nok\n450\n"},
		{"no peak on day 5", "in 1 6210 0\nout 1 6220 2\nbill 1", "ok\nok\n300\n"},
		{"no peak on day 6", "in 1 7650 0\nout 1 7660 2\nbill 1", "ok\nok\n300\n"},
		{"the peak of day 7", "in 1 9090 0\nout 1 9100 2\nbill 1", "ok\nok\n450\n"},
		{"no extra for halves", "in 1 450 0\nbill 1", "ok\n500\n"},
		{"journeys that belong together", "in 1 600 0\nout 1 630 2\nin 1 660 2\nout 1 670 3\nbill 1", "ok\nok\nok\nok\n300 0\n"},
		{"journeys a minute too far apart", "in 1 600 0\nout 1 630 2\nin 1 661 2\nout 1 670 3\nbill 1", "ok\nok\nok\nok\n300 200\n"},
		{"a dearer journey that belongs to one", "in 1 600 0\nout 1 630 1\nin 1 660 1\nout 1 670 3\nbill 1", "ok\nok\nok\nok\n200 100\n"},
		{"the cap of the day", "in 1 600 0\nin 1 610 0\nin 1 620 0\nbill 1\ndue 1", "ok\nok\nok\n500 400 0\n900\n"},
		{"days with caps of their own", "in 1 600 0\nin 1 610 0\nin 1 1679 0\nin 1 1680 0\nbill 1\ndue 1", "ok\nok\nok\nok\n500 400 0 500\n1400\n"},
		{"the cap of the week", "in 1 300 0\nin 1 310 0\nin 1 1700 0\nin 1 1710 0\nin 1 3200 0\nin 1 3210 0\nin 1 4600 0\nin 1 4610 0\nin 1 9000 0\nbill 1\ndue 1", strings.Repeat("ok\n", 9) + "500 400 500 400 500 400 300 0 500\n3500\n"},
		{"several cards", "in 1 600 0\nin 2 600 0\nout 1 630 2\ndue 1\ndue 2\ndue 3\nrevenue", "ok\nok\nok\n300\n500\n0\n800\n"},
		{"cards with caps of their own", "in 1 600 0\nin 2 600 0\nin 1 610 0\nin 2 610 0\nrevenue", "ok\nok\nok\nok\n1800\n"},
		{"a card without taps", "in 1 600 0\nbill 2\ndue 2", "ok\n\n0\n"},
		{"a bill without taps", "bill 1\nbill 1", "\n\n"},
		{"people", "in 1 600 0\npeople 599\npeople 600\npeople 780\npeople 781\nin 2 610 0\npeople 610\nout 1 620 2\npeople 619\npeople 620", "ok\n0\n1\n1\n0\nok\n2\nok\n2\n1\n"},
		{"people without taps", "people 0\npeople 600", "0\n0\n"},
		{"a minute behind all time", "in 1 40319 0\npeople 40319\npeople 40499\npeople 40500\npeople 99999\npeople 100000", "ok\n1\n1\n0\n0\n0\n"},
		{"only lines that are none", "help\n\nIN", "what\nwhat\nwhat\n"},
	} {
		checkSession(t, c.name, lines(c.lines), c.want)
	}
}

func TestSessionsOfLateTaps(t *testing.T) {
	for _, c := range []struct {
		name  string
		lines string
		want  string
	}{
		{"in behind out", "out 1 630 2\ndue 1\nin 1 600 0\nbill 1", "ok\n500\nok\n300\n"},
		{"in between", "in 1 600 0\nout 1 630 2\nin 1 610 0\nbill 1", "ok\nok\nok\n500 300\n"},
		{"people", "out 1 630 2\npeople 610\nin 1 600 0\npeople 610\npeople 630", "ok\n0\nok\n1\n0\n"},
		{"days that fall", "in 1 9000 0\nin 1 600 1\nin 1 1700 2\nbill 1", "ok\nok\nok\n500 500 500\n"},
		{"one minute and one stop, in first", "in 1 600 0\nout 1 600 0\nbill 1\npeople 600", "ok\nok\n200\n0\n"},
		{"one minute and one stop, out first", "out 1 600 0\nin 1 600 0\nbill 1\npeople 600", "ok\nok\n500 400\n1\n"},
		{"one minute, out first, at the greater stop", "out 1 600 2\nin 1 600 0\nbill 1\npeople 600", "ok\nok\n300\n0\n"},
		{"one minute, in first, at the greater stop", "in 1 600 2\nout 1 600 0\nbill 1\npeople 600", "ok\nok\n500 400\n1\n"},
		{"one minute, at the stops 2 and 3", "out 1 600 3\nin 1 600 2\nbill 1", "ok\nok\n200\n"},
		{"one minute, at the stops 0 and 1", "out 1 600 1\nin 1 600 0\nbill 1", "ok\nok\n200\n"},
		{"one minute, at the stops 1 and 2", "out 1 600 2\nin 1 600 1\nbill 1", "ok\nok\n300\n"},
		{"a line that comes twice", "in 1 600 0\nin 1 600 0\nbill 1\nout 1 600 0\nbill 1", "ok\nok\n500 400\nok\n500 200\n"},
		{"out twice", "in 1 600 0\nout 1 630 2\nout 1 630 2\nbill 1\nrevenue", "ok\nok\nok\n300 500\n800\n"},
	} {
		checkSession(t, c.name, lines(c.lines), c.want)
	}
}

func TestSessionsOfLimits(t *testing.T) {
	for _, c := range []struct {
		name  string
		lines string
		want  string
	}{
		{"cards", "in 0 600 0\nin 99 600 0\nin 100 600 0\nin -1 600 0\ndue 0\ndue 99\ndue 100\ndue -1\nrevenue", "ok\nok\nno\nno\n500\n500\n0\n0\n1000\n"},
		{"cards that go out", "out 0 600 0\nout 99 600 0\nout 100 600 0\nout -1 600 0\nrevenue", "ok\nok\nno\nno\n1000\n"},
		{"bills of cards", "in 0 600 0\nout 99 600 0\nbill 0\nbill 99\nbill 100\nbill 99999\nbill -1", "ok\nok\n500\n500\n\n\n\n"},
		{"minutes", "in 1 0 0\nin 1 40319 0\nin 1 40320 0\nin 1 99999 0\nin 1 -1 0\nbill 1", "ok\nok\nno\nno\nno\n500 500\n"},
		{"minutes of ways out", "out 1 0 0\nout 1 40319 0\nout 1 40320 0\nout 1 -1 0\nbill 1", "ok\nok\nno\nno\n500 500\n"},
		{"stops", "in 1 600 0\nin 2 600 1\nin 3 600 2\nin 4 600 3\nrevenue", "ok\nok\nok\nok\n2000\n"},
		{"stops that the rules do not have", "in 1 600 4\nin 2 600 5\nin 3 600 9\nrevenue\npeople 600", "no\nno\nno\n0\n0\n"},
		{"stops that there are not", "in 1 600 10\nin 2 600 11\nin 3 600 99999\nin 4 600 -1\nin 5 600 -99999\nrevenue\npeople 600", "no\nno\nno\nno\nno\n0\n0\n"},
		{"ways out at such stops", "out 1 600 4\nout 2 600 9\nout 3 600 10\nout 4 600 -1\nrevenue", "no\nno\nno\nno\n0\n"},
		{"a tap that fails is not there", "in 1 600 0\nin 1 610 4\nout 1 620 9\nin 1 40320 0\nout 1 630 2\nbill 1", "ok\nno\nno\nno\nok\n300\n"},
		{"people", "in 1 0 0\npeople 0\npeople 180\npeople 181\npeople -1", "ok\n1\n1\n0\n0\n"},
	} {
		checkSession(t, c.name, lines(c.lines), c.want)
	}
}

func TestSessionsHavePrices(t *testing.T) {
	for from := range 4 {
		for to := range 4 {
			price := 200
			if from/2 != to/2 {
				price = 300
			}
			for minute, want := range map[int]int{400: price, 430: price * 3 / 2, 600: price, 6210: price} {
				begin := "in 7 " + strconv.Itoa(minute) + " " + strconv.Itoa(from)
				end := "out 7 " + strconv.Itoa(minute+20) + " " + strconv.Itoa(to)
				checkSession(t, "price", []string{begin, end, "due 7"}, output("ok", "ok", strconv.Itoa(want)))
			}
		}
	}
}

// Taps at each of these minutes and of each of these cards are there, so that a number that is read in spite of its form shows.
func TestSessionsOfAlmostNumbers(t *testing.T) {
	before := []string{"in 0 0 0", "in 1 0 0", "in 2 0 0", "in 3 450 0"}
	for _, line := range []string{"due 0", "due 1", "due 2", "due 3"} {
		checkSession(t, "a number", append(slices.Clone(before), line), "ok\nok\nok\nok\n500\n")
	}
	for _, line := range []string{"people 0", "people 1", "people 2"} {
		checkSession(t, "a number", append(slices.Clone(before), line), "ok\nok\nok\nok\n3\n")
	}
	checkSession(t, "a number", append(slices.Clone(before), "people 450"), "ok\nok\nok\nok\n1\n")
	for _, word := range almostNumbers {
		list := append(slices.Clone(before),
			"due "+word, "bill "+word, "people "+word,
			"in "+word+" 600 0", "in 9 "+word+" 0", "in 9 600 "+word,
			"out "+word+" 600 0", "out 9 "+word+" 0", "out 9 600 "+word,
			"in "+word+" "+word+" "+word, "revenue", "due 9")
		checkSession(t, "no number", list, "ok\nok\nok\nok\n"+"0\n\n0\n"+strings.Repeat("no\n", 7)+"2000\n0\n")
	}
}

func TestSessionsOfAlmostCommands(t *testing.T) {
	before := []string{"in 1 450 0", "in 2 450 0", "out 2 460 2"}
	for _, line := range almostCommands {
		list := append(slices.Clone(before), line, "revenue", line, "bill 1", "bill 2", line, "people 450", "people 480")
		checkSession(t, "no command", list, "ok\nok\nok\nwhat\n950\nwhat\n500\n450\nwhat\n2\n1\n")
		checkSession(t, "no command alone", []string{line}, "what\n")
	}
}

func TestSessionsOfLongLines(t *testing.T) {
	digits := strings.Repeat("1", 100000)
	for line, want := range map[string]string{
		strings.Repeat("in ", 100000): "what\n",
		strings.Repeat(" ", 100000):   "what\n",
		"revenue" + digits:            "what\n",
		"due 1" + digits:              "0\n",
		"due " + digits + " ":         "what\n",
		"in 1 600 0" + digits:         "no\n",
		"in 1 " + digits + " 0":       "no\n",
		"people 60" + digits:          "0\n",
	} {
		checkSession(t, "a long line", []string{"in 1 600 0", line, "revenue"}, "ok\n"+want+"500\n")
	}
}

func TestSessionsUpToMaxLines(t *testing.T) {
	questions := slices.Repeat([]string{"revenue"}, 25)
	var ways []string
	for i := range 1000 {
		ways = append(ways, "in 1 "+strconv.Itoa(5000-i)+" 0")
	}
	for _, c := range []struct {
		name string
		list []string
		want string
	}{
		{"no lines", nil, ""},
		{"no lines, but a list", []string{}, ""},
		{"an empty line", []string{""}, "what\n"},
		{"a line less", questions[:23], strings.Repeat("0\n", 23)},
		{"MaxLines lines", questions[:24], strings.Repeat("0\n", 24)},
		{"a line more", questions, strings.Repeat("0\n", 24)},
		{"a full list of taps", ways[:24], strings.Repeat("ok\n", 24)},
		{"a full list of taps, and a question too many", append(slices.Clone(ways[:24]), "revenue"), strings.Repeat("ok\n", 24)},
		{"a tap less, and a question", append(slices.Clone(ways[:23]), "revenue", "revenue"), strings.Repeat("ok\n", 23) + "900\n"},
		{"many taps too many", ways, strings.Repeat("ok\n", 24)},
		{"one tap many times", slices.Repeat([]string{"out 99 40319 3"}, 30), strings.Repeat("ok\n", 24)},
	} {
		checkSession(t, c.name, c.list, c.want)
	}
}

func TestP125SessionsRunLineByLine(t *testing.T) {
	answered := map[string]int{}
	for _, list := range sessions() {
		answers, _ := sessionBy(list)
		for i := range len(list) + 1 {
			want := output(answers[:min(i, 24)]...)
			if got := impl.RunSession(list[:i]); got != want {
				t.Fatalf("RunSession(%q) = %q, want %q", list[:i], got, want)
			}
		}
		if all := impl.RunSession(list); strings.Count(all, "\n") != min(len(list), 24) {
			t.Fatalf("RunSession(%q) = %q, which is not a line for each one", list, all)
		}
		for _, answer := range answers {
			for _, word := range strings.Split(answer, " ") {
				answered[word]++
			}
			if strings.Contains(answer, " ") {
				answered["several"]++
			}
		}
	}
	for _, word := range []string{"ok", "no", "what", "", "several", "0", "1", "2", "3", "100", "200", "300", "450", "500", "900"} {
		if answered[word] < 10 {
			t.Errorf("only %d times there was an answer with %q", answered[word], word)
		}
	}
}

// lastLine returns the last line of an output.
func lastLine(text string) string {
	all := strings.Split(strings.TrimSuffix(text, "\n"), "\n")
	return all[len(all)-1]
}

func TestP126QuestionsChangeNothing(t *testing.T) {
	n := &numbers{state: 126}
	earned := 0
	for _, list := range sessions() {
		list = slices.Clone(list[:min(len(list), 12)])
		_, taps := sessionBy(list)
		want := strconv.Itoa(impl.RevenueOf(ofSession(), taps))
		if got := lastLine(impl.RunSession(append(list, "revenue"))); got != want {
			t.Fatalf("RunSession(%q) ends with the revenue %s, want %s", list, got, want)
		}
		if want != "0" {
			earned++
		}
		behind, between := slices.Clone(list), []string{}
		for range n.below(12) {
			behind = append(behind, drawnQuestion(n, n.below(40320)))
		}
		for _, line := range list {
			between = append(between, line)
			if len(between) < 23-len(list) {
				between = append(between, drawnQuestion(n, n.below(40320)))
			}
		}
		for _, asked := range [][]string{behind, between} {
			if got := lastLine(impl.RunSession(append(asked, "revenue"))); len(asked) > 23 || got != want {
				t.Fatalf("RunSession(%q) ends with the revenue %s, want %s", asked, got, want)
			}
		}
	}
	if earned < 800 {
		t.Errorf("only %d sessions had a revenue", earned)
	}
}

func TestP166WithoutTapsNobodyPays(t *testing.T) {
	others := sessions()[:60]
	for card := range 120 {
		due := "due " + strconv.Itoa(card)
		checkSession(t, "revenue and due", []string{"revenue", due}, "0\n0\n")
		checkSession(t, "due and revenue", []string{due, "revenue"}, "0\n0\n")
		checkSession(t, "behind what fails", []string{"in 1 600 4", "out 1 40320 0", "what", "revenue", due, "bill 1"}, "no\nno\nwhat\n0\n0\n\n")
		for _, list := range others {
			begun := impl.RunSession(append([]string{"revenue", due}, list...))
			if !strings.HasPrefix(begun, "0\n0\n") {
				t.Fatalf("RunSession of revenue, %q and %q = %q", due, list, begun)
			}
		}
	}
}

func TestSessionsChangeNoLines(t *testing.T) {
	for _, list := range sessions() {
		list = widened(list, "in 1 600 0")
		before := whole(list)
		impl.RunSession(list)
		if !slices.Equal(before, whole(list)) {
			t.Fatalf("RunSession changed %q to %q", before, whole(list))
		}
	}
}

// A session leaves nothing for the next one, and its output stays as it is when the lines change.
func TestSessionsAreOfTheirOwn(t *testing.T) {
	all := sessions()
	for i, list := range all {
		changing := slices.Clone(list)
		got := impl.RunSession(changing)
		fill(changing, "in 1 600 0")
		impl.RunSession(changing)
		impl.RunSession(all[len(all)-1-i])
		answers, _ := sessionBy(list)
		if want := output(answers...); got != want || impl.RunSession(list) != want {
			t.Fatalf("RunSession(%q) = %q, and then %q, want %q", list, got, impl.RunSession(list), want)
		}
	}
}
