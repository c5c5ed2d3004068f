package tests

import (
	"regexp"
	"slices"
	"strconv"
	"strings"

	"loop.example/transitfares/impl"
)

// commandLine and typed tell commands and numbers from all other lines and words.
var (
	commandLine = regexp.MustCompile(`^(?:(in|out) ([^ ]*) ([^ ]*) ([^ ]*)|(due|bill|people) ([^ ]*)|(revenue))$`)
	typed       = regexp.MustCompile(`^(?:0|[1-9][0-9]{0,4})$`)
)

// almostCommands are lines that are no commands.
var almostCommands = []string{
	"", " ", "  ", "   ", "    ", "help", "what", "ok", "no", "1", "0", "-1",
	"in", "in ", "in 1", "in 1 ", "in 1 450", "in 1 450 0 0", "in 1 450 0 ", " in 1 450 0", "in  1 450 0", "in 1  450 0", "in 1 450  0",
	"IN 1 450 0", "In 1 450 0", "iN 1 450 0", "inn 1 450 0", "i 1 450 0", "n 1 450 0", "int 1 450 0", "in1 450 0", "in1 1 450 0", "in\t1\t450\t0", "in\t1 450 0", "\tin 1 450 0", "in,1,450,0", "1 in 450 0", "1 450 0 in", "in\x00 1 450 0", "in\n 1 450 0", "in 1 450 0 out 1 460 0",
	"out", "out ", "out 1", "out 1 480", "out 1 480 2 2", "out 1 480 2 ", " out 1 480 2", "out  1 480 2", "out 1  480 2", "out 1 480  2", "OUT 1 480 2", "Out 1 480 2", "ou 1 480 2", "outs 1 480 2", "ut 1 480 2", "in out 1 480 2", "inout 1 480 2", "out\u00a0 1 480 2",
	"due", "due 1 ", " due 1", "due  1", "due 1 1", "Due 1", "DUE 1", "du 1", "dues 1", "dueu 1", "ue 1", "due1", "due\t1", "1 due", "due,1",
	"bill", "bill 1 ", " bill 1", "bill  1", "bill 1 1", "Bill 1", "BILL 1", "bil 1", "bills 1", "ill 1", "bill1", "bill\t1", "bill=1",
	"people", "people 470 ", " people 470", "people  470", "people 470 1", "People 470", "PEOPLE 470", "peopl 470", "peoples 470", "eople 470", "people470", "people\t470",
	"revenue ", " revenue", "revenue  ", "revenue 1", "revenue 0", "Revenue", "REVENUE", "revenu", "revenues", "evenue", "revenue\n", "revenue\r", "revenue\t", "revenue\x00", "revenue.", "rev enue", "revenue revenue", "\ufeffrevenue", "r\u0435venue", "\xff", "\xffrevenue", "revenue\xff",
}

// almostNumbers are words that are no numbers of a session; some are numbers of cards, minutes and stops in other forms.
var almostNumbers = []string{
	"", "x", "one", "1x", "x1", "-", "+", "-1", "-2", "-0", "+0", "+1", "+2", "--1", "00", "01", "02", "000", "0000", "00000", "00001", "000001", "0450", "00450", "000450", "000000",
	"100000", "100001", "123456", "999999", "000100000", "4294967296", "4294967297", "9223372036854775807", "9223372036854775808", "-9223372036854775808", "18446744073709551616", "18446744073709551617", "18446744073709552066", "99999999999999999999999999",
	"1.0", "1.", ".1", "1e0", "1e1", "0x1", "0b1", "0o1", "0X1", "1_0", "1_", "_1", "1,0", "4_50", "0x", "1h", "'1'", "\"1\"", "(1)", "1-", "1+", "2-1", "1\t", "\t1", "1\n", "\n1", "1\r", "1\x00", "\x001", "1\u00a0", "\u00a01", "\uff11", "\u0661", "\u00b9", "\xff", "1\xff", "NaN", "Inf", "nil", "true",
}

// lines splits a text into lines.
func lines(text string) []string {
	if text == "" {
		return nil
	}
	return strings.Split(text, "\n")
}

// output returns a session's output of lines: each one has an end.
func output(answers ...string) string {
	var text strings.Builder
	for _, a := range answers {
		text.WriteString(a + "\n")
	}
	return text.String()
}

// ofSession returns the rules of a session.
func ofSession() impl.Rules {
	return impl.Rules{
		Tariff:  impl.Tariff{Prices: [][]int{{200, 300}, {300, 200}}, Zones: []int{0, 0, 1, 1}, Peaks: []impl.Band{{From: 420, To: 540}}, Extra: 50, Top: 500},
		Window:  30,
		DayCap:  900,
		WeekCap: 3000,
	}
}

// typedBy returns the number of a word.
func typedBy(word string) int {
	number := -1
	if typed.MatchString(word) {
		number = 0
		for _, digit := range []byte(word) {
			number = 10*number + int(digit-'0')
		}
	}
	return number
}

// tapBy returns the tap of a way in or out, and whether it can be added.
func tapBy(words []string, number int) (impl.Tap, bool) {
	t := impl.Tap{Number: number, Card: typedBy(words[1]), Minute: typedBy(words[2]), Stop: typedBy(words[3]), Out: words[0] == "out"}
	t.Validator = t.Stop
	return t, isTap(t) && t.Stop < 4
}

// sessionBy returns the output of each line, by the bills of taps that are sorted anew for each question, and the taps at the end.
func sessionBy(list []string) ([]string, []impl.Tap) {
	var answers []string
	var taps []impl.Tap
	for _, line := range list[:min(len(list), 24)] {
		answer := "what"
		words := strings.Split(line, " ")
		x := account{ofSession(), sorted(taps)}
		if !commandLine.MatchString(line) {
			words = []string{""}
		}
		switch words[0] {
		case "in", "out":
			answer = "no"
			if t, ok := tapBy(words, len(taps)); ok {
				taps = append(taps, t)
				answer = "ok"
			}
		case "due":
			answer = strconv.Itoa(dueBy(billsBy(x, typedBy(words[1]))))
		case "bill":
			answer = ""
			for i, b := range billsBy(x, typedBy(words[1])) {
				answer += strings.Repeat(" ", min(i, 1)) + strconv.Itoa(b.Amount)
			}
		case "people":
			answer = strconv.Itoa(peopleBy(x.list, typedBy(words[1])))
		case "revenue":
			revenue := 0
			for _, card := range cardsOf(x.list) {
				revenue += dueBy(billsBy(x, card))
			}
			answer = strconv.Itoa(revenue)
		}
		answers = append(answers, answer)
	}
	return answers, sorted(taps)
}

// drawnWay returns a way in or out at a minute, most of the time of a card that goes in and out in turns.
func drawnWay(n *numbers, inside map[int]bool, minute int) string {
	card, stop := []int{0, 1, 99}[n.below(1+n.below(3))], n.below(4)
	if n.below(8) == 0 {
		inside[card] = !inside[card]
	}
	way := "in"
	if inside[card] {
		way = "out"
	}
	inside[card] = !inside[card]
	return strings.Join([]string{way, strconv.Itoa(card), strconv.Itoa(minute), strconv.Itoa(stop)}, " ")
}

// drawnQuestion returns a question for a card, or for a minute near another one.
func drawnQuestion(n *numbers, minute int) string {
	card := strconv.Itoa([]int{0, 1, 99, 50}[n.below(4)])
	near := strconv.Itoa(max(0, minute-200+n.below(400)))
	return []string{"due " + card, "bill " + card, "people " + strconv.Itoa(minute), "people " + near, "revenue"}[n.below(5)]
}

// broken returns a line that may not be a command any more, or one whose numbers are none.
func broken(n *numbers, line string) string {
	words := strings.Split(line, " ")
	at := n.below(len(words))
	switch n.below(6) {
	case 0:
		return almostCommands[n.below(len(almostCommands))]
	case 1:
		words[at] = almostNumbers[n.below(len(almostNumbers))]
	case 2:
		words = slices.Insert(words, at, "")
	case 3:
		words = without(words, at)
	case 4:
		words = append(words, []string{"", "1"}[n.below(2)])
	case 5:
		words[at] = []string{"4", "9", "10", "100", "40319", "40320", "99999"}[n.below(7)]
	}
	return strings.Join(words, " ")
}

// drawnSession returns lines: ways in and out at minutes that rise, or come late, questions, and lines that are almost commands.
func drawnSession(n *numbers, count int) []string {
	inside := map[int]bool{}
	now, spread := []int{0, 400 + 1440*n.below(10), n.below(36000)}[n.below(3)], []int{1, 15, 30, 60, 250, 1600}[n.below(6)]
	questions, mistakes := 1+n.below(6), 2+n.below(20)
	list := make([]string, count)
	for i := range list {
		minute := now
		if n.below(6) == 0 {
			minute = max(0, now-n.below(200))
		}
		if n.below(questions) == 1 {
			list[i] = drawnQuestion(n, minute)
		} else {
			list[i] = drawnWay(n, inside, min(minute, 40319))
		}
		if n.below(mistakes) == 0 {
			list[i] = broken(n, list[i])
		}
		now += n.below(spread)
	}
	return list
}

// sessions returns the lines of drawn sessions, with up to 30 lines each.
func sessions() [][]string {
	n := &numbers{state: 125}
	lists := [][]string{nil, {}, {""}, {"revenue"}, almostCommands}
	for i := range 2000 {
		lists = append(lists, drawnSession(n, i%31))
	}
	return lists
}
