package tests

import (
	"encoding/hex"
	"fmt"
	"math"
	"regexp"
	"slices"
	"strconv"
	"strings"

	"loop.example/transitfares/impl"
)

// noField stands for what is not valid, so that it shows wherever it turns up.
var noField = impl.Field{Number: -1, Value: -2}

// mostPacked holds the greatest number of each number of digits.
var mostPacked = map[int]int{2: 99, 4: 9999, 6: 999999, 8: 99999999}

// badFieldNumbers are numbers that no field has.
var badFieldNumbers = []int{0, 17, -1, math.MinInt, math.MaxInt}

// badValues are values that no field has.
var badValues = []int{-1, 100000000, math.MinInt, math.MaxInt}

// msg returns a message.
func msg(kind int, fields ...impl.Field) impl.Msg {
	return impl.Msg{Type: kind, Fields: fields}
}

// field returns a field.
func field(number int, value int) impl.Field {
	return impl.Field{Number: number, Value: value}
}

// sameMsg reports whether two messages are equal.
func sameMsg(a impl.Msg, b impl.Msg) bool {
	return a.Type == b.Type && slices.Equal(a.Fields, b.Fields)
}

// bytesOf returns the bytes that hex digits stand for.
func bytesOf(digits string) []byte {
	b, err := hex.DecodeString(digits)
	if err != nil {
		panic(err)
	}
	return b
}

// digitsBy returns a number as digits, by writing it down.
func digitsBy(n int, digits int) []byte {
	return bytesOf(fmt.Sprintf("%0*d", digits, n))
}

// numberBy returns the number that bytes are, by reading their digits; -1 if they are none.
func numberBy(b []byte) int {
	digits := hex.EncodeToString(b)
	if len(b) == 0 || len(b) > 4 || strings.ContainsAny(digits, "abcdef") {
		return -1
	}
	n, err := strconv.Atoi(digits)
	if err != nil {
		panic(err)
	}
	return n
}

// formattedBy returns the bytes of a valid message, by writing down its digits.
func formattedBy(m impl.Msg) []byte {
	places := []byte(strings.Repeat("0", 16))
	values := ""
	for _, f := range m.Fields {
		places[f.Number-1] = '1'
		values += fmt.Sprintf("%08d", f.Value)
	}
	there, err := strconv.ParseUint(string(places), 2, 16)
	if err != nil {
		panic(err)
	}
	return bytesOf(fmt.Sprintf("%04d%04x", m.Type, there) + values)
}

// parsedBy returns the message that bytes are, by the form of their digits; false if they are none.
func parsedBy(b []byte) (impl.Msg, bool) {
	digits := hex.EncodeToString(b)
	if len(b) < 4 {
		return impl.Msg{}, false
	}
	places := fmt.Sprintf("%08b%08b", b[2], b[3])
	form := fmt.Sprintf("^[0-9]{4}[0-9a-f]{4}[0-9]{%d}$", 8*strings.Count(places, "1"))
	if !regexp.MustCompile(form).MatchString(digits) {
		return impl.Msg{}, false
	}
	m := msg(numberBy(b[:2]))
	for i, place := range places {
		if place == '1' {
			at := 4 + 4*len(m.Fields)
			m.Fields = append(m.Fields, field(i+1, numberBy(b[at:at+4])))
		}
	}
	return m, true
}

// allFields returns MaxField fields, the values of which are of a step of numbers.
func allFields(first int, step int) []impl.Field {
	fields := make([]impl.Field, 16)
	for i := range fields {
		fields[i] = field(i+1, first+step*i)
	}
	return fields
}

// drawnValue returns a value of a field; those with few digits are as likely as those with many.
func drawnValue(n *numbers) int {
	limit := 10
	for range n.below(8) {
		limit *= 10
	}
	// One number alone has too few bits for the greatest values.
	return (n.below(10000)*10000 + n.below(10000)) % limit
}

// drawnMsg returns a valid message that has each field with the same likelihood.
func drawnMsg(n *numbers) impl.Msg {
	m := msg(drawnValue(n) % 10000)
	every := 1 + n.below(6)
	for number := 1; number <= 16; number++ {
		if n.below(every) == 0 {
			m.Fields = append(m.Fields, field(number, drawnValue(n)))
		}
	}
	return m
}

// msgs returns valid messages: some by hand, those with one field, and drawn ones.
func msgs() []impl.Msg {
	list := []impl.Msg{
		{},
		{Fields: []impl.Field{}},
		msg(9999),
		msg(100, field(2, 7), field(16, 12345678)),
		msg(1, field(1, 0), field(16, 99999999)),
		msg(10, field(8, 5), field(9, 6)),
		msg(0, allFields(0, 0)...),
		msg(9999, allFields(99999999, 0)...),
		msg(4321, allFields(1, 6000001)...),
	}
	for number := 1; number <= 16; number++ {
		list = append(list, msg(number, field(number, 0)), msg(99*number, field(number, 99999999)), msg(0, field(number, 1234567)))
	}
	n := &numbers{state: 67}
	for range 300 {
		list = append(list, drawnMsg(n))
	}
	return list
}

// invalidFields returns fields that no message has, by what is wrong with them.
func invalidFields() map[string][]impl.Field {
	list := map[string][]impl.Field{
		"a number twice":        {field(5, 1), field(5, 2)},
		"a field twice":         {field(5, 1), field(5, 1)},
		"a number twice at end": {field(3, 1), field(4, 1), field(16, 2), field(16, 3)},
		"a number again":        {field(5, 1), field(6, 1), field(5, 2)},
		"numbers that fall":     {field(6, 1), field(5, 2)},
		"that fall at end":      {field(3, 1), field(16, 2), field(1, 3)},
		"that fall at first":    {field(8, 1), field(3, 2), field(9, 3)},
		"in reverse order":      turned(allFields(1, 1)),
		"one too many":          append(allFields(1, 1), field(17, 1)),
		"one twice":             append(allFields(1, 1), field(16, 1)),
		"many too many":         slices.Concat(allFields(1, 1), allFields(1, 1), allFields(1, 1)),
		"nothing in a field":    {{}},
	}
	for _, number := range badFieldNumbers {
		name := strconv.Itoa(number)
		list["number alone: "+name] = []impl.Field{field(number, 1)}
		list["number first: "+name] = []impl.Field{field(number, 1), field(4, 1), field(7, 1)}
		list["number last: "+name] = []impl.Field{field(4, 1), field(7, 1), field(number, 1)}
		list["number between: "+name] = []impl.Field{field(4, 1), field(number, 1), field(7, 1)}
	}
	for _, value := range badValues {
		name := strconv.Itoa(value)
		list["value alone: "+name] = []impl.Field{field(4, value)}
		list["value first: "+name] = []impl.Field{field(1, value), field(4, 1), field(7, 1)}
		list["value last: "+name] = []impl.Field{field(4, 1), field(7, 1), field(16, value)}
		list["value between: "+name] = []impl.Field{field(4, 1), field(5, value), field(7, 1)}
	}
	return list
}

// invalidMsgs returns messages that are not valid, by what is wrong with them.
func invalidMsgs() map[string]impl.Msg {
	list := map[string]impl.Msg{}
	for name, fields := range invalidFields() {
		list["fields: "+name] = msg(100, fields...)
	}
	for _, kind := range []int{-1, 10000, math.MinInt, math.MaxInt} {
		list["type "+strconv.Itoa(kind)] = msg(kind)
		list["type with fields "+strconv.Itoa(kind)] = msg(kind, field(4, 1), field(7, 1))
	}
	return list
}

// anyMsgs returns messages that are valid or not.
func anyMsgs() []impl.Msg {
	return withInvalid(msgs(), invalidMsgs())
}

// brokenBytes returns bytes that differ a little from those of a message; some of them are those of another one.
func brokenBytes(n *numbers, b []byte) [][]byte {
	var list [][]byte
	for size := range b {
		list = append(list, b[:size], b[size:])
	}
	for _, more := range []string{"00", "05", "f0", "0000", "12345678", "0000000000000000"} {
		list = append(list, slices.Concat(b, bytesOf(more)), slices.Concat(bytesOf(more), b))
	}
	for at := range b {
		for _, bit := range []byte{1, 8, 16, 128} {
			other := slices.Clone(b)
			other[at] ^= bit
			list = append(list, other)
		}
	}
	other := slices.Clone(b)
	other[n.below(len(b))] = byte(n.below(256))
	return append(list, other)
}
