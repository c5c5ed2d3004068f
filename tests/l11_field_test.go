package tests

import (
	"bytes"
	"math"
	"slices"
	"testing"

	"loop.example/transitfares/impl"
)

// mustPack returns PackDigits, which has to succeed.
func mustPack(t *testing.T, n int, digits int) []byte {
	t.Helper()
	b, ok := impl.PackDigits(n, digits)
	if !ok {
		t.Fatalf("PackDigits(%d, %d) = %x, %v", n, digits, b, ok)
	}
	return b
}

// mustUnpack returns UnpackDigits, which has to succeed.
func mustUnpack(t *testing.T, b []byte) int {
	t.Helper()
	n := impl.UnpackDigits(b)
	if n < 0 {
		t.Fatalf("UnpackDigits(%x) = %d", b, n)
	}
	return n
}

// mustFormat returns FormatMsg, which has to succeed.
func mustFormat(t *testing.T, m impl.Msg) []byte {
	t.Helper()
	b := impl.FormatMsg(m)
	if len(b) == 0 {
		t.Fatalf("FormatMsg(%v) = %x", m, b)
	}
	return b
}

// packable returns numbers: small ones, those around each power of ten, and drawn ones.
func packable() []int {
	var list []int
	for n := range 12000 {
		list = append(list, n)
	}
	for power := 10000; power <= 100000000; power *= 10 {
		list = append(list, power-2, power-1)
		if power < 100000000 {
			list = append(list, power, power+1, 9*power, power+power/10)
		}
	}
	n := &numbers{state: 11}
	for range 3000 {
		list = append(list, drawnValue(n))
	}
	return list
}

func TestLimitsOfMessagesAreThoseOfTheDocument(t *testing.T) {
	if impl.MaxPacked != 99999999 || impl.MaxField != 16 {
		t.Errorf("MaxPacked = %d, MaxField = %d", impl.MaxPacked, impl.MaxField)
	}
}

func TestPackDigitsOfSomeNumbers(t *testing.T) {
	for _, c := range []struct {
		n, digits int
		want      string
	}{
		{0, 2, "00"}, {0, 4, "0000"}, {0, 6, "000000"}, {0, 8, "00000000"},
		{7, 2, "07"}, {7, 8, "00000007"}, {10, 2, "10"}, {42, 4, "0042"}, {90, 2, "90"}, {99, 2, "99"},
		{100, 4, "0100"}, {305, 4, "0305"}, {1234, 4, "1234"}, {9999, 4, "9999"}, {9999, 6, "009999"},
		{10000, 6, "010000"}, {999999, 6, "999999"}, {999999, 8, "00999999"},
		{1000000, 8, "01000000"}, {10203040, 8, "10203040"}, {12345678, 8, "12345678"}, {99999999, 8, "99999999"},
	} {
		if got, ok := impl.PackDigits(c.n, c.digits); !ok || !bytes.Equal(got, bytesOf(c.want)) {
			t.Errorf("PackDigits(%d, %d) = %x, %v, want %s", c.n, c.digits, got, ok, c.want)
		}
	}
}

func TestPackDigitsOfAllNumbersOfDigits(t *testing.T) {
	counts := []int{math.MinInt, math.MinInt + 1, math.MaxInt - 1, math.MaxInt, -100, 100}
	for digits := -20; digits <= 20; digits++ {
		counts = append(counts, digits)
	}
	packed := 0
	for _, n := range append([]int{-1, -2, -42, 100000000, 100000001, 4294967296, math.MinInt, math.MaxInt}, packable()[11000:]...) {
		for _, digits := range counts {
			most, even := mostPacked[digits]
			got, ok := impl.PackDigits(n, digits)
			if want := even && 0 <= n && n <= most; ok != want {
				t.Fatalf("PackDigits(%d, %d) = %x, %v", n, digits, got, ok)
			}
			if !ok && got != nil {
				t.Fatalf("PackDigits(%d, %d) fails with %x", n, digits, got)
			}
			if ok && !bytes.Equal(got, digitsBy(n, digits)) {
				t.Fatalf("PackDigits(%d, %d) = %x", n, digits, got)
			}
			if ok {
				packed++
			}
		}
	}
	if packed < 1000 {
		t.Errorf("only %d numbers were packed", packed)
	}
}

// The greatest number of each number of digits, and one more.
func TestPackDigitsWithOneDigitTooMany(t *testing.T) {
	for digits, most := range mostPacked {
		if got := mustPack(t, most, digits); !bytes.Equal(got, bytes.Repeat([]byte{0x99}, digits/2)) {
			t.Errorf("PackDigits(%d, %d) = %x", most, digits, got)
		}
		if got, ok := impl.PackDigits(most+1, digits); ok || got != nil {
			t.Errorf("PackDigits(%d, %d) = %x, %v", most+1, digits, got, ok)
		}
		if got, ok := impl.PackDigits(0, digits); !ok || !bytes.Equal(got, make([]byte, digits/2)) {
			t.Errorf("PackDigits(0, %d) = %x, %v", digits, got, ok)
		}
	}
}

func TestP67PackedDigitsCanBeUnpacked(t *testing.T) {
	for _, n := range packable() {
		for digits, most := range mostPacked {
			if n > most {
				continue
			}
			if b := mustPack(t, n, digits); len(b) != digits/2 || impl.UnpackDigits(b) != n {
				t.Fatalf("UnpackDigits(%x) = %d, want %d", b, impl.UnpackDigits(b), n)
			}
		}
	}
}

func TestP68UnpackedDigitsCanBePacked(t *testing.T) {
	for _, n := range packable() {
		for digits, most := range mostPacked {
			if n > most {
				continue
			}
			b := digitsBy(n, digits)
			if got := mustPack(t, mustUnpack(t, b), 2*len(b)); !bytes.Equal(got, b) {
				t.Fatalf("PackDigits of UnpackDigits(%x) = %x", b, got)
			}
		}
	}
}

func TestP69BytesHaveTwoDigits(t *testing.T) {
	for _, n := range packable() {
		for size := 2; size <= 4; size++ {
			if n > mostPacked[2*size] {
				continue
			}
			b := digitsBy(n, 2*size)
			want := mustUnpack(t, b[:1])
			for range b[1:] {
				want *= 100
			}
			if want += mustUnpack(t, b[1:]); impl.UnpackDigits(b) != want || want != n {
				t.Fatalf("UnpackDigits(%x) = %d, want %d", b, impl.UnpackDigits(b), want)
			}
		}
	}
}

func TestP149ZerosArePutInFront(t *testing.T) {
	for _, n := range packable() {
		for _, digits := range []int{2, 4, 6} {
			if n > mostPacked[digits] {
				continue
			}
			short, long := mustPack(t, n, digits), mustPack(t, n, digits+2)
			if !bytes.Equal(long, append([]byte{0}, short...)) {
				t.Fatalf("PackDigits(%d, %d) = %x, and with two digits more %x", n, digits, short, long)
			}
		}
	}
}

// Every byte at every place of every number of bytes.
func TestUnpackDigitsOfAllBytes(t *testing.T) {
	for size := 1; size <= 6; size++ {
		for _, others := range []byte{0x00, 0x12, 0x99} {
			for at := range size {
				for value := range 256 {
					b := bytes.Repeat([]byte{others}, size)
					b[at] = byte(value)
					if got := impl.UnpackDigits(b); got != numberBy(b) {
						t.Fatalf("UnpackDigits(%x) = %d, want %d", b, got, numberBy(b))
					}
				}
			}
		}
	}
}

func TestUnpackDigitsOfInvalidBytes(t *testing.T) {
	list := [][]byte{nil, {}, make([]byte, 5), {0, 0, 0, 0, 1}, {1, 0, 0, 0, 0}, make([]byte, 200)}
	for _, digits := range []string{"0a", "a0", "9a", "a9", "ff", "0f", "f0", "000a", "00a0", "0a00", "a000", "0000000a", "a0000000", "123456a8", "aaaaaaaa", "0000000000"} {
		list = append(list, bytesOf(digits))
	}
	for _, b := range list {
		if got := impl.UnpackDigits(b); got != -1 {
			t.Errorf("UnpackDigits(%x) = %d", b, got)
		}
	}
}

func TestValidMsgWithinLimits(t *testing.T) {
	for _, m := range msgs() {
		if !impl.ValidMsg(m) {
			t.Errorf("ValidMsg(%v) = false", m)
		}
	}
	for kind := -100; kind <= 10100; kind++ {
		if got := impl.ValidMsg(msg(kind)); got != (0 <= kind && kind <= 9999) {
			t.Errorf("ValidMsg of type %d = %v", kind, got)
		}
	}
	for number := -20; number <= 40; number++ {
		if got := impl.ValidMsg(msg(100, field(number, 5))); got != (1 <= number && number <= 16) {
			t.Errorf("ValidMsg of field %d = %v", number, got)
		}
		for other := -2; other <= 18; other++ {
			if got := impl.ValidMsg(msg(100, field(number, 5), field(other, 5))); got != (1 <= number && number < other && other <= 16) {
				t.Errorf("ValidMsg of fields %d and %d = %v", number, other, got)
			}
		}
	}
}

func TestValidMsgOutsideOfLimits(t *testing.T) {
	for name, m := range invalidMsgs() {
		if impl.ValidMsg(m) {
			t.Errorf("%s: ValidMsg(%v) = true", name, m)
		}
	}
}

func TestP70MessagesCanLoseFields(t *testing.T) {
	for _, m := range msgs() {
		for count := range len(m.Fields) {
			if less := msg(m.Type, m.Fields[:count]...); !impl.ValidMsg(less) {
				t.Fatalf("ValidMsg(%v) = false, but not of %v", less, m)
			}
		}
	}
}

func TestFormatMsgOfSomeMessages(t *testing.T) {
	for _, c := range []struct {
		msg  impl.Msg
		want string
	}{
		{msg(0), "00000000"},
		{msg(7), "00070000"},
		{msg(9999), "99990000"},
		{msg(1234), "12340000"},
		{msg(100, field(2, 7), field(16, 12345678)), "0100400100000007" + "12345678"},
		{msg(100, field(1, 0)), "0100800000000000"},
		{msg(100, field(8, 99999999)), "0100010099999999"},
		{msg(100, field(9, 10)), "0100008000000010"},
		{msg(100, field(16, 305)), "0100000100000305"},
		{msg(420, field(1, 1), field(16, 2)), "0420800100000001" + "00000002"},
		{msg(420, field(4, 1), field(7, 20), field(10, 300), field(13, 4000)), "042012480000000100000020" + "0000030000004000"},
	} {
		b := bytesOf(c.want)
		if got := impl.FormatMsg(c.msg); !bytes.Equal(got, b) {
			t.Errorf("FormatMsg(%v) = %x, want %s", c.msg, got, c.want)
		}
		if got, ok := impl.ParseMsg(b); !ok || !sameMsg(got, c.msg) {
			t.Errorf("ParseMsg(%s) = %v, %v, want %v", c.want, got, ok, c.msg)
		}
	}
}

func TestFormatMsgOfAllFields(t *testing.T) {
	got := mustFormat(t, msg(9999, allFields(99999999, 0)...))
	if len(got) != 68 || !bytes.Equal(got, slices.Concat([]byte{0x99, 0x99, 0xff, 0xff}, bytes.Repeat([]byte{0x99}, 64))) {
		t.Errorf("FormatMsg of all fields = %x", got)
	}
}

func TestFormatMsgOfManyMessages(t *testing.T) {
	for _, m := range msgs() {
		if got := impl.FormatMsg(m); !bytes.Equal(got, formattedBy(m)) {
			t.Fatalf("FormatMsg(%v) = %x, want %x", m, got, formattedBy(m))
		}
	}
}

func TestP150MessagesWithoutFieldsAreShort(t *testing.T) {
	for kind := range 10000 {
		got := mustFormat(t, msg(kind))
		if len(got) != 4 || got[2] != 0 || got[3] != 0 || impl.UnpackDigits(got[:2]) != kind {
			t.Fatalf("FormatMsg of type %d without fields = %x", kind, got)
		}
	}
}

func TestFormatMsgOfInvalidMessages(t *testing.T) {
	for name, m := range invalidMsgs() {
		if got := impl.FormatMsg(m); got != nil {
			t.Errorf("%s: FormatMsg(%v) = %x", name, m, got)
		}
	}
}

func TestP71MessagesLoseNothing(t *testing.T) {
	for _, m := range msgs() {
		if got, ok := impl.ParseMsg(mustFormat(t, m)); !ok || !sameMsg(got, m) {
			t.Fatalf("ParseMsg of FormatMsg(%v) = %v, %v", m, got, ok)
		}
	}
}

// Some of the broken bytes are those of another message, and all others are those of none.
func TestP72MessagesHaveOneForm(t *testing.T) {
	n := &numbers{state: 72}
	count := map[bool]int{}
	for _, m := range msgs() {
		for _, b := range append(brokenBytes(n, formattedBy(m)), formattedBy(m)) {
			got, ok := impl.ParseMsg(b)
			want, wantOk := parsedBy(b)
			if ok != wantOk || !sameMsg(got, want) {
				t.Fatalf("ParseMsg(%x) = %v, %v, want %v, %v", b, got, ok, want, wantOk)
			}
			if ok && (!impl.ValidMsg(got) || !bytes.Equal(impl.FormatMsg(got), b)) {
				t.Fatalf("FormatMsg of ParseMsg(%x) = %x", b, impl.FormatMsg(got))
			}
			count[ok]++
		}
	}
	if count[true] < 1000 || count[false] < 10000 {
		t.Errorf("only %v bytes were those of messages", count)
	}
}

// sameValues returns a message whose fields are told by 16 binary digits, and all have the value 42.
func sameValues(set int) impl.Msg {
	m := msg(100)
	for number := 1; number <= 16; number++ {
		if set>>(16-number)%2 == 1 {
			m.Fields = append(m.Fields, field(number, 42))
		}
	}
	return m
}

// All sets of fields that a message may have, with as many values, and with too many or too few bytes.
func TestParseMsgOfAllSetsOfFields(t *testing.T) {
	value := bytesOf("00000042")
	for set := range 1 << 16 {
		b := []byte{0x01, 0x00, byte(set >> 8), byte(set)}
		want := sameValues(set)
		for range want.Fields {
			b = append(b, value...)
		}
		if got, ok := impl.ParseMsg(b); !ok || !sameMsg(got, want) {
			t.Fatalf("ParseMsg(%x) = %v, %v", b, got, ok)
		}
		for _, other := range [][]byte{b[:len(b)-1], slices.Concat(b, value), slices.Concat(b, value[:1])} {
			if got, ok := impl.ParseMsg(other); ok || !sameMsg(got, impl.Msg{}) {
				t.Fatalf("ParseMsg(%x) = %v, %v", other, got, ok)
			}
		}
	}
}

func TestParseMsgOfInvalidBytes(t *testing.T) {
	for _, digits := range []string{
		"", "01", "0100", "010000", "010040", "01004001000000", "0100400100000007123456", "010040010000000712345678" + "00",
		"0100000000", "01000000" + "00000000", "01008000", "0100800000", "01008000000000", "010080000000000000",
		"0a000000", "a0000000", "000a0000", "00a00000", "ffff0000",
		"010080000000000a", "01008000a0000000", "010080000000a000", "0100800000f00000",
		"01004001000000071234567a", "0100400100000a0712345678",
	} {
		if got, ok := impl.ParseMsg(bytesOf(digits)); ok || !sameMsg(got, impl.Msg{}) {
			t.Errorf("ParseMsg(%s) = %v, %v", digits, got, ok)
		}
	}
	for _, b := range [][]byte{nil, make([]byte, 5), make([]byte, 68), make([]byte, 1000), bytes.Repeat([]byte{0xff}, 68), bytes.Repeat([]byte{0x99}, 69)} {
		if got, ok := impl.ParseMsg(b); ok || !sameMsg(got, impl.Msg{}) {
			t.Errorf("ParseMsg(%x) = %v, %v", b, got, ok)
		}
	}
}

// A message of all fields whose bytes end too early, or go on too long.
func TestParseMsgOfAnotherLength(t *testing.T) {
	b := formattedBy(msg(9999, allFields(1, 6000001)...))
	for size := range 200 {
		got, ok := impl.ParseMsg(append(slices.Clone(b), make([]byte, 200)...)[:size])
		if ok != (size == 68) || !ok && !sameMsg(got, impl.Msg{}) {
			t.Errorf("ParseMsg of %d bytes = %v, %v", size, got, ok)
		}
	}
}

func TestP73FieldsAreFound(t *testing.T) {
	for _, m := range msgs() {
		want := map[int]int{}
		for _, f := range m.Fields {
			want[f.Number] = f.Value
		}
		for number := -3; number <= 20; number++ {
			value, there := want[number]
			if !there {
				value = -1
			}
			if got := impl.FieldOf(m, number); got != value {
				t.Fatalf("FieldOf(%v, %d) = %d, want %d", m, number, got, value)
			}
		}
		for _, number := range badFieldNumbers {
			if got := impl.FieldOf(m, number); got != -1 {
				t.Fatalf("FieldOf(%v, %d) = %d", m, number, got)
			}
		}
	}
}

func TestFieldOfInvalidMessages(t *testing.T) {
	for name, m := range invalidMsgs() {
		numbers := slices.Clone(badFieldNumbers)
		for _, f := range append(slices.Clone(m.Fields), field(4, 1), field(16, 1)) {
			numbers = append(numbers, f.Number)
		}
		for _, number := range numbers {
			if got := impl.FieldOf(m, number); got != -1 {
				t.Errorf("%s: FieldOf(%v, %d) = %d", name, m, number, got)
			}
		}
	}
}

func TestMessagesChangeNothing(t *testing.T) {
	for _, m := range anyMsgs() {
		m.Fields = widened(m.Fields, noField)
		before := whole(m.Fields)
		fill(impl.FormatMsg(m), 0xee)
		impl.ValidMsg(m)
		impl.FieldOf(m, 4)
		if !slices.Equal(before, whole(m.Fields)) {
			t.Fatalf("a call changed the fields %v to %v", before, whole(m.Fields))
		}
	}
	n := &numbers{state: 74}
	for _, m := range msgs() {
		for _, b := range append(brokenBytes(n, formattedBy(m)), formattedBy(m)) {
			b = widened(b, 0xee)
			before := whole(b)
			impl.UnpackDigits(b)
			got, _ := impl.ParseMsg(b)
			fill(got.Fields, noField)
			if !bytes.Equal(before, whole(b)) {
				t.Fatalf("a call changed the bytes %x to %x", before, whole(b))
			}
		}
	}
}

func TestMessagesAreNewMemory(t *testing.T) {
	for _, m := range msgs() {
		changing := msg(m.Type, widened(m.Fields, noField)...)
		b := impl.FormatMsg(changing)
		fill(changing.Fields, noField)
		if !bytes.Equal(b, formattedBy(m)) {
			t.Fatalf("FormatMsg(%v) = %x behind a change of the message", m, b)
		}
		got, _ := impl.ParseMsg(b)
		again, _ := impl.ParseMsg(b)
		fill(b, 0xee)
		fill(again.Fields, noField)
		if !sameMsg(got, m) {
			t.Fatalf("ParseMsg of FormatMsg(%v) = %v behind a change of the bytes, and of another result", m, got)
		}
		if other := impl.FormatMsg(m); !bytes.Equal(other, formattedBy(m)) {
			t.Fatalf("FormatMsg(%v) = %x behind a change of another result", m, other)
		}
	}
}

func TestPackedDigitsAreNewMemory(t *testing.T) {
	for digits, most := range mostPacked {
		for _, n := range []int{0, 1, 42, most} {
			got, other := mustPack(t, n, digits), mustPack(t, n, digits)
			fill(other, 0xee)
			if !bytes.Equal(got, digitsBy(n, digits)) || !bytes.Equal(mustPack(t, n, digits), got) {
				t.Errorf("PackDigits(%d, %d) = %x behind a change of another result", n, digits, got)
			}
		}
	}
}
