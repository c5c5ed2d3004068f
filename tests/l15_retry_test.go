package tests

import (
	"math"
	"slices"
	"testing"

	"loop.example/transitfares/impl"
)

func TestLimitsOfTriesAreThoseOfTheDocument(t *testing.T) {
	if impl.MaxWait != 1440 || impl.MaxTries != 4 || impl.MaxMinute != 40319 {
		t.Errorf("MaxWait = %d, MaxTries = %d, MaxMinute = %d", impl.MaxWait, impl.MaxTries, impl.MaxMinute)
	}
}

func TestWaitBeforeSomeTries(t *testing.T) {
	for _, c := range []struct{ first, try, want int }{
		{1, 1, 1}, {1, 2, 2}, {1, 3, 4}, {1, 4, 8},
		{10, 1, 10}, {10, 2, 20}, {10, 3, 40}, {10, 4, 80},
		{180, 3, 720}, {180, 4, 1440}, {181, 3, 724}, {181, 4, 1440}, {179, 4, 1432},
		{360, 2, 720}, {360, 3, 1440}, {360, 4, 1440}, {361, 2, 722}, {361, 3, 1440}, {359, 3, 1436},
		{500, 1, 500}, {500, 2, 1000}, {500, 3, 1440}, {500, 4, 1440},
		{720, 1, 720}, {720, 2, 1440}, {720, 3, 1440}, {719, 2, 1438}, {721, 2, 1440},
		{1439, 1, 1439}, {1439, 2, 1440}, {1440, 1, 1440}, {1440, 2, 1440}, {1440, 4, 1440},
		{0, 1, -1}, {1441, 1, -1}, {-1, 1, -1}, {500, 0, -1}, {500, 5, -1}, {500, -1, -1}, {0, 0, -1}, {1441, 5, -1},
	} {
		if got := impl.WaitBefore(c.first, c.try); got != c.want {
			t.Errorf("WaitBefore(%d, %d) = %d, want %d", c.first, c.try, got, c.want)
		}
	}
}

func TestP93WaitsBecomeLonger(t *testing.T) {
	for first := 1; first <= 1440; first++ {
		before := first
		for try := 1; try <= 4; try++ {
			wait := impl.WaitBefore(first, try)
			if wait != waitBy(first, try) || wait < before || wait > 2*before || wait > 1440 || try == 1 && wait != first {
				t.Fatalf("WaitBefore(%d, %d) = %d, before %d", first, try, wait, before)
			}
			before = wait
		}
	}
}

func TestP157LongerFirstWaitsAreNotShorterLater(t *testing.T) {
	for try := 1; try <= 4; try++ {
		before := 0
		for first := 1; first <= 1440; first++ {
			wait := impl.WaitBefore(first, try)
			if wait < before || wait == before && wait != 1440 {
				t.Fatalf("WaitBefore(%d, %d) = %d, and %d for a shorter one", first, try, wait, before)
			}
			before = wait
		}
		if before != 1440 {
			t.Errorf("WaitBefore(1440, %d) = %d", try, before)
		}
	}
}

func TestWaitBeforeOfInvalidArguments(t *testing.T) {
	for first := -20; first <= 1500; first++ {
		for try := -5; try <= 10; try++ {
			valid := first >= 1 && first <= 1440 && try >= 1 && try <= 4
			if got := impl.WaitBefore(first, try); (got == -1) == valid {
				t.Errorf("WaitBefore(%d, %d) = %d", first, try, got)
			}
		}
	}
	for _, first := range badWaits {
		for try := 1; try <= 4; try++ {
			checkNoWait(t, first, try)
		}
		for _, try := range badTries {
			checkNoWait(t, first, try)
		}
	}
	for _, try := range badTries {
		for _, first := range firstWaits {
			checkNoWait(t, first, try)
		}
	}
}

// checkNoWait checks that WaitBefore returns -1.
func checkNoWait(t *testing.T, first int, try int) {
	t.Helper()
	if got := impl.WaitBefore(first, try); got != -1 {
		t.Errorf("WaitBefore(%d, %d) = %d", first, try, got)
	}
}

func TestTriesOfSomeMinutes(t *testing.T) {
	for _, c := range []struct {
		name         string
		begin, first int
		want         []int
	}{
		{"the shortest waits", 0, 1, []int{1, 3, 7, 15}},
		{"waits of ten", 0, 10, []int{10, 30, 70, 150}},
		{"a later begin", 1000, 10, []int{1010, 1030, 1070, 1150}},
		{"the longest waits", 0, 1440, []int{1440, 2880, 4320, 5760}},
		{"waits that would pass MaxWait", 100, 500, []int{600, 1600, 3040, 4480}},
		{"the last wait is MaxWait", 0, 180, []int{180, 540, 1260, 2700}},
		{"the last try at MaxMinute", 40304, 1, []int{40305, 40307, 40311, 40319}},
		{"the last try a minute behind it", 40305, 1, []int{40306, 40308, 40312}},
		{"the third try at MaxMinute", 40312, 1, []int{40313, 40315, 40319}},
		{"the third try a minute behind it", 40313, 1, []int{40314, 40316}},
		{"the second try at MaxMinute", 40316, 1, []int{40317, 40319}},
		{"the second try a minute behind it", 40317, 1, []int{40318}},
		{"the first try at MaxMinute", 40318, 1, []int{40319}},
		{"the first try a minute behind it", 40319, 1, nil},
		{"long waits up to MaxMinute", 34559, 1440, []int{35999, 37439, 38879, 40319}},
		{"long waits a minute behind it", 34560, 1440, []int{36000, 37440, 38880}},
		{"one try in ten", 40300, 10, []int{40310}},
		{"one long wait", 38879, 1440, []int{40319}},
		{"too long a wait", 38880, 1440, nil},
		{"no time", 40319, 1440, nil},
		{"a negative begin", -1, 10, nil},
		{"a begin behind the end", 40320, 10, nil},
		{"no wait", 0, 0, nil},
		{"a wait too long", 0, 1441, nil},
	} {
		if got := impl.TriesOf(c.begin, c.first); !slices.Equal(got, c.want) {
			t.Errorf("%s: TriesOf(%d, %d) = %v, want %v", c.name, c.begin, c.first, got, c.want)
		}
	}
}

func TestP94TriesAreWaitsApart(t *testing.T) {
	count := map[int]int{}
	for first := 1; first <= 1440; first++ {
		for _, begin := range begins {
			list := impl.TriesOf(begin, first)
			if want := triesBy(begin, first); !slices.Equal(list, want) {
				t.Fatalf("TriesOf(%d, %d) = %v, want %v", begin, first, list, want)
			}
			before := begin
			for i, minute := range list {
				if minute-before != impl.WaitBefore(first, i+1) || minute > 40319 {
					t.Fatalf("TriesOf(%d, %d) = %v", begin, first, list)
				}
				before = minute
			}
			if len(list) < 4 && before+impl.WaitBefore(first, len(list)+1) <= 40319 {
				t.Fatalf("TriesOf(%d, %d) = %v, without one that is possible", begin, first, list)
			}
			count[len(list)]++
		}
	}
	for many := range 5 {
		if count[many] < 500 {
			t.Errorf("only %d times there were %d tries", count[many], many)
		}
	}
}

func TestP95LaterBeginningsHaveLaterTries(t *testing.T) {
	for _, first := range firstWaits {
		for begin := range 40319 {
			want := impl.TriesOf(begin, first)
			for i := range want {
				want[i]++
			}
			if last := len(want) - 1; last >= 0 && want[last] == 40320 {
				want = want[:last]
			}
			if got := impl.TriesOf(begin+1, first); !slices.Equal(got, want) {
				t.Fatalf("TriesOf(%d, %d) = %v, want %v", begin+1, first, got, want)
			}
		}
	}
}

func TestNextTryOfSomeMinutes(t *testing.T) {
	for _, c := range []struct {
		name                 string
		begin, first, minute int
		want                 int
	}{
		{"at the begin", 1000, 10, 1000, 1010},
		{"before the begin", 1000, 10, 999, 1010},
		{"at 0", 1000, 10, 0, 1010},
		{"before 0", 1000, 10, -1, 1010},
		{"the least minute", 1000, 10, math.MinInt, 1010},
		{"a minute before the first one", 1000, 10, 1009, 1010},
		{"at the first one", 1000, 10, 1010, 1010},
		{"a minute behind the first one", 1000, 10, 1011, 1030},
		{"at the second one", 1000, 10, 1030, 1030},
		{"a minute behind the second one", 1000, 10, 1031, 1070},
		{"at the third one", 1000, 10, 1070, 1070},
		{"a minute behind the third one", 1000, 10, 1071, 1150},
		{"a minute before the last one", 1000, 10, 1149, 1150},
		{"at the last one", 1000, 10, 1150, 1150},
		{"a minute behind the last one", 1000, 10, 1151, -1},
		{"at the end of time", 1000, 10, 40319, -1},
		{"behind the end of time", 1000, 10, 40320, -1},
		{"the greatest minute", 1000, 10, math.MaxInt, -1},
		{"the last try at the end of time", 40304, 1, 40312, 40319},
		{"at the end of time that is a try", 40304, 1, 40319, 40319},
		{"behind the end of time that is a try", 40304, 1, 40320, -1},
		{"a try behind the end of time", 40305, 1, 40313, -1},
		{"no tries", 40319, 1, 0, -1},
		{"no tries, before 0", 40319, 1440, -1, -1},
		{"a negative begin", -1, 10, 0, -1},
		{"a begin behind the end", 40320, 10, 0, -1},
		{"no wait", 0, 0, 0, -1},
		{"a wait too long", 0, 1441, 0, -1},
	} {
		if got := impl.NextTry(c.begin, c.first, c.minute); got != c.want {
			t.Errorf("%s: NextTry(%d, %d, %d) = %d, want %d", c.name, c.begin, c.first, c.minute, got, c.want)
		}
	}
}

func TestP96TheNextTryIsTheFirstOne(t *testing.T) {
	found, none := 0, 0
	for _, begin := range begins {
		for _, first := range firstWaits {
			tries := impl.TriesOf(begin, first)
			for _, minute := range minutesAround(begin, tries) {
				got := impl.NextTry(begin, first, minute)
				behind := slices.DeleteFunc(slices.Clone(tries), func(try int) bool { return try < minute })
				want := -1
				if len(behind) > 0 {
					want = behind[0]
				}
				if got != want {
					t.Fatalf("NextTry(%d, %d, %d) = %d, and TriesOf = %v", begin, first, minute, got, tries)
				}
				if got < 0 {
					none++
				} else {
					found++
				}
			}
		}
	}
	if found < 3000 || none < 3000 {
		t.Errorf("only %d tries are behind the minute, and %d times none", found, none)
	}
}

func TestP158TriesComeToAnEnd(t *testing.T) {
	for _, begin := range begins {
		for _, first := range firstWaits {
			var got []int
			for minute := begin; len(got) < 6; {
				try := impl.NextTry(begin, first, minute)
				if try == -1 {
					break
				}
				if try < minute {
					t.Fatalf("NextTry(%d, %d, %d) = %d", begin, first, minute, try)
				}
				got = append(got, try)
				minute = try + 1
			}
			if want := triesBy(begin, first); !slices.Equal(got, want) {
				t.Fatalf("NextTry(%d, %d) again and again = %v, want %v", begin, first, got, want)
			}
		}
	}
}

func TestTriesOfInvalidArguments(t *testing.T) {
	for _, begin := range begins {
		for _, first := range badWaits {
			checkNoTries(t, begin, first)
		}
	}
	for _, begin := range badMinutes {
		for _, first := range append(slices.Clone(firstWaits), badWaits...) {
			checkNoTries(t, begin, first)
		}
	}
	for begin := -1500; begin < 0; begin++ {
		checkNoTries(t, begin, 1440)
	}
}

// checkNoTries checks that TriesOf returns nil and NextTry -1.
func checkNoTries(t *testing.T, begin int, first int) {
	t.Helper()
	if got := impl.TriesOf(begin, first); got != nil {
		t.Errorf("TriesOf(%d, %d) = %v", begin, first, got)
	}
	for _, minute := range []int{math.MinInt, -1, 0, begin, 40319, math.MaxInt} {
		if got := impl.NextTry(begin, first, minute); got != -1 {
			t.Errorf("NextTry(%d, %d, %d) = %d", begin, first, minute, got)
		}
	}
}

func TestTriesAreNewMemory(t *testing.T) {
	for _, begin := range begins {
		for _, first := range firstWaits {
			got := impl.TriesOf(begin, first)
			fill(impl.TriesOf(begin, first), -9)
			if want := triesBy(begin, first); !slices.Equal(got, want) {
				t.Fatalf("TriesOf(%d, %d) = %v behind a change of a later result", begin, first, got)
			}
			fill(got, -9)
			if next, want := impl.NextTry(begin, first, begin), triesBy(begin, first); len(want) > 0 && next != want[0] {
				t.Fatalf("NextTry(%d, %d, %d) = %d behind a change of a result", begin, first, begin, next)
			}
		}
	}
}
