package tests

import (
	"math"
	"reflect"
	"testing"

	"loop.example/transitfares/impl"
)

// peakDay is the midnight before a day without a weekend on either side.
const peakDay = impl.DayMinutes

// invalidBands returns bands of which none may be used, by what is wrong with them.
func invalidBands() map[string][]impl.Band {
	return map[string][]impl.Band{
		"From below the day":     {{From: -1, To: 600}},
		"From behind the day":    {{From: 1440, To: 1441}},
		"To behind the day":      {{From: 400, To: 1441}},
		"empty":                  {{From: 450, To: 450}},
		"To before From":         {{From: 600, To: 400}},
		"overlap by one minute":  {{From: 400, To: 500}, {From: 499, To: 600}},
		"the same band twice":    {{From: 400, To: 500}, {From: 400, To: 500}},
		"one within another":     {{From: 400, To: 600}, {From: 440, To: 460}},
		"out of order":           {{From: 900, To: 1000}, {From: 400, To: 500}},
		"overlap of the last":    {{From: 400, To: 500}, {From: 600, To: 700}, {From: 650, To: 800}},
		"overlap with the first": {{From: 400, To: 800}, {From: 800, To: 900}, {From: 700, To: 850}},
		"bad one at the end":     {{From: 400, To: 500}, {From: 600, To: 600}},
		"too many":               {{From: 400, To: 500}, {From: 500, To: 510}, {From: 510, To: 520}, {From: 520, To: 530}},
		"least numbers":          {{From: math.MinInt, To: math.MinInt + 1}},
		"greatest numbers":       {{From: math.MaxInt - 1, To: math.MaxInt}},
		"everything":             {{From: math.MinInt, To: math.MaxInt}},
	}
}

// validBands returns lists of bands that may be used.
func validBands() [][]impl.Band {
	return [][]impl.Band{
		nil,
		{},
		{{From: 420, To: 540}},
		{{From: 0, To: 1440}},
		{{From: 0, To: 1}},
		{{From: 1439, To: 1440}},
		{{From: 200, To: 300}},
		{{From: 400, To: 500}, {From: 500, To: 600}},
		{{From: 0, To: 240}, {From: 240, To: 700}, {From: 700, To: 1440}},
		{{From: 60, To: 90}, {From: 420, To: 540}, {From: 960, To: 1140}},
	}
}

// inBands tells which minutes of the clock are in bands, by marking them one by one.
func inBands(list []impl.Band) [impl.DayMinutes]bool {
	var marks [impl.DayMinutes]bool
	for _, b := range list {
		for m := b.From; m < b.To; m++ {
			marks[m] = true
		}
	}
	return marks
}

func TestServiceDayCountsFromDayBegin(t *testing.T) {
	day := 0
	for minute := range impl.MaxMinute + 1 {
		if minute%impl.DayMinutes == impl.DayBegin {
			day++
		}
		if got := impl.ServiceDay(minute); got != day {
			t.Fatalf("ServiceDay(%d) = %d, want %d", minute, got, day)
		}
	}
	if day != impl.MaxDay {
		t.Errorf("the last day is %d, want %d", day, impl.MaxDay)
	}
}

func TestServiceDayOfMinutesOutsideOfTime(t *testing.T) {
	for _, minute := range []int{-1, -240, -1200, -1201, -1440, impl.MaxMinute + 1, 2 * impl.MaxMinute, math.MinInt, math.MaxInt, math.MaxInt - 1200} {
		if got := impl.ServiceDay(minute); got != -1 {
			t.Errorf("ServiceDay(%d) = %d, want -1", minute, got)
		}
	}
}

func TestP1DaysAreLong(t *testing.T) {
	for minute := 0; minute+impl.DayMinutes <= impl.MaxMinute; minute++ {
		if a, b := impl.ServiceDay(minute), impl.ServiceDay(minute+impl.DayMinutes); b != a+1 {
			t.Fatalf("ServiceDay(%d) = %d, a day later %d", minute, a, b)
		}
	}
	for minute := range impl.MaxMinute {
		if a, b := impl.ServiceDay(minute), impl.ServiceDay(minute+1); b < a {
			t.Fatalf("ServiceDay(%d) = %d, a minute later %d", minute, a, b)
		}
	}
}

func TestP2DaysBeginAtTheirStarts(t *testing.T) {
	for minute := range impl.MaxMinute + 1 {
		day := impl.ServiceDay(minute)
		if start := impl.DayStart(day); start < 0 || start > minute {
			t.Fatalf("DayStart(%d) = %d is behind the minute %d", day, start, minute)
		}
		if day == impl.MaxDay {
			continue
		}
		if next := impl.DayStart(day + 1); next <= minute {
			t.Fatalf("DayStart(%d) = %d is not behind the minute %d", day+1, next, minute)
		}
	}
}

func TestP3WeeksHaveSevenDays(t *testing.T) {
	days := map[int]int{}
	for day := range impl.MaxDay + 1 {
		week := impl.WeekOf(day)
		days[week]++
		if day+7 <= impl.MaxDay && impl.WeekOf(day+7) != week+1 {
			t.Errorf("WeekOf(%d) = %d, seven days later %d", day, week, impl.WeekOf(day+7))
		}
	}
	if want := map[int]int{0: 7, 1: 7, 2: 7, 3: 7, 4: 1}; !reflect.DeepEqual(days, want) {
		t.Errorf("days of the weeks: %v, want %v", days, want)
	}
}

func TestP4StartsAreDaysApart(t *testing.T) {
	for day := range impl.MaxDay + 1 {
		start := impl.DayStart(day)
		if got := impl.ServiceDay(start); got != day {
			t.Errorf("ServiceDay(DayStart(%d)) = %d", day, got)
		}
		if day == 0 {
			continue
		}
		if got := impl.ServiceDay(start - 1); got != day-1 {
			t.Errorf("ServiceDay of the minute before DayStart(%d) = %d", day, got)
		}
	}
}

func TestDaysOutsideOfTime(t *testing.T) {
	for _, day := range []int{-1, -7, impl.MaxDay + 1, 100, math.MinInt, math.MaxInt} {
		if got := impl.WeekOf(day); got != -1 {
			t.Errorf("WeekOf(%d) = %d, want -1", day, got)
		}
		if got := impl.DayStart(day); got != -1 {
			t.Errorf("DayStart(%d) = %d, want -1", day, got)
		}
	}
}

func TestDayStartOfSomeDays(t *testing.T) {
	for day, want := range map[int]int{0: 0, 1: 240, 2: 1680, 3: 3120, 27: 37680, 28: 39120} {
		if got := impl.DayStart(day); got != want {
			t.Errorf("DayStart(%d) = %d, want %d", day, got, want)
		}
	}
}

func TestIsPeakAtEveryMinute(t *testing.T) {
	for _, bands := range validBands() {
		marks := inBands(bands)
		for minute := range impl.MaxMinute + 1 {
			want := marks[minute%impl.DayMinutes] && impl.ServiceDay(minute)%7 < 5
			if got := impl.IsPeak(bands, minute); got != want {
				t.Fatalf("IsPeak(%v, %d) = %v", bands, minute, got)
			}
		}
	}
}

func TestIsPeakAtEndsOfBands(t *testing.T) {
	bands := []impl.Band{{From: 420, To: 540}, {From: 540, To: 560}, {From: 1000, To: 1440}}
	for clock, want := range map[int]bool{0: false, 419: false, 420: true, 539: true, 540: true, 559: true, 560: false, 999: false, 1000: true, 1439: true} {
		if got := impl.IsPeak(bands, peakDay+clock); got != want {
			t.Errorf("IsPeak at %d of the day = %v", clock, got)
		}
	}
}

// The night between two days of the clock belongs to the service day that began before it.
func TestIsPeakInTheNightOfTheWeekend(t *testing.T) {
	night := []impl.Band{{From: 0, To: 1440}}
	for minute, want := range map[int]bool{
		0: true, 239: true, // day 0, in front of its DayBegin
		4*1440 + 239: true, 4*1440 + 240: false, // day 4 ends, day 5 begins
		6*1440 + 239: false, 6*1440 + 240: true, // day 6 ends, day 7 begins
		impl.MaxMinute: true, // day 28 is the first one of a week
	} {
		if got := impl.IsPeak(night, minute); got != want {
			t.Errorf("IsPeak(%d) = %v, on day %d", minute, got, impl.ServiceDay(minute))
		}
	}
}

func TestP5WeekendsHaveNoPeaks(t *testing.T) {
	for _, bands := range validBands() {
		marks := inBands(bands)
		for minute := 0; minute+6*impl.DayMinutes <= impl.MaxMinute; minute++ {
			days := 0
			for k := range 7 {
				if impl.IsPeak(bands, minute+k*impl.DayMinutes) {
					days++
				}
			}
			want := 0
			if marks[minute%impl.DayMinutes] {
				want = 5
			}
			if days != want {
				t.Fatalf("bands %v: %d peaks at minute %d on seven days, want %d", bands, days, minute, want)
			}
		}
	}
}

func TestP6BandsAddUp(t *testing.T) {
	for _, bands := range validBands() {
		for minute := range impl.MaxMinute + 1 {
			alone := 0
			for _, b := range bands {
				if impl.IsPeak([]impl.Band{b}, minute) {
					alone++
				}
			}
			if together := impl.IsPeak(bands, minute); alone > 1 || together != (alone == 1) {
				t.Fatalf("bands %v at %d: %v together, %d alone", bands, minute, together, alone)
			}
		}
	}
}

func TestIsPeakOfInvalidBands(t *testing.T) {
	for name, bands := range invalidBands() {
		for minute := range 2 * impl.DayMinutes {
			if impl.IsPeak(bands, minute) {
				t.Errorf("%s: IsPeak at %d", name, minute)
				break
			}
		}
	}
}

func TestIsPeakOutsideOfTime(t *testing.T) {
	bands := []impl.Band{{From: 0, To: 1440}}
	for _, minute := range []int{-1, -1440, -1000, impl.MaxMinute + 1, impl.MaxMinute + 1440, math.MinInt, math.MaxInt} {
		if impl.IsPeak(bands, minute) {
			t.Errorf("IsPeak at %d", minute)
		}
	}
}

func TestIsPeakKeepsBands(t *testing.T) {
	memory := []impl.Band{{From: 420, To: 540}, {From: 600, To: 700}, {From: 1, To: 2}, {From: 7, To: 5}}
	before := append([]impl.Band(nil), memory...)
	for minute := range 2 * impl.DayMinutes {
		impl.IsPeak(memory[:2], minute)
		impl.IsPeak(memory, minute)
	}
	if !reflect.DeepEqual(memory, before) {
		t.Errorf("IsPeak changed bands to %v", memory)
	}
}

func TestP127DaysAreEquallyLong(t *testing.T) {
	for day := 1; day < impl.MaxDay; day++ {
		if a, b := impl.DayStart(day), impl.DayStart(day+1); b-a != impl.DayMinutes {
			t.Errorf("DayStart(%d) = %d and DayStart(%d) = %d", day, a, day+1, b)
		}
	}
	if got := impl.DayStart(1) - impl.DayStart(0); got != impl.DayBegin {
		t.Errorf("day 0 has %d minutes, want %d", got, impl.DayBegin)
	}
}

func TestP167WeeksDoNotFall(t *testing.T) {
	if impl.WeekOf(0) != 0 {
		t.Errorf("WeekOf(0) = %d", impl.WeekOf(0))
	}
	for day := range impl.MaxDay {
		step := 0
		if (day+1)%7 == 0 {
			step = 1
		}
		if a, b := impl.WeekOf(day), impl.WeekOf(day+1); b-a != step {
			t.Errorf("WeekOf(%d) = %d and WeekOf(%d) = %d", day, a, day+1, b)
		}
	}
}
