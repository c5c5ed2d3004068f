package impl

// DayMinutes is the number of minutes of a day.
const DayMinutes = 1440

// DayBegin is the minute of a day at which a service day begins.
const DayBegin = 240

// MaxMinute is the last minute.
const MaxMinute = 40319

// MaxDay is the last service day.
const MaxDay = 28

// MaxBands is the largest number of bands.
const MaxBands = 3

const (
	weekDays = 7
	workDays = 5
)

// Band is a part of a day.
type Band struct {
	From int
	To   int
}

// moment is a minute counted from the beginning of time.
type moment int

// serviceDay is a service day.
type serviceDay int

func (m moment) valid() bool {
	return m >= 0 && m <= MaxMinute
}

// day adds a day before dividing, so that the first night counts as day 0.
func (m moment) day() serviceDay {
	return serviceDay((m + DayMinutes - DayBegin) / DayMinutes)
}

func (m moment) clock() int {
	return int(m % DayMinutes)
}

func (d serviceDay) valid() bool {
	return d >= 0 && d <= MaxDay
}

func (d serviceDay) week() int {
	return int(d / weekDays)
}

func (d serviceDay) isWorkday() bool {
	return d%weekDays < workDays
}

// start is 0 for day 0, as DayBegin of the day before lies in front of all times.
func (d serviceDay) start() moment {
	if d == 0 {
		return 0
	}
	return moment(d-1)*DayMinutes + DayBegin
}

func (b Band) valid() bool {
	return b.From >= 0 && b.From < b.To && b.To <= DayMinutes
}

func (b Band) has(clock int) bool {
	return b.From <= clock && clock < b.To
}

// validBands lets a band begin where the one before it ends, as To itself is outside of a band.
func validBands(list []Band) bool {
	if len(list) > MaxBands {
		return false
	}
	free := 0
	for _, b := range list {
		if !b.valid() || b.From < free {
			return false
		}
		free = b.To
	}
	return true
}

// ServiceDay returns the service day of a minute; -1 if there is none.
func ServiceDay(minute int) int {
	m := moment(minute)
	if !m.valid() {
		return -1
	}
	return int(m.day())
}

// WeekOf returns the week of a service day; -1 if there is none.
func WeekOf(day int) int {
	d := serviceDay(day)
	if !d.valid() {
		return -1
	}
	return d.week()
}

// DayStart returns the first minute of a service day; -1 if there is none.
func DayStart(day int) int {
	d := serviceDay(day)
	if !d.valid() {
		return -1
	}
	return int(d.start())
}

// IsPeak reports whether a minute of a workday is in one of valid bands.
func IsPeak(list []Band, minute int) bool {
	m := moment(minute)
	if !m.valid() || !validBands(list) || !m.day().isWorkday() {
		return false
	}
	for _, b := range list {
		if b.has(m.clock()) {
			return true
		}
	}
	return false
}
