package cert_test

import (
	"math"
	"math/rand"
	"sort"
	"strconv"
	"testing"
	"time"

	"cresset/api"
	"cresset/cert"
)

const lastTime = 253402300799

// checkTime holds Time against what it should answer.
func checkTime(t *testing.T, n int, want string) {
	t.Helper()
	if s, e := cert.Time(n); s != want || e != api.OK {
		t.Errorf("Time(%d): %q and %v, not %q", n, s, e, want)
	}
}

// timeText is Time of a time that is one.
func timeText(t testing.TB, n int) string {
	s, e := cert.Time(n)
	if e != api.OK {
		t.Fatalf("Time(%d): %v", n, e)
	}
	return s
}

// libraryTime is Time of the Go library.
func libraryTime(n int) string {
	return time.Unix(int64(n), 0).UTC().Format("20060102150405Z")
}

// P14.1: the chapter's examples, and numbers that are times and that are none.
func TestTimeEdges(t *testing.T) {
	checkTime(t, 0, "19700101000000Z")
	checkTime(t, 951782400, "20000229000000Z")
	checkTime(t, lastTime, "99991231235959Z")
	for n, want := range map[int]string{
		1: "19700101000001Z", 9: "19700101000009Z", 10: "19700101000010Z", 59: "19700101000059Z", 60: "19700101000100Z", 61: "19700101000101Z",
		3599: "19700101005959Z", 3600: "19700101010000Z", 35999: "19700101095959Z", 36000: "19700101100000Z", 43200: "19700101120000Z",
		86399: "19700101235959Z", 86400: "19700102000000Z", 2678399: "19700131235959Z", 2678400: "19700201000000Z",
		31535999: "19701231235959Z", 31536000: "19710101000000Z", 946684799: "19991231235959Z", 946684800: "20000101000000Z",
		1<<31 - 1: "20380119031407Z", 1 << 31: "20380119031408Z", 1<<32 - 1: "21060207062815Z", 1 << 32: "21060207062816Z",
		2524607999: "20491231235959Z", 2524608000: "20500101000000Z", lastTime - 1: "99991231235958Z", lastTime - 86399: "99991231000000Z", lastTime - 86400: "99991230235959Z",
	} {
		checkTime(t, n, want)
	}
	for _, n := range []int{-1, -2, -60, -86400, -1 << 31, -1 << 32, math.MinInt, math.MinInt + 1, -lastTime, lastTime + 1, lastTime + 2, lastTime + 86400, 253402300800, 1 << 38, 1 << 62, math.MaxInt, math.MaxInt - 1} {
		if s, e := cert.Time(n); s != "" || e != api.ErrArg {
			t.Errorf("Time(%d): %q, %v", n, s, e)
		}
	}
}

// P14.1: the end of February in years of each kind, written out.
func TestFebruaries(t *testing.T) {
	for _, c := range []struct {
		year   string
		march  int // the first second of March
		isLeap bool
	}{
		{"1970", 5097600, false}, {"1971", 36633600, false}, {"1972", 68256000, true}, {"1973", 99792000, false}, {"1996", 825638400, true}, {"1999", 920246400, false},
		{"2000", 951868800, true}, {"2001", 983404800, false}, {"2004", 1078099200, true}, {"2023", 1677628800, false}, {"2024", 1709251200, true},
		{"2096", 3981398400, true}, {"2100", 4107542400, false}, {"2104", 4233772800, true}, {"2200", 7263216000, false}, {"2300", 10418889600, false}, {"2400", 13574649600, true}, {"2500", 16730323200, false},
		{"2800", 26197430400, true}, {"9600", 240784704000, true}, {"9900", 250251724800, false}, {"9996", 253281254400, true}, {"9999", 253375862400, false},
	} {
		last := "28"
		if c.isLeap {
			last = "29"
			checkTime(t, c.march-2*86400, c.year+"0228000000Z")
			checkTime(t, c.march-86401, c.year+"0228235959Z")
		}
		checkTime(t, c.march-86400, c.year+"02"+last+"000000Z")
		checkTime(t, c.march-1, c.year+"02"+last+"235959Z")
		checkTime(t, c.march, c.year+"0301000000Z")
		checkTime(t, c.march+86399, c.year+"0301235959Z")
	}
}

// padded is a number of two digits.
func padded(n int) string {
	if n < 10 {
		return "0" + strconv.Itoa(n)
	}
	return strconv.Itoa(n)
}

// P14.1: the first and the last second of every day of all years, which a
// calendar counts that goes on day by day.
func TestEveryDay(t *testing.T) {
	lengths := []int{31, 28, 31, 30, 31, 30, 31, 31, 30, 31, 30, 31}
	n := 0
	for year := 1970; year <= 9999; year++ {
		for m, length := range lengths {
			if m == 1 && (year%400 == 0 || year%4 == 0 && year%100 != 0) {
				length++
			}
			for day := 1; day <= length; day++ {
				date := strconv.Itoa(year) + padded(m+1) + padded(day)
				if first, last := timeText(t, n), timeText(t, n+86399); first != date+"000000Z" || last != date+"235959Z" {
					t.Errorf("%s: %s and %s", date, first, last)
				}
				n += 86400
			}
		}
	}
	if n != lastTime+1 {
		t.Errorf("%d seconds", n)
	}
}

// P14.1: every second of a day.
func TestEverySecond(t *testing.T) {
	n := 951782400
	for hour := range 24 {
		for minute := range 60 {
			for second := range 60 {
				checkTime(t, n, "20000229"+padded(hour)+padded(minute)+padded(second)+"Z")
				n++
			}
		}
	}
}

// P14.1: times without a pattern, which the Go library writes alike.
func TestTimeLikeLibrary(t *testing.T) {
	source := rand.New(rand.NewSource(1))
	for range 200000 {
		n := source.Intn(lastTime + 1)
		checkTime(t, n, libraryTime(n))
		n >>= source.Intn(38)
		checkTime(t, n, libraryTime(n))
	}
}

// P14.4: the results compare as strings like the times, be they neighbours or
// far apart, and so they are different for different times.
func TestTimesCompareLikeStrings(t *testing.T) {
	source := rand.New(rand.NewSource(2))
	times := []int{0, 1, lastTime - 1, lastTime}
	for _, step := range []int{60, 3600, 86400, 31536000} {
		for i := 1; i < 1000; i++ {
			times = append(times, i*step-1, i*step)
		}
	}
	for range 20000 {
		n := source.Intn(lastTime)
		times = append(times, n, n+1)
	}
	sort.Ints(times)
	for i, n := range times[1:] {
		before, after := timeText(t, times[i]), timeText(t, n)
		if (before < after) != (times[i] < n) || (before == after) != (times[i] == n) || len(after) != 15 {
			t.Errorf("%d and %d: %s and %s", times[i], n, before, after)
		}
	}
	for range 20000 {
		a, b := times[source.Intn(len(times))], times[source.Intn(len(times))]
		if (timeText(t, a) < timeText(t, b)) != (a < b) {
			t.Errorf("%d and %d: %s and %s", a, b, timeText(t, a), timeText(t, b))
		}
	}
}

func BenchmarkTime(b *testing.B) {
	for b.Loop() {
		timeText(b, lastTime)
	}
}
