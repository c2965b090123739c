package cert_test

import (
	"crypto/sha256"
	"encoding/hex"
	"math"
	"slices"
	"strings"
	"testing"

	"cresset/api"
	"cresset/cert"
	"cresset/sha"
)

// checkAllow holds Allow against what it should answer.
func checkAllow(t *testing.T, what, data string, now int, prints []string, want api.Errno) {
	t.Helper()
	if e := cert.Allow(data, now, prints...); e != want {
		t.Errorf("%s: Allow(%x, %d, %x): %v, not %v", what, data, now, prints, e, want)
	}
}

// P14.3: fingerprints of certificates and of anything else.
func TestPrint(t *testing.T) {
	for i, want := range []string{
		"af17815afe98464a84e545466614aa6c6e24e5e83c265c63ce6ee33cf2419c23",
		"7eb6674ba02060d48fc86b1a8942ab38b745c236a44dcef9137e053e172d24b0",
		"a0f42ad5e9c42c903e4cdc9822dc84344b4674bf735dbf2e78de5965e9298124",
		"e26c54043f0f2e63f838346f17a14f4621b4ac59702c26be55332161f530b996",
	} {
		if got := cert.Print(unhex(t, known()[i].data)); got != unhex(t, want) {
			t.Errorf("%d: %x, not %s", i, got, want)
		}
	}
	for _, n := range []int{0, 1, 55, 56, 64, 119, 1000, 1001, 5000} {
		data := sample(n, n)
		want := sha256.Sum256([]byte(data))
		if got := cert.Print(data); got != string(want[:]) || got != sha.Sum256(data) {
			t.Errorf("%d bytes: %x, not %x", n, got, want)
		}
	}
}

// P14.3: no fingerprints, one, and several ones with the right one at each
// place, more than once, or missing.
func TestFingerprints(t *testing.T) {
	c, _ := usual()
	data := usualData()
	right := cert.Print(data)
	others := []string{"", "x", data, sample(1, 32), hex.EncodeToString([]byte(right)), right[:31], right[1:], right + "\x00", "\x00" + right, right + right, cert.Print(data[1:]), cert.Print(right), c.Key, c.Name, strings.Repeat("\x00", 32)}
	for n := range 256 {
		others = append(others, flipped(right, n))
	}
	checkAllow(t, "none", data, c.From, nil, api.ErrWho)
	checkAllow(t, "none", data, c.From, []string{}, api.ErrWho)
	checkAllow(t, "the right one", data, c.From, []string{right}, api.OK)
	checkAllow(t, "twice", data, c.From, []string{right, right}, api.OK)
	for _, s := range others {
		checkAllow(t, "another one", data, c.From, []string{s}, api.ErrWho)
		checkAllow(t, "ahead", data, c.From, []string{s, right}, api.OK)
		checkAllow(t, "behind", data, c.From, []string{right, s}, api.OK)
	}
	checkAllow(t, "missing", data, c.From, others, api.ErrWho)
	for _, i := range []int{0, 1, 2, len(others) / 2, len(others) - 1, len(others)} {
		checkAllow(t, "between", data, c.From, slices.Insert(slices.Clone(others), i, right), api.OK)
	}
}

// P14.3: now of one second ahead of From, From, in between, To, and one second
// behind To, and far away.
func TestNow(t *testing.T) {
	c, seed := usual()
	for _, p := range [][2]int{{0, 0}, {0, 1}, {1, 1}, {5, 9}, {0, lastTime}, {lastTime, lastTime}, {951782400, 1763251200}, {1 << 31, 1 << 32}} {
		c.From, c.To = p[0], p[1]
		data := made(t, c, seed)
		prints := []string{cert.Print(data)}
		for now, want := range map[int]api.Errno{c.From: api.OK, c.To: api.OK, (c.From + c.To) / 2: api.OK, min(c.From+1, c.To): api.OK, max(c.From, c.To-1): api.OK,
			c.From - 1: api.ErrDate, c.To + 1: api.ErrDate, c.From - 1<<32: api.ErrDate, c.To + 1<<32: api.ErrDate, math.MinInt: api.ErrDate, math.MaxInt: api.ErrDate, -1: api.ErrDate, lastTime + 1: api.ErrDate,
		} {
			checkAllow(t, "now", data, now, prints, want)
			checkAllow(t, "now and another one", data, now, []string{cert.Print(data + "x")}, api.ErrWho)
			checkAllow(t, "now and none", data, now, nil, api.ErrWho)
		}
	}
}

// P14.3: which error is answered where several apply: those of Read go first,
// then that of the fingerprints.
func TestWhichErrorOfAllow(t *testing.T) {
	c, seed := usual()
	data := usualData()
	badTimes := draft(c)
	slices.Reverse(badTimes.at(timesAt...).parts)
	for _, w := range []struct {
		data string
		want api.Errno
	}{
		{"", api.ErrBytes}, {"x", api.ErrBytes}, {data[1:], api.ErrBytes}, {data + "x", api.ErrBytes}, {badTimes.sign(seed).bytes(), api.ErrBytes},
		{strings.Repeat("x", 1000), api.ErrBytes}, {strings.Repeat("x", 1001), api.ErrBig}, {data + strings.Repeat("\x00", 1000), api.ErrBig},
		{flipped(data, 8*len(data)-1), api.ErrSig}, {flipped(data, 8*len(data)-300), api.ErrSig}, {strings.Replace(data, "20000229", "19990228", 1), api.ErrSig},
		{data, api.OK},
	} {
		for _, now := range []int{math.MinInt, -1, 0, c.From - 1, c.From, c.To, c.To + 1, math.MaxInt} {
			for _, prints := range [][]string{nil, {"x"}, {cert.Print(w.data)}, {"", cert.Print(w.data)}, {cert.Print(data + "y")}} {
				want := w.want
				switch {
				case want != api.OK:
				case !slices.Contains(prints, cert.Print(w.data)):
					want = api.ErrWho
				case now < c.From || now > c.To:
					want = api.ErrDate
				}
				checkAllow(t, "several", w.data, now, prints, want)
			}
		}
	}
}

// R2: the fingerprints stay as they are, and those behind their end do not
// count.
func TestFingerprintsAreNotChanged(t *testing.T) {
	c, _ := usual()
	data := usualData()
	prints := []string{"c", "b", "a", cert.Print(data), "z"}
	before := slices.Clone(prints)
	checkAllow(t, "behind the end", data, c.From, prints[:3], api.ErrWho)
	checkAllow(t, "all", data, c.From, prints, api.OK)
	if !slices.Equal(prints, before) {
		t.Errorf("%q", prints)
	}
}

func BenchmarkAllow(b *testing.B) {
	c, _ := usual()
	data := usualData()
	own := cert.Print(data)
	for b.Loop() {
		if e := cert.Allow(data, c.From, "x", own); e != api.OK {
			b.Fatal(e)
		}
	}
}
