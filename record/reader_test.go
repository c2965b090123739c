package record_test

import (
	"math/rand"
	"slices"
	"strings"
	"sync"
	"testing"
	"unsafe"

	"cresset/api"
	"cresset/record"
)

const mostWaiting = 1048576 // bytes in the buffer of a reader

// model is a Reader by the document's words, sentence by sentence.
type model struct {
	buffer string
	first  api.Errno
}

func (m *model) feed(data string) api.Errno {
	if m.first != api.OK {
		return m.first
	}
	if len(m.buffer)+len(data) > mostWaiting {
		return api.ErrBig
	}
	m.buffer += data
	return api.OK
}

func (m *model) next() (int, string, api.Errno) {
	if m.first != api.OK {
		return 0, "", m.first
	}
	e := m.examine()
	if e != api.OK {
		if e != api.ErrBusy {
			m.first = e
		}
		return 0, "", e
	}
	kind, end := int(m.buffer[0]), 5+m.size()
	body := m.buffer[5:end]
	m.buffer = m.buffer[end:]
	return kind, body, api.OK
}

func (m *model) size() int { return 256*int(m.buffer[3]) + int(m.buffer[4]) }

func (m *model) examine() api.Errno {
	if m.buffer == "" {
		return api.ErrBusy
	}
	if !isKind(int(m.buffer[0])) {
		return api.ErrBytes
	}
	if len(m.buffer) >= 2 && m.buffer[1] != 3 {
		return api.ErrBytes
	}
	if len(m.buffer) >= 3 && m.buffer[2] != 3 {
		return api.ErrBytes
	}
	if len(m.buffer) < 5 {
		return api.ErrBusy
	}
	if m.size() > mostBody {
		return api.ErrBig
	}
	if len(m.buffer) < 5+m.size() {
		return api.ErrBusy
	}
	return api.OK
}

// pair is a reader with its model: each call goes to both of them.
type pair struct {
	t *testing.T
	r *record.Reader
	m model
}

func newPair(t *testing.T) *pair {
	return &pair{t: t, r: record.NewReader()}
}

func (p *pair) feed(data string) {
	p.t.Helper()
	want := p.m.feed(data)
	if e := p.r.Feed(data); e != want {
		p.t.Errorf("Feed(%d bytes that begin with %x) = %v, not %v", len(data), data[:min(len(data), 10)], e, want)
	}
}

func (p *pair) next() api.Errno {
	p.t.Helper()
	kind, body, e := p.m.next()
	if gotKind, got, gotError := p.r.Next(); gotKind != kind || got != body || gotError != e {
		p.t.Errorf("Next = %d, %d bytes, %v, not %d, %d bytes, %v", gotKind, len(got), gotError, kind, len(body), e)
	}
	return e
}

// nextAll calls next until it answers an error, and once more.
func (p *pair) nextAll() api.Errno {
	p.t.Helper()
	for p.next() == api.OK {
	}
	return p.next()
}

// checkFeed and checkNext hold a call against what is written out.
func checkFeed(t *testing.T, r *record.Reader, data string, want api.Errno) {
	t.Helper()
	if e := r.Feed(data); e != want {
		t.Errorf("Feed(%d bytes that begin with %x) = %v, not %v", len(data), data[:min(len(data), 10)], e, want)
	}
}

func checkNext(t *testing.T, r *record.Reader, kind int, body string, want api.Errno) {
	t.Helper()
	if gotKind, got, e := r.Next(); gotKind != kind || got != body || e != want {
		t.Errorf("Next = %d, %d bytes that begin with %x, %v, not %d, %d bytes, %v", gotKind, len(got), got[:min(len(got), 10)], e, kind, len(body), want)
	}
}

// several are some records one behind the other, and how many there are.
func several() (string, int) {
	stream, n := "", 0
	for i, size := range []int{2, 0, 1, 5, 0, 4, 255, 256, 300} {
		stream += plainRecord(20+i%4, sample(i, size))
		n++
	}
	return stream + plainRecord(22, plainRecord(23, "inner")) + plainRecord(21, "\x00\x19\xff"), n + 2
}

// P15.2: the document's examples, and what else is written out.
func TestReader(t *testing.T) {
	r := record.NewReader()
	checkNext(t, r, 0, "", api.ErrBusy)
	checkFeed(t, r, "\x16\x03", api.OK)
	checkNext(t, r, 0, "", api.ErrBusy)
	checkFeed(t, r, "\x04", api.OK)
	checkNext(t, r, 0, "", api.ErrBytes)

	r = record.NewReader()
	for i := range "\x16\x03\x03\x00\x02a" {
		checkFeed(t, r, "\x16\x03\x03\x00\x02a"[i:i+1], api.OK)
		checkNext(t, r, 0, "", api.ErrBusy)
		checkFeed(t, r, "", api.OK)
		checkNext(t, r, 0, "", api.ErrBusy)
	}
	checkFeed(t, r, "b\x17\x03\x03\x00\x00\x15\x03\x03\x00\x01!\x14", api.OK)
	checkNext(t, r, 22, "ab", api.OK)
	checkNext(t, r, 23, "", api.OK)
	checkNext(t, r, 21, "!", api.OK)
	checkNext(t, r, 0, "", api.ErrBusy)
	checkNext(t, r, 0, "", api.ErrBusy)
	checkFeed(t, r, "\x03\x03\x01\x00"+sample(1, 256), api.OK)
	checkNext(t, r, 20, sample(1, 256), api.OK)
	checkNext(t, r, 0, "", api.ErrBusy)
	checkFeed(t, r, "a", api.OK)
	checkNext(t, r, 0, "", api.ErrBytes)
}

// P15.2: a nil reader, whatever it is given.
func TestNilReader(t *testing.T) {
	var r *record.Reader
	for _, data := range []string{"", "x", plainRecord(22, "ab"), zeros(mostWaiting), zeros(mostWaiting + 1)} {
		checkFeed(t, r, data, api.ErrNil)
		checkNext(t, r, 0, "", api.ErrNil)
	}
}

// P15.2: every first byte, alone and with more behind it.
func TestFirstBytes(t *testing.T) {
	for b := range 256 {
		for _, behind := range []string{"", "\x03", "\x03\x03", "\x03\x03\x00", "\x03\x03\x00\x00", "\x03\x03\x00\x01", "\x03\x03\x41\x01", "\x00", "\x03\x00", "\x03\x03\x00\x02abc"} {
			p := newPair(t)
			p.feed(string([]byte{byte(b)}) + behind)
			if e := p.nextAll(); !isKind(b) && e != api.ErrBytes {
				t.Errorf("%x and %x: %v", b, behind, e)
			}
		}
	}
}

// P15.2: every second and every third byte, as soon as it is there and with
// more behind it, also a length that is too great.
func TestVersionBytes(t *testing.T) {
	for b := range 256 {
		for _, kind := range []string{"\x14", "\x15", "\x16", "\x17"} {
			for _, behind := range []string{"", "\x00", "\x00\x00", "\x00\x01", "\x00\x01a", "\x00\x01a\x17", "\x41\x00", "\x41\x01", "\xff\xff"} {
				for i, start := range []string{kind + string([]byte{byte(b)}), kind + string([]byte{byte(b), 3}), kind + string([]byte{byte(b), 4}), kind + string([]byte{3, byte(b)}), kind + string([]byte{byte(b), byte(b)})} {
					if i == 0 && behind != "" {
						continue
					}
					p := newPair(t)
					p.feed(start + behind)
					if e := p.nextAll(); b != 3 && e != api.ErrBytes {
						t.Errorf("%x: %v", start+behind, e)
					}
				}
			}
		}
	}
}

// P15.2: what is wrong is told at the first byte that shows it, and not ahead
// of it.
func TestErrorsComeEarly(t *testing.T) {
	for _, c := range []struct {
		stream string
		at     int // bytes with which the error comes
		want   api.Errno
	}{
		{"\x13\x03\x03\x00\x00", 1, api.ErrBytes},
		{"\x18\x03\x03\x00\x00", 1, api.ErrBytes},
		{"\x17\x02\x03\x00\x00", 2, api.ErrBytes},
		{"\x17\x04\x04\x41\x01", 2, api.ErrBytes},
		{"\x17\x03\x02\x00\x00", 3, api.ErrBytes},
		{"\x17\x03\x01\x41\x01", 3, api.ErrBytes},
		{"\x17\x03\x03\x41\x01", 5, api.ErrBig},
		{"\x17\x03\x03\x42\x00", 5, api.ErrBig},
		{"\x17\x03\x03\xff\xff", 5, api.ErrBig},
		{"\x17\x03\x03\x80\x00", 5, api.ErrBig},
	} {
		r := record.NewReader()
		for i := range c.stream {
			want := api.OK
			if i >= c.at {
				want = c.want
			}
			checkFeed(t, r, c.stream[i:i+1], want)
			if i+1 < c.at {
				want = api.ErrBusy
			} else {
				want = c.want
			}
			checkNext(t, r, 0, "", want)
		}
	}
}

// P15.2: lengths around the greatest one, of bodies that are there.
func TestLengthsOfRecords(t *testing.T) {
	for _, n := range []int{0, 1, 127, 128, 255, 256, 257, 16383, 16384, 16385, 16639, mostBody, mostBody + 1, 32767, 32768, 65535} {
		for _, behind := range []int{0, 1, 4, 5, 70000} {
			stream := plainRecord(22, sample(n, n)) + strings.Repeat("\x17", behind)
			r := record.NewReader()
			checkFeed(t, r, stream, api.OK)
			if n > mostBody {
				checkNext(t, r, 0, "", api.ErrBig)
				checkNext(t, r, 0, "", api.ErrBig)
				continue
			}
			checkNext(t, r, 22, sample(n, n), api.OK)
			switch behind {
			case 0, 1:
				checkNext(t, r, 0, "", api.ErrBusy)
			default:
				checkNext(t, r, 0, "", api.ErrBytes)
			}
		}
	}
}

// P15.2: bodies of which some bytes are missing, and that come then.
func TestIncompleteBodies(t *testing.T) {
	for _, n := range []int{1, 2, 5, 6, 255, 256, 257, 16384, mostBody} {
		whole := plainRecord(23, sample(n, n))
		for _, missing := range []int{1, 2, n / 2, n - 1, n} {
			if missing == 0 || missing > n {
				continue
			}
			r := record.NewReader()
			checkFeed(t, r, whole[:len(whole)-missing], api.OK)
			checkNext(t, r, 0, "", api.ErrBusy)
			checkFeed(t, r, "", api.OK)
			checkNext(t, r, 0, "", api.ErrBusy)
			checkFeed(t, r, whole[len(whole)-missing:], api.OK)
			checkNext(t, r, 23, sample(n, n), api.OK)
			checkNext(t, r, 0, "", api.ErrBusy)
		}
	}
}

// longStream is more than fills a buffer: records of 9005 bytes, the i-th of
// which has the kind 20+i%4 and the body sample(i, 9000).
func longStream() string {
	var b strings.Builder
	for i := range mostWaiting/9005 + 10 {
		b.WriteString(plainRecord(20+i%4, sample(i, 9000)))
	}
	return b.String()
}

// P15.2: a buffer that is as full as may be, by one piece and by several ones;
// a piece that is refused leaves it as it was.
func TestFullBuffer(t *testing.T) {
	long := longStream()
	for _, first := range []int{0, 1, 4, 5, 9005, 9006, mostWaiting / 2, mostWaiting - 1, mostWaiting} {
		r := record.NewReader()
		checkFeed(t, r, long[:mostWaiting+1], api.ErrBig)
		checkNext(t, r, 0, "", api.ErrBusy)
		checkFeed(t, r, long[:first], api.OK)
		checkFeed(t, r, long[first:mostWaiting+1], api.ErrBig)
		checkFeed(t, r, long, api.ErrBig)
		checkFeed(t, r, long[first:mostWaiting], api.OK)
		checkFeed(t, r, "", api.OK)
		checkFeed(t, r, "x", api.ErrBig)
		checkFeed(t, r, long[:mostWaiting], api.ErrBig)
		checkFeed(t, r, "", api.OK)
		for i := range mostWaiting / 9005 {
			checkNext(t, r, 20+i%4, sample(i, 9000), api.OK)
		}
		checkNext(t, r, 0, "", api.ErrBusy)
	}
}

// P15.2: what Next has taken out of the buffer leaves room for as much, and
// all that is fed can be more than a buffer has.
func TestRoomInTheBuffer(t *testing.T) {
	long := longStream()
	r := record.NewReader()
	checkFeed(t, r, long[:mostWaiting], api.OK)
	at := mostWaiting
	for i := range 9 {
		checkNext(t, r, 20+i%4, sample(i, 9000), api.OK)
		checkFeed(t, r, long[at:at+9006], api.ErrBig)
		checkFeed(t, r, long[at:at+9004], api.OK)
		checkFeed(t, r, long[at+9004:at+9006], api.ErrBig)
		checkFeed(t, r, long[at+9004:at+9005], api.OK)
		checkFeed(t, r, "x", api.ErrBig)
		at += 9005
	}
	p := newPair(t)
	for i := range 40 {
		p.feed(long[:mostWaiting/9005*9005])
		p.feed(sample(i, 9005))
		if e := p.nextAll(); e != api.ErrBusy {
			t.Errorf("piece %d: %v", i, e)
		}
	}
}

// P15.2: the first error of Next is that of all later calls, also where another
// one applies or the bytes that follow would be a record.
func TestErrorsStay(t *testing.T) {
	for _, c := range []struct {
		stream string
		want   api.Errno
	}{
		{"\x13", api.ErrBytes}, {"\x17\x04", api.ErrBytes}, {"\x17\x03\x02", api.ErrBytes}, {"\x17\x03\x03\x41\x01", api.ErrBig}, {"\x17\x03\x03\xff\xff\x13", api.ErrBig},
		{"\x13\x03\x03\xff\xff", api.ErrBytes}, {"\x13" + zeros(mostWaiting-11), api.ErrBytes}, {"\x17\x03\x03\x41\x01" + zeros(mostWaiting-15), api.ErrBig},
	} {
		r := record.NewReader()
		checkFeed(t, r, plainRecord(21, "first"), api.OK)
		checkFeed(t, r, c.stream, api.OK)
		checkFeed(t, r, zeros(mostWaiting), api.ErrBig)
		checkNext(t, r, 21, "first", api.OK)
		checkFeed(t, r, "", api.OK)
		for range 3 {
			checkNext(t, r, 0, "", c.want)
			checkFeed(t, r, "", c.want)
			checkFeed(t, r, plainRecord(22, "ab"), c.want)
			checkNext(t, r, 0, "", c.want)
			checkFeed(t, r, "\x13", c.want)
			checkFeed(t, r, "\x16\x03\x03\xff\xff", c.want)
			checkFeed(t, r, zeros(mostWaiting), c.want)
			checkFeed(t, r, zeros(mostWaiting+1), c.want)
		}
	}
}

// P15.2: ErrBusy of Next and ErrBig of Feed do not stay.
func TestErrorsThatPass(t *testing.T) {
	r := record.NewReader()
	for i := range 5 {
		checkNext(t, r, 0, "", api.ErrBusy)
		checkFeed(t, r, zeros(mostWaiting+1), api.ErrBig)
		checkNext(t, r, 0, "", api.ErrBusy)
		checkFeed(t, r, plainRecord(22, sample(i, 70*i))+"\x15\x03\x03\x00", api.OK)
		checkFeed(t, r, zeros(mostWaiting), api.ErrBig)
		checkNext(t, r, 22, sample(i, 70*i), api.OK)
		checkNext(t, r, 0, "", api.ErrBusy)
		checkFeed(t, r, zeros(mostWaiting), api.ErrBig)
		checkFeed(t, r, "\x01", api.OK)
		checkNext(t, r, 0, "", api.ErrBusy)
		checkFeed(t, r, "b", api.OK)
		checkNext(t, r, 21, "b", api.OK)
	}
}

// recordsOf are the records of a stream that comes in pieces, as plainRecord
// has them, and the error behind them. Next is called behind each piece, or
// behind the last one alone.
func recordsOf(t *testing.T, always bool, pieces ...string) ([]string, api.Errno) {
	t.Helper()
	var list []string
	r := record.NewReader()
	last := api.OK
	for i, piece := range pieces {
		if e := r.Feed(piece); e != api.OK && e != last {
			t.Errorf("Feed(%x): %v", piece, e)
		}
		if !always && i+1 < len(pieces) {
			continue
		}
		for {
			kind, body, e := r.Next()
			if last = e; e != api.OK {
				break
			}
			list = append(list, plainRecord(kind, body))
		}
	}
	return list, last
}

// endings are what a stream may end with, and the error that Next answers there.
func endings() map[string]api.Errno {
	return map[string]api.Errno{"": api.ErrBusy, "\x16": api.ErrBusy, "\x16\x03\x03\x00\x02a": api.ErrBusy, "\x18": api.ErrBytes, "\x16\x03\x00": api.ErrBytes, "\x16\x03\x03\x41\x01ab": api.ErrBig}
}

// P15.5: a stream that is cut at each place, and at each two places.
func TestCuts(t *testing.T) {
	records, n := several()
	short := plainRecord(23, "ab") + plainRecord(20, "") + plainRecord(22, "\x16\x03\x03\x00\x00") + plainRecord(21, "!")
	for end, want := range endings() {
		for i := range len(records+end) + 1 {
			for _, always := range []bool{true, false} {
				list, e := recordsOf(t, always, (records + end)[:i], (records + end)[i:])
				if len(list) != n || strings.Join(list, "") != records || e != want {
					t.Errorf("cut at %d, ahead of %x: %d records, %v", i, end, len(list), e)
				}
			}
			for j := range i + 1 {
				if i > len(short+end) {
					break
				}
				list, e := recordsOf(t, true, (short + end)[:j], (short + end)[j:i], "", (short + end)[i:])
				if len(list) != 4 || strings.Join(list, "") != short || e != want {
					t.Errorf("cut at %d and %d, ahead of %x: %d records, %v", j, i, end, len(list), e)
				}
			}
		}
	}
}

// P15.5: pieces of the same length, from one byte on, and of any lengths.
func TestPieces(t *testing.T) {
	records, n := several()
	source := rand.New(rand.NewSource(1))
	for end, want := range endings() {
		for size := -100; size < 300; size++ {
			var pieces []string
			for rest := records + end; rest != ""; {
				k := size
				if size <= 0 {
					k = source.Intn(2 - size)
				}
				k = min(k, len(rest))
				pieces, rest = append(pieces, rest[:k]), rest[k:]
			}
			for _, always := range []bool{true, false} {
				list, e := recordsOf(t, always, pieces...)
				if len(list) != n || strings.Join(list, "") != records || e != want {
					t.Errorf("%d pieces of %d bytes, ahead of %x: %d records, %v", len(pieces), size, end, len(list), e)
				}
			}
		}
	}
}

// P15.2: calls without a pattern, held against the model, with bytes that are
// often those of a header.
func TestCallsWithoutAPattern(t *testing.T) {
	source := rand.New(rand.NewSource(1))
	likely := "\x14\x15\x16\x17\x17\x03\x03\x03\x03\x00\x00\x01\x02\x13\x18\x41\x40"
	for range 20000 {
		p := newPair(t)
		for range source.Intn(20) {
			switch source.Intn(8) {
			case 0, 1, 2:
				p.feed(plainRecord(20+source.Intn(4), sample(source.Int(), source.Intn(4))))
			case 3:
				b := make([]byte, source.Intn(7))
				for i := range b {
					b[i] = likely[source.Intn(len(likely))]
				}
				p.feed(string(b))
			case 4:
				whole := plainRecord(20+source.Intn(4), sample(source.Int(), source.Intn(400)))
				i := source.Intn(len(whole) + 1)
				p.feed(whole[:i])
				p.next()
				p.feed(whole[i:])
			default:
				p.next()
			}
		}
		p.nextAll()
	}
}

// P15.5: as many records as a buffer holds, fed by bytes and by the whole; the
// time is that of the bytes and does not grow with what waits.
func TestManyRecords(t *testing.T) {
	n := mostWaiting / 5
	stream := strings.Repeat("\x17\x03\x03\x00\x00", n)
	byBytes, whole := record.NewReader(), record.NewReader()
	for i := range stream {
		if e := byBytes.Feed(stream[i : i+1]); e != api.OK {
			t.Fatalf("byte %d: %v", i, e)
		}
	}
	checkFeed(t, whole, stream, api.OK)
	for _, r := range []*record.Reader{byBytes, whole} {
		for i := range 2 * n {
			if kind, body, e := r.Next(); kind != 23 || body != "" || e != api.OK {
				t.Fatalf("record %d: %d, %x, %v", i, kind, body, e)
			}
			if i < n {
				checkFeed(t, r, stream[:5], api.OK)
			}
		}
		checkNext(t, r, 0, "", api.ErrBusy)
	}
}

// R2: what is fed stays as it is, and is not kept: it may become other bytes
// before it is read.
func TestFedMemoryIsNotKept(t *testing.T) {
	records, n := several()
	memory := []byte(records + "behind")
	text := unsafe.String(&memory[0], len(records))
	r := record.NewReader()
	checkFeed(t, r, text[:7], api.OK)
	checkFeed(t, r, text[7:], api.OK)
	if string(memory) != records+"behind" {
		t.Error("an argument has changed")
	}
	clear(memory)
	var list []string
	for range n {
		kind, body, e := r.Next()
		if e != api.OK {
			t.Fatal(e)
		}
		list = append(list, plainRecord(kind, body))
	}
	if strings.Join(list, "") != records {
		t.Errorf("other records: %x", list)
	}
}

// R2: a body belongs to the caller: what is fed and read later does not change
// it.
func TestBodiesStay(t *testing.T) {
	r := record.NewReader()
	var bodies, before []string
	for i := range 300 {
		checkFeed(t, r, plainRecord(23, sample(i, 1+i*i%700)), api.OK)
		_, body, e := r.Next()
		if e != api.OK {
			t.Fatal(e)
		}
		bodies, before = append(bodies, body), append(before, strings.Clone(body))
	}
	if !slices.Equal(bodies, before) {
		t.Error("a body has changed")
	}
}

// R3: readers do not see each other, be it in turns or at the same time.
func TestReadersAreApart(t *testing.T) {
	records, _ := several()
	a, b, broken := newPair(t), newPair(t), newPair(t)
	for i := range len(records) {
		a.feed(records[i : i+1])
		b.feed(plainRecord(20+i%4, sample(i, i%50)))
		broken.feed(records[i/2 : i/2+1])
		a.next()
		b.next()
		broken.next()
	}
	var all sync.WaitGroup
	for i := range 8 {
		all.Go(func() {
			p := newPair(t)
			for j := range 200 {
				p.feed(plainRecord(20+j%4, sample(8*j+i, 3*j)))
				p.next()
			}
		})
	}
	all.Wait()
}

func BenchmarkReader(b *testing.B) {
	stream := strings.Repeat(plainRecord(23, sample(1, mostBody)), 60)
	r := record.NewReader()
	b.SetBytes(int64(len(stream)))
	for b.Loop() {
		r.Feed(stream)
		for range 60 {
			if _, _, e := r.Next(); e != api.OK {
				b.Fatal(e)
			}
		}
	}
}
