package der_test

import (
	"encoding/asn1"
	"encoding/hex"
	"math"
	"math/rand"
	"slices"
	"strings"
	"sync"
	"testing"
	"unsafe"

	"cresset/api"
	"cresset/der"
)

// sample is n bytes of all values, without a short period; no two seeds have
// the same.
func sample(seed, n int) string {
	b := make([]byte, n)
	rand.New(rand.NewSource(int64(seed))).Read(b)
	return string(b)
}

func unhex(t testing.TB, s string) string {
	t.Helper()
	b, err := hex.DecodeString(strings.ReplaceAll(s, " ", ""))
	if err != nil {
		t.Fatal(err)
	}
	return string(b)
}

// short is enough of a string to tell which one it is.
func short(s string) string {
	if len(s) > 40 {
		return hex.EncodeToString([]byte(s[:40])) + ".."
	}
	return hex.EncodeToString([]byte(s))
}

// written is Write of a tag and a body that may be.
func written(t testing.TB, tag int, body string) string {
	t.Helper()
	data, e := der.Write(tag, body)
	if e != api.OK {
		t.Fatalf("Write(%d, %d bytes): %v", tag, len(body), e)
	}
	return data
}

// checkWrite holds Write against what it should answer.
func checkWrite(t *testing.T, tag int, body, want string, wantErr api.Errno) {
	t.Helper()
	if data, e := der.Write(tag, body); data != want || e != wantErr {
		t.Errorf("Write(%d, %d bytes): %s (%d bytes) and %v, not %s (%d bytes) and %v", tag, len(body), short(data), len(data), e, short(want), len(want), wantErr)
	}
}

// checkRead holds Read against the element that it should find.
func checkRead(t *testing.T, data string, wantTag int, wantBody, wantRest string) {
	t.Helper()
	tag, body, rest, e := der.Read(data)
	if tag != wantTag || body != wantBody || rest != wantRest || e != api.OK {
		t.Errorf("Read(%s, %d bytes): %d, %s (%d bytes), %s (%d bytes), %v", short(data), len(data), tag, short(body), len(body), short(rest), len(rest), e)
	}
}

// checkReadFails holds Read against the error that it should answer.
func checkReadFails(t *testing.T, data string, want api.Errno) {
	t.Helper()
	tag, body, rest, e := der.Read(data)
	if tag != 0 || body != "" || rest != "" || e != want {
		t.Errorf("Read(%s, %d bytes): %d, %s, %s, %v, not %v", short(data), len(data), tag, short(body), short(rest), e, want)
	}
}

// tags are all tags.
func tags() []int {
	var l []int
	for tag := range 256 {
		if tag%32 != 31 {
			l = append(l, tag)
		}
	}
	return l
}

// lengthBytes is what stands between a tag and a body of so many bytes.
func lengthBytes(n int) string {
	if n < 128 {
		return string([]byte{byte(n)})
	}
	if n < 256 {
		return string([]byte{129, byte(n)})
	}
	return string([]byte{130, byte(n / 256), byte(n % 256)})
}

// readReference is Read, sentence by sentence.
func readReference(data string) (int, string, string, api.Errno) {
	switch {
	case len(data) == 0:
		return 0, "", "", api.ErrEnd
	case data[0]%32 == 31:
		return 0, "", "", api.ErrBytes
	case len(data) == 1:
		return 0, "", "", api.ErrEnd
	case data[1] == 128 || data[1] > 130:
		return 0, "", "", api.ErrBytes
	case data[1] == 129 && len(data) < 3 || data[1] == 130 && len(data) < 4:
		return 0, "", "", api.ErrEnd
	case data[1] == 129 && data[2] < 128 || data[1] == 130 && data[2] == 0:
		return 0, "", "", api.ErrBytes
	}
	n, from := int(data[1]), 2
	switch data[1] {
	case 129:
		n, from = int(data[2]), 3
	case 130:
		n, from = 256*int(data[2])+int(data[3]), 4
	}
	if from+n > len(data) {
		return 0, "", "", api.ErrEnd
	}
	return int(data[0]), data[from : from+n], data[from+n:], api.OK
}

// checkReadReference holds Read against the reference.
func checkReadReference(t *testing.T, data string) {
	t.Helper()
	tag, body, rest, e := readReference(data)
	if e != api.OK {
		checkReadFails(t, data, e)
		return
	}
	checkRead(t, data, tag, body, rest)
}

// P13.1, P13.3, P13.4: the chapter's examples.
func TestExamples(t *testing.T) {
	checkWrite(t, 48, "", unhex(t, "30 00"), api.OK)
	checkInt(t, -129, unhex(t, "FF 7F"))
	checkOid(t, []int{1, 3, 101, 112}, unhex(t, "2B 65 70"))
	if got := der.Int(-129); got != unhex(t, "02 02 FF 7F") {
		t.Errorf("Int(-129): %x", got)
	}
	if got, e := der.Oid(1, 3, 101, 112); got != unhex(t, "06 03 2B 65 70") || e != api.OK {
		t.Errorf("Oid(1, 3, 101, 112): %x, %v", got, e)
	}
	checkReadFails(t, unhex(t, "30 81 05"), api.ErrBytes)
}

// P13.1, P13.5: bodies at the edges of the three forms of a length, under all
// tags.
func TestLengths(t *testing.T) {
	for _, c := range []struct {
		n      int
		length string
	}{{0, "00"}, {1, "01"}, {2, "02"}, {126, "7e"}, {127, "7f"}, {128, "8180"}, {129, "8181"}, {130, "8182"}, {254, "81fe"}, {255, "81ff"}, {256, "820100"}, {257, "820101"}, {511, "8201ff"}, {512, "820200"}, {32767, "827fff"}, {32768, "828000"}, {65279, "82feff"}, {65280, "82ff00"}, {65534, "82fffe"}, {65535, "82ffff"}} {
		body := sample(c.n, c.n)
		for _, tag := range tags() {
			data := string([]byte{byte(tag)}) + unhex(t, c.length) + body
			checkWrite(t, tag, body, data, api.OK)
			checkRead(t, data, tag, body, "")
			checkRead(t, data+"behind", tag, body, "behind")
		}
	}
}

// P13.1, P13.5: bodies of all lengths, which the Go library writes alike.
func TestAllLengths(t *testing.T) {
	all := sample(1, 65535)
	for n := range 65536 {
		if n > 1000 && n%61 != 0 {
			continue
		}
		body := all[:n]
		want, err := asn1.Marshal(asn1.RawValue{Tag: asn1.TagOctetString, Bytes: []byte(body)})
		if err != nil {
			t.Fatal(err)
		}
		checkWrite(t, 4, body, "\x04"+lengthBytes(n)+body, api.OK)
		checkWrite(t, 4, body, string(want), api.OK)
		checkRead(t, string(want)+"\x00", 4, body, "\x00")
	}
}

// P13.1: numbers that are not a tag, whatever the body is; where it is too long
// as well, the tag's error is the answer.
func TestTags(t *testing.T) {
	wrong := []int{-1, -2, -32, -33, -128, -225, -226, -256, 256, 257, 258, 287, 304, 512, 65536, 65584, 1 << 32, 1<<32 + 48, math.MinInt, math.MinInt + 48, math.MaxInt, math.MaxInt - 1}
	for tag := range 256 {
		if tag%32 == 31 {
			wrong = append(wrong, tag)
			checkReadFails(t, string([]byte{byte(tag)}), api.ErrBytes)
			checkReadFails(t, string([]byte{byte(tag), 0}), api.ErrBytes)
			checkReadFails(t, string([]byte{byte(tag), 128}), api.ErrBytes)
			checkReadFails(t, string([]byte{byte(tag), 5, 0}), api.ErrBytes)
		}
	}
	for _, tag := range wrong {
		for _, n := range []int{0, 1, 128, 65535, 65536, 70000} {
			checkWrite(t, tag, strings.Repeat("x", n), "", api.ErrArg)
		}
	}
	if len(tags()) != 248 {
		t.Errorf("%d tags", len(tags()))
	}
}

// P13.1: bodies that are too long under any tag.
func TestLongBodies(t *testing.T) {
	for _, n := range []int{65536, 65537, 65536 + 127, 65536 + 128, 131071, 131072, 1 << 20, 1<<24 + 5} {
		body := strings.Repeat("x", n)
		for _, tag := range []int{0, 2, 4, 30, 32, 48, 160, 254} {
			checkWrite(t, tag, body, "", api.ErrBig)
		}
	}
}

// P13.1: what is wrong with data, and which error is the answer where several
// are wrong.
func TestWrongData(t *testing.T) {
	for _, c := range []struct {
		data string
		want api.Errno
	}{
		{"", api.ErrEnd},
		{"1f", api.ErrBytes}, {"3f", api.ErrBytes}, {"ff", api.ErrBytes}, {"1f00", api.ErrBytes}, {"3f80", api.ErrBytes}, {"ff8100", api.ErrBytes}, {"ff05", api.ErrBytes},
		{"00", api.ErrEnd}, {"02", api.ErrEnd}, {"1e", api.ErrEnd}, {"20", api.ErrEnd}, {"30", api.ErrEnd}, {"fe", api.ErrEnd},
		{"3080", api.ErrBytes}, {"30800000", api.ErrBytes}, {"3080050000", api.ErrBytes}, {"3083", api.ErrBytes}, {"3083010000", api.ErrBytes}, {"3084", api.ErrBytes}, {"308400000001", api.ErrBytes}, {"3085", api.ErrBytes}, {"3088", api.ErrBytes}, {"30a0", api.ErrBytes}, {"30c0", api.ErrBytes}, {"30fe", api.ErrBytes}, {"30ff", api.ErrBytes}, {"30ff0000", api.ErrBytes},
		{"3081", api.ErrEnd}, {"3082", api.ErrEnd}, {"308200", api.ErrEnd}, {"308201", api.ErrEnd}, {"30827f", api.ErrEnd}, {"3082ff", api.ErrEnd},
		{"308100", api.ErrBytes}, {"308101", api.ErrBytes}, {"30810100", api.ErrBytes}, {"308105", api.ErrBytes}, {"30817f", api.ErrBytes}, {"30820000", api.ErrBytes}, {"30820001", api.ErrBytes}, {"3082000100", api.ErrBytes}, {"3082007f", api.ErrBytes}, {"30820080", api.ErrBytes}, {"308200ff", api.ErrBytes},
		{"308180", api.ErrEnd}, {"3081ff", api.ErrEnd}, {"30820100", api.ErrEnd}, {"3082ffff", api.ErrEnd}, {"3001", api.ErrEnd}, {"300200", api.ErrEnd}, {"307f", api.ErrEnd},
	} {
		checkReadFails(t, unhex(t, c.data), c.want)
	}
}

// P13.1: lengths that are in a longer form than they need, with as many bytes
// as they tell and with fewer and more.
func TestLengthsInLongerForms(t *testing.T) {
	for n := range 256 {
		heads := []string{string([]byte{130, 0, byte(n)})}
		if n < 128 {
			heads = append(heads, string([]byte{129, byte(n)}))
		}
		for _, head := range heads {
			for _, there := range []int{0, n - 1, n, n + 1, 300} {
				checkReadFails(t, "\x04"+head+strings.Repeat("x", max(there, 0)), api.ErrBytes)
			}
		}
	}
}

// P13.1: an element that has lost its end, wherever it was cut, and one with
// bytes behind it, be they an element or not.
func TestCutElements(t *testing.T) {
	for _, n := range []int{0, 1, 2, 126, 127, 128, 129, 254, 255, 256, 257, 1000} {
		data := written(t, 48, sample(n, n))
		for cut := range len(data) {
			checkReadFails(t, data[:cut], api.ErrEnd)
		}
		for _, rest := range []string{"\x00", "\x1f", "\xff", "\x30", "\x30\x00", "\x30\x80", data, sample(1, 70000)} {
			checkRead(t, data+rest, 48, sample(n, n), rest)
		}
	}
	data := written(t, 4, sample(1, 65535))
	for _, cut := range []int{1, 2, 3, 4, 5, 65534, 65535, 65536, 65537, 65538} {
		checkReadFails(t, data[:cut], api.ErrEnd)
	}
}

// P13.1: all beginnings of data, of one, two and three bytes.
func TestAllBeginnings(t *testing.T) {
	tail := sample(1, 300)
	for a := range 256 {
		checkReadReference(t, string([]byte{byte(a)}))
		for b := range 256 {
			two := string([]byte{byte(a), byte(b)})
			for _, rest := range []string{"", "\x00", "\x01", "\x7f", "\x80", "\xff", tail[:1], tail[:126], tail[:127], tail[:128], tail[:129], tail} {
				checkReadReference(t, two+rest)
			}
		}
	}
	for a := range 65536 {
		for _, b := range []byte{127, 128, 129, 130, 131} {
			checkReadReference(t, string([]byte{48, b, byte(a >> 8), byte(a)})+tail)
		}
	}
}

// P13.1: a length of two bytes counts with both of them.
func TestLengthsOfTwoBytes(t *testing.T) {
	all := sample(1, 66000)
	for high := 1; high < 256; high++ {
		for _, low := range []int{0, 1, 127, 128, 129, 255} {
			n := 256*high + low
			head := string([]byte{4, 130, byte(high), byte(low)})
			checkRead(t, head+all[:n], 4, all[:n], "")
			checkRead(t, head+all[:n+1], 4, all[:n], all[n:n+1])
			checkReadFails(t, head+all[:n-1], api.ErrEnd)
		}
	}
}

// P13.1, T1: data without a pattern is read as the Go library reads it, which
// has further tags and greater lengths.
func TestReadLikeLibrary(t *testing.T) {
	source := rand.New(rand.NewSource(1))
	right := 0
	for range 200000 {
		b := make([]byte, source.Intn(150))
		source.Read(b)
		if len(b) > 1 && source.Intn(2) == 0 {
			b[1] = byte(source.Intn(len(b)))
		}
		tag, body, rest, e := der.Read(string(b))
		var want asn1.RawValue
		left, err := asn1.Unmarshal(b, &want)
		if len(b) > 0 && b[0]%32 == 31 {
			continue
		}
		if (e == api.OK) != (err == nil) {
			t.Fatalf("Read(%x): %v, but the library says %v", b, e, err)
		}
		if e != api.OK {
			continue
		}
		right++
		if tag != int(want.FullBytes[0]) || body != string(want.Bytes) || rest != string(left) {
			t.Fatalf("Read(%x): %d, %x, %x", b, tag, body, rest)
		}
		if again := written(t, tag, body) + rest; again != string(b) {
			t.Fatalf("%x, not %x", again, b)
		}
	}
	if right < 50000 {
		t.Errorf("%d right ones", right)
	}
}

// R2: the arguments and what lies behind them stay as they are, and an answer
// is memory of its own: what Read answers does not keep data alive.
func TestNothingIsShared(t *testing.T) {
	before := "\x04\x05first\x02\x01\x07" + sample(1, 50)
	memory := []byte(before)
	data := unsafe.String(&memory[0], 10)
	tag, body, rest, e := der.Read(data)
	if e := der.Check(data); e != api.OK {
		t.Errorf("Check: %v", e)
	}
	whole := written(t, 48, data)
	empty := written(t, 5, unsafe.String(&memory[0], 0))
	number, e2 := der.ReadInt(unsafe.String(&memory[9], 1))
	if string(memory) != before {
		t.Error("an argument has changed")
	}
	clear(memory)
	if tag != 4 || body != "first" || rest != "\x02\x01\x07" || e != api.OK {
		t.Errorf("Read: %d, %q, %q, %v", tag, body, rest, e)
	}
	if whole != "\x30\x0a\x04\x05first\x02\x01\x07" || empty != "\x05\x00" || number != 7 || e2 != api.OK {
		t.Errorf("%x, %x, %d, %v", whole, empty, number, e2)
	}
}

// R2: the same for numbers, of which there may be more behind the end.
func TestNumbersAreNotShared(t *testing.T) {
	memory := []int{1, 2, 840, 113549, 1, 9, -5, 17}
	l := memory[:4]
	body := oidBody(t, l...)
	der.Oid(memory[:7]...)
	if !slices.Equal(memory, []int{1, 2, 840, 113549, 1, 9, -5, 17}) {
		t.Errorf("an argument has changed: %v", memory)
	}
	clear(memory)
	bytes := []byte(body)
	first, e := der.ReadOid(unsafe.String(&bytes[0], len(bytes)))
	second, _ := der.ReadOid(body)
	if string(bytes) != body || e != api.OK {
		t.Errorf("%x, %v", bytes, e)
	}
	clear(bytes)
	first[0], first[3] = 7, 8
	_ = append(first[:2], 9)
	if !slices.Equal(second, []int{1, 2, 840, 113549}) {
		t.Errorf("two answers share memory: %v", second)
	}
	again, _ := der.ReadOid(body)
	if !slices.Equal(again, second) {
		t.Errorf("an answer is kept: %v", again)
	}
}

// R3: a call leaves nothing behind that another one would see, be it ahead of
// it or at the same time.
func TestCallsAreApart(t *testing.T) {
	answer := func(i int) string {
		data := written(t, 48, der.Int(1000*i)+oidBody(t, 2, i)+sample(i, i))
		_, body, rest, e := der.Read(data + sample(i, 10))
		n, e2 := der.ReadInt(sample(i, 5))
		l, e3 := der.ReadOid(sample(i, 3) + "\x05")
		for _, v := range append(l, n) {
			rest += der.Int(v)
		}
		return body + rest + e.Error() + e2.Error() + e3.Error() + der.Check(data).Error()
	}
	want := make([]string, 8)
	for i := range want {
		want[i] = answer(i)
		der.Write(31, "")
		der.Read("\x30\x81\x05")
		der.Check(strings.Repeat("\x30\x01", 20))
		der.ReadInt("\x00\x01")
		der.Oid(1, 2, -3)
		der.ReadOid("\x80\x01")
	}
	var all sync.WaitGroup
	for i := range want {
		all.Go(func() {
			for range 1000 {
				if got := answer(i); got != want[i] {
					t.Errorf("%x, not %x", got, want[i])
				}
			}
		})
	}
	all.Wait()
}

func BenchmarkWrite(b *testing.B) {
	body := sample(1, 200)
	for b.Loop() {
		written(b, 48, body)
	}
}

func BenchmarkRead(b *testing.B) {
	data := written(b, 48, sample(1, 200))
	for b.Loop() {
		if _, _, _, e := der.Read(data); e != api.OK {
			b.Fatal(e)
		}
	}
}
