package der_test

import (
	"crypto/ed25519"
	"crypto/x509"
	"crypto/x509/pkix"
	"math/big"
	"math/rand"
	"strings"
	"testing"
	"time"

	"cresset/api"
	"cresset/der"
)

// checkCheck holds Check against what it should answer.
func checkCheck(t *testing.T, what, data string, want api.Errno) {
	t.Helper()
	if e := der.Check(data); e != want {
		t.Errorf("%s: Check(%s, %d bytes): %v, not %v", what, short(data), len(data), e, want)
	}
}

// within is data within so many constructed elements.
func within(t testing.TB, around int, data string) string {
	t.Helper()
	for range around {
		data = written(t, 48, data)
	}
	return data
}

// fault is data with which something is wrong that only Read tells.
type fault struct {
	data string
	e    api.Errno
}

func faults() []fault {
	return []fault{
		{"\x04", api.ErrEnd}, {"\x04\x01", api.ErrEnd}, {"\x04\x81", api.ErrEnd}, {"\x04\x82\x01", api.ErrEnd}, {"\x30\x02\x05", api.ErrEnd},
		{"\x1f\x00", api.ErrBytes}, {"\x3f\x00", api.ErrBytes}, {"\xff", api.ErrBytes}, {"\x30\x80\x00\x00", api.ErrBytes}, {"\x04\x83", api.ErrBytes}, {"\x04\x81\x05", api.ErrBytes}, {"\x04\x82\x00\x80", api.ErrBytes},
	}
}

// right are sequences with which nothing is wrong.
func right() []string {
	return []string{
		"", "\x05\x00", "\x04\x01x", "\x30\x00", "\x20\x00", "\xa0\x00", "\xfe\x00", "\x05\x00\x05\x00", "\x30\x02\x05\x00\x05\x00",
		"\x30\x00\x04\x02\xff\xff\x31\x00", "\x04\x82\x01\x00" + strings.Repeat("\x1f", 256), "\x30\x81\x80" + strings.Repeat("\x05\x00", 64),
	}
}

// P13.2: nothing at all, one element, and several ones after another, which are
// constructed or not.
func TestCheckSequences(t *testing.T) {
	for _, a := range right() {
		checkCheck(t, "one", a, api.OK)
		for _, b := range right() {
			checkCheck(t, "two", a+b, api.OK)
			checkCheck(t, "within", within(t, 1, a+b)+a, api.OK)
			checkCheck(t, "within more", within(t, 3, a+within(t, 2, b)+a)+within(t, 5, b), api.OK)
		}
	}
}

// P13.2: each error of Read in one of the elements of a sequence.
func TestCheckFaults(t *testing.T) {
	for _, f := range faults() {
		checkReadFails(t, f.data, f.e)
		checkCheck(t, "alone", f.data, f.e)
		for _, a := range right() {
			checkCheck(t, "behind", a+f.data, f.e)
			checkCheck(t, "in a body", within(t, 1, a+f.data), f.e)
			checkCheck(t, "in a body, and one behind", within(t, 1, a+f.data)+a, f.e)
			checkCheck(t, "behind a body", within(t, 2, a)+f.data, f.e)
			checkCheck(t, "in a body behind others", a+within(t, 1, a)+within(t, 3, f.data)+a, f.e)
		}
	}
}

// P13.2: where several elements are wrong, the first of them tells the error:
// what is within a body goes ahead of what is behind it, but behind what is
// wrong with the element itself.
func TestFirstFault(t *testing.T) {
	for _, f := range faults() {
		for _, g := range faults() {
			checkCheck(t, "within and behind", within(t, 1, f.data)+g.data, f.e)
			checkCheck(t, "within twice", within(t, 1, f.data)+within(t, 2, g.data), f.e)
			checkCheck(t, "deeper first", within(t, 1, within(t, 2, f.data)+g.data), f.e)
			checkCheck(t, "deeper last", within(t, 1, "\x05\x00"+within(t, 1, "")+f.data)+within(t, 4, g.data), f.e)
			checkCheck(t, "deep first", within(t, 9, f.data)+g.data, api.ErrDeep)
			checkCheck(t, "deep last", within(t, 3, f.data)+within(t, 9, g.data), f.e)
			cut := within(t, 2, g.data)
			checkCheck(t, "a body that is cut", cut[:len(cut)-1], api.ErrEnd)
		}
		checkCheck(t, "in a body that is cut", "\x30\x20"+f.data, api.ErrEnd)
		checkCheck(t, "in a body of a longer form", "\x30\x81"+string([]byte{byte(len(f.data))})+f.data, api.ErrBytes)
	}
}

// P13.2: the bodies of elements that are not constructed are not examined, and
// those of all others are.
func TestWhichBodiesAreExamined(t *testing.T) {
	for _, tag := range tags() {
		for _, f := range faults() {
			want := api.OK
			if tag/32%2 == 1 {
				want = f.e
			}
			checkCheck(t, "a body", written(t, tag, f.data), want)
			checkCheck(t, "a body within", within(t, 6, written(t, tag, f.data)), want)
		}
		want := api.OK
		if tag/32%2 == 1 {
			want = api.ErrDeep
		}
		checkCheck(t, "within seven", within(t, 7, written(t, tag, "")), want)
		checkCheck(t, "around eight", written(t, tag, within(t, 8, "")), want)
	}
}

// P13.2: constructed elements within six, seven, eight and more others, empty
// or not. What is wrong within the one that is too deep is not found any more.
func TestDepth(t *testing.T) {
	for around := range 12 {
		want := api.OK
		if around > 7 {
			want = api.ErrDeep
		}
		checkCheck(t, "nothing within", within(t, around, ""), want)
		checkCheck(t, "an element within", within(t, around, "\x05\x00"), want)
		checkCheck(t, "elements within", within(t, around, "\x05\x00\x04\x01x"), want)
		for _, f := range faults() {
			e := f.e
			if around > 7 {
				e = api.ErrDeep
			}
			checkCheck(t, "a fault within", within(t, around, f.data), e)
			checkCheck(t, "a fault behind", within(t, around, "")+f.data, e)
			checkCheck(t, "a fault ahead", within(t, 1, f.data)+within(t, around, ""), f.e)
		}
	}
	for _, tag := range []int{32, 48, 49, 62, 96, 160, 163, 224, 254} {
		checkCheck(t, "within six", within(t, 6, written(t, tag, "")), api.OK)
		checkCheck(t, "within seven", within(t, 7, written(t, tag, "")), api.ErrDeep)
		checkCheck(t, "behind one within seven", within(t, 7, "\x05\x00"+written(t, tag, "")), api.ErrDeep)
		checkCheck(t, "behind one that is deep", within(t, 6, within(t, 1, "")+written(t, tag, "")), api.OK)
	}
}

// P13.2: what lies behind one another is not deep.
func TestManyAreNotDeep(t *testing.T) {
	data := strings.Repeat(within(t, 7, "\x05\x00"), 50)
	checkCheck(t, "many", data, api.OK)
	checkCheck(t, "many, then one that is deep", data+within(t, 8, ""), api.ErrDeep)
	checkCheck(t, "many within", within(t, 1, strings.Repeat(within(t, 6, ""), 50)), api.OK)
	checkCheck(t, "many within more", within(t, 2, strings.Repeat(within(t, 5, "")+"\x05\x00", 50)+within(t, 6, "")), api.ErrDeep)
}

// P13.2, R1: as deep as there is room for, which is no panic.
func TestVeryDeep(t *testing.T) {
	data, deep := "", 0
	for {
		more, e := der.Write(48, data)
		if e != api.OK {
			break
		}
		data, deep = more, deep+1
	}
	if deep < 16000 {
		t.Errorf("%d deep", deep)
	}
	checkCheck(t, "very deep", data, api.ErrDeep)
}

// P13.2, R1: a million elements, of which each one leaves all the others.
func TestVeryMany(t *testing.T) {
	data := strings.Repeat("\x05\x00", 1<<20)
	checkCheck(t, "very many", data, api.OK)
	checkCheck(t, "very many, and one that is cut", data+"\x05", api.ErrEnd)
	checkCheck(t, "many of many", strings.Repeat(within(t, 3, data[:65000]), 20), api.OK)
	checkCheck(t, "large ones", strings.Repeat(written(t, 4, data[:65535]), 200), api.OK)
}

// checkReference is Check, sentence by sentence.
func checkReference(around int, data string) api.Errno {
	if data == "" {
		return api.OK
	}
	tag, body, rest, e := readReference(data)
	if e != api.OK {
		return e
	}
	if tag/32%2 == 1 && around >= 7 {
		return api.ErrDeep
	}
	if tag/32%2 == 1 {
		if e := checkReference(around+1, body); e != api.OK {
			return e
		}
	}
	return checkReference(around, rest)
}

// tree is a sequence of elements without a pattern, of some depth.
func tree(t testing.TB, source *rand.Rand, depth int) string {
	data := ""
	for range source.Intn(4) {
		tag := 32*source.Intn(8) + source.Intn(31)
		switch {
		case tag/32%2 == 1 && depth > 0:
			data += written(t, tag, tree(t, source, depth-1))
		case tag/32%2 == 1:
			data += written(t, tag, "")
		default:
			body := make([]byte, source.Intn(20))
			source.Read(body)
			data += written(t, tag, string(body))
		}
	}
	return data
}

// P13.2: sequences without a pattern, and what becomes of them when a byte is
// changed, lost or added.
func TestCheckLikeReference(t *testing.T) {
	source := rand.New(rand.NewSource(1))
	seen := map[api.Errno]int{}
	for range 30000 {
		b := []byte(tree(t, source, source.Intn(14)))
		b = append([]byte(within(t, source.Intn(5), string(b))), tree(t, source, 2)...)
		if len(b) > 0 {
			at := source.Intn(len(b))
			switch source.Intn(4) {
			case 0:
				b[at] = byte(source.Int())
			case 1:
				b[at] ^= 1 << source.Intn(8)
			case 2:
				b = append(b[:at], b[at+1:]...)
			}
		}
		want := checkReference(0, string(b))
		seen[want]++
		checkCheck(t, "a tree", string(b), want)
	}
	for _, e := range []api.Errno{api.OK, api.ErrEnd, api.ErrBytes, api.ErrDeep} {
		if seen[e] < 300 {
			t.Errorf("%v: seen %d times", e, seen[e])
		}
	}
}

// rewritten is the elements of data, each of them read and written again, with
// those that are integers and object identifiers as numbers between.
func rewritten(t *testing.T, data string) string {
	t.Helper()
	out := ""
	for data != "" {
		tag, body, rest, e := der.Read(data)
		if e != api.OK {
			t.Fatalf("Read(%x): %v", data, e)
		}
		switch {
		case tag == 2:
			n, e := der.ReadInt(body)
			if e != api.OK {
				t.Errorf("ReadInt(%x): %v", body, e)
			}
			out += der.Int(n)
		case tag == 6:
			l, e := der.ReadOid(body)
			if e != api.OK {
				t.Errorf("ReadOid(%x): %v", body, e)
			}
			again, _ := der.Oid(l...)
			out += again
		case tag/32%2 == 1:
			out += written(t, tag, rewritten(t, body))
		default:
			out += written(t, tag, body)
		}
		data = rest
	}
	return out
}

// P13.1, P13.2, P13.5: a certificate that the Go library makes is right, and
// each of its elements is the same when it is written again; what is left of
// it when its end is lost is wrong.
func TestCertificate(t *testing.T) {
	key := ed25519.NewKeyFromSeed([]byte(sample(1, 32)))
	template := &x509.Certificate{
		SerialNumber: big.NewInt(1<<62 - 5),
		Subject:      pkix.Name{CommonName: "sender", Organization: []string{"a", "b"}, Country: []string{"AT"}},
		NotBefore:    time.Unix(0, 0),
		NotAfter:     time.Unix(253402300799, 0),
		DNSNames:     []string{"example.org", strings.Repeat("long.", 30) + "example.org"},
		KeyUsage:     x509.KeyUsageDigitalSignature,
		IsCA:         true, BasicConstraintsValid: true,
	}
	data, err := x509.CreateCertificate(nil, template, template, key.Public(), key)
	if err != nil {
		t.Fatal(err)
	}
	checkCheck(t, "a certificate", string(data), api.OK)
	if again := rewritten(t, string(data)); again != string(data) {
		t.Errorf("%x, not %x", again, data)
	}
	for cut := 1; cut < len(data); cut++ {
		checkCheck(t, "a certificate that is cut", string(data[:cut]), api.ErrEnd)
	}
}

func BenchmarkCheck(b *testing.B) {
	data := strings.Repeat(within(b, 7, "\x05\x00\x04\x01x"), 100)
	b.SetBytes(int64(len(data)))
	for b.Loop() {
		if e := der.Check(data); e != api.OK {
			b.Fatal(e)
		}
	}
}
