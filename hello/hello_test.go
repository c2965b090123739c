package hello_test

import (
	"encoding/hex"
	"math"
	"math/rand"
	"slices"
	"strconv"
	"strings"
	"testing"

	"cresset/api"
	"cresset/hello"
)

// Limits of the document.
const (
	mostBody        = 4096
	mostCertificate = 1000
)

// sample is n bytes of all values, without a short period; no two seeds have
// the same.
func sample(seed, n int) string {
	b := make([]byte, n)
	rand.New(rand.NewSource(int64(seed))).Read(b)
	return string(b)
}

// unhex is the bytes of hexadecimal digits, between which there may be spaces.
func unhex(t testing.TB, s string) string {
	t.Helper()
	b, err := hex.DecodeString(strings.ReplaceAll(s, " ", ""))
	if err != nil {
		t.Fatal(err)
	}
	return string(b)
}

// byteString is these bytes.
func byteString(b ...int) string {
	s := make([]byte, len(b))
	for i, n := range b {
		s[i] = byte(n)
	}
	return string(s)
}

// kinds are those of the document.
func kinds() []int { return []int{1, 2, 8, 11, 13, 15, 20, 24} }

// amounts are how many Suites, or bytes of Data, the messages of a kind have,
// the least and the greatest of them.
func amounts(kind int) (int, int) {
	switch kind {
	case 1:
		return 1, 4
	case 2:
		return 1, 1
	case 11:
		return 1, mostCertificate
	case 15:
		return 64, 64
	case 20:
		return 32, 32
	}
	return 0, 0
}

// layout is the body of a kind with n Suites, or bytes of Data, as it stands in
// the document's table: two digits for a byte, or two letters for one of a
// field.
func layout(kind, n int) string {
	switch kind {
	case 1:
		return "0303" + strings.Repeat("rr", 32) + "00" + digits(2, 2*n) + strings.Repeat("ssss", n) + "0100" +
			"0041" + "002b0003020304" + "000a00040002001d" + "000d000400020807" + "003300260024001d0020" + strings.Repeat("hh", 32)
	case 2:
		return "0303" + strings.Repeat("rr", 32) + "00" + "ssss" + "00" +
			"002e" + "002b00020304" + "00330024001d0020" + strings.Repeat("hh", 32)
	case 8:
		return "0000"
	case 11:
		return "00" + digits(3, 3+n+2) + digits(3, n) + strings.Repeat("tt", n) + "0000"
	case 13:
		return "0000" + "08000d000400020807"
	case 15:
		return "0807" + "0040" + strings.Repeat("tt", 64)
	case 20:
		return strings.Repeat("tt", 32)
	}
	return "kk"
}

// digits are those of n in so many bytes.
func digits(bytes, n int) string {
	s := strconv.FormatInt(int64(n), 16)
	return strings.Repeat("0", 2*bytes-len(s)) + s
}

// isValid is the document's word, field by field.
func isValid(m hello.Message) bool {
	if !slices.Contains(kinds(), m.Kind) {
		return false
	}
	hasKeys := m.Kind == 1 || m.Kind == 2
	if hasKeys && (len(m.Random) != 32 || len(m.Share) != 32) || !hasKeys && m.Random+m.Share != "" {
		return false
	}
	for _, n := range m.Suites {
		if n < 0 || n > 65535 {
			return false
		}
	}
	least, most := amounts(m.Kind)
	n, none := len(m.Data), len(m.Suites)
	if hasKeys {
		n, none = none, n
	}
	return n >= least && n <= most && none == 0 && (m.Kind == 24 || !m.Ask)
}

// encoded is the encoding of a valid message, by its layout.
func encoded(t testing.TB, m hello.Message) string {
	t.Helper()
	var suites []byte
	for _, n := range m.Suites {
		suites = append(suites, byte(n/256), byte(n%256))
	}
	ask := "\x00"
	if m.Ask {
		ask = "\x01"
	}
	text := layout(m.Kind, len(m.Suites)+len(m.Data))
	for letters, field := range map[string]string{"rr": m.Random, "hh": m.Share, "ss": string(suites), "tt": m.Data, "kk": ask} {
		if begin := strings.Index(text, letters); begin >= 0 {
			text = text[:begin] + hex.EncodeToString([]byte(field)) + text[begin+2*len(field):]
		}
	}
	return unhex(t, digits(1, m.Kind)+digits(3, len(text)/2)+text)
}

// withKeys is a Client or a Server.
func withKeys(kind, seed int, suites ...int) hello.Message {
	return hello.Message{Kind: kind, Random: sample(3*seed, 32), Share: sample(3*seed+1, 32), Suites: suites}
}

// withData is a message of a kind that has Data.
func withData(kind, n int) hello.Message {
	return hello.Message{Kind: kind, Data: sample(n, n)}
}

// several are valid messages of all kinds and of many sizes.
func several() []hello.Message {
	return []hello.Message{
		withKeys(1, 1, 4865, 4867), withKeys(1, 2, 0), withKeys(1, 3, 65535, 0, 258), withKeys(1, 4, 1, 256, 4867, 65280), withKeys(1, 5, 5, 5, 5, 5),
		withKeys(2, 6, 4867), withKeys(2, 7, 0), withKeys(2, 8, 65535),
		{Kind: 8}, {Kind: 13}, {Kind: 24}, {Kind: 24, Ask: true},
		withData(11, 1), withData(11, 2), withData(11, 32), withData(11, 64), withData(11, 246), withData(11, 247), withData(11, 250), withData(11, 251), withData(11, 255), withData(11, 256), withData(11, 300), withData(11, 999), withData(11, 1000),
		withData(15, 64), withData(20, 32),
		{Kind: 1, Random: zeros(32), Share: zeros(32), Suites: []int{0, 0, 0, 0}}, {Kind: 2, Random: zeros(32), Share: zeros(32), Suites: []int{0}},
		{Kind: 11, Data: zeros(5)}, {Kind: 15, Data: zeros(64)}, {Kind: 20, Data: zeros(32)},
	}
}

func zeros(n int) string { return strings.Repeat("\x00", n) }

// same tells whether two messages are the same one. An empty list is one, nil
// or not.
func same(a, b hello.Message) bool {
	return a.Kind == b.Kind && a.Random == b.Random && a.Share == b.Share && slices.Equal(a.Suites, b.Suites) && a.Data == b.Data && a.Ask == b.Ask
}

// checkEncode holds Encode against the document's words, and Decode against
// what Encode should answer, with other bytes behind it as well.
func checkEncode(t *testing.T, m hello.Message) {
	t.Helper()
	if !isValid(m) {
		if got, e := hello.Encode(m); got != "" || e != api.ErrArg {
			t.Errorf("Encode(%+v) = %x, %v", m, got, e)
		}
		return
	}
	want := encoded(t, m)
	if got, e := hello.Encode(m); got != want || e != api.OK {
		t.Errorf("Encode(%+v) = %x, %v, not %x", m, got, e, want)
	}
	for _, rest := range []string{"", "\x00", "rest", want} {
		if got, behind, e := hello.Decode(want + rest); !same(got, m) || behind != rest || e != api.OK {
			t.Errorf("Decode(%x) = %+v, %x, %v, not %+v, %x", want+rest, got, behind, e, m, rest)
		}
	}
}

// The constants have the document's numbers.
func TestConstants(t *testing.T) {
	got := []int{hello.Client, hello.Server, hello.Encrypted, hello.Certificate, hello.Request, hello.Verify, hello.Finished, hello.Update}
	if !slices.Equal(got, kinds()) {
		t.Errorf("%v, not %v", got, kinds())
	}
}

// P16.1, P16.2: encodings that are written out, among them the document's
// examples.
func TestWrittenOut(t *testing.T) {
	random, share := strings.Repeat("\xa5", 32), strings.Repeat("\x5a", 32)
	for _, c := range []struct {
		m    hello.Message
		want string
	}{
		{hello.Message{Kind: hello.Encrypted}, "08 00 00 02 00 00"},
		{hello.Message{Kind: hello.Update, Ask: true}, "18 00 00 01 01"},
		{hello.Message{Kind: hello.Update}, "18 00 00 01 00"},
		{hello.Message{Kind: hello.Request}, "0d 00 00 0b 00 00 08 00 0d 00 04 00 02 08 07"},
		{hello.Message{Kind: hello.Certificate, Data: "\xff"}, "0b 00 00 0a 00 00 00 06 00 00 01 ff 00 00"},
		{hello.Message{Kind: hello.Certificate, Data: strings.Repeat("\x07", 1000)}, "0b 00 03 f1 00 00 03 ed 00 03 e8" + strings.Repeat("07", 1000) + "00 00"},
		{hello.Message{Kind: hello.Verify, Data: strings.Repeat("\x01", 64)}, "0f 00 00 44 08 07 00 40" + strings.Repeat("01", 64)},
		{hello.Message{Kind: hello.Finished, Data: share}, "14 00 00 20" + strings.Repeat("5a", 32)},
		{hello.Message{Kind: hello.Server, Random: random, Share: share, Suites: []int{4865}}, "02 00 00 56 03 03" + strings.Repeat("a5", 32) +
			"00 13 01 00 00 2e 00 2b 00 02 03 04 00 33 00 24 00 1d 00 20" + strings.Repeat("5a", 32)},
		{hello.Message{Kind: hello.Client, Random: random, Share: share, Suites: []int{4867}}, "01 00 00 6c 03 03" + strings.Repeat("a5", 32) +
			"00 00 02 13 03 01 00 00 41 00 2b 00 03 02 03 04 00 0a 00 04 00 02 00 1d 00 0d 00 04 00 02 08 07 00 33 00 26 00 24 00 1d 00 20" + strings.Repeat("5a", 32)},
		{hello.Message{Kind: hello.Client, Random: random, Share: share, Suites: []int{65535, 0, 1, 256}}, "01 00 00 72 03 03" + strings.Repeat("a5", 32) +
			"00 00 08 ff ff 00 00 00 01 01 00 01 00 00 41 00 2b 00 03 02 03 04 00 0a 00 04 00 02 00 1d 00 0d 00 04 00 02 08 07 00 33 00 26 00 24 00 1d 00 20" + strings.Repeat("5a", 32)},
	} {
		want := unhex(t, c.want)
		if got, e := hello.Encode(c.m); got != want || e != api.OK {
			t.Errorf("Encode(%+v) = %x, %v, not %x", c.m, got, e, want)
		}
		if got, rest, e := hello.Decode(want); !same(got, c.m) || rest != "" || e != api.OK {
			t.Errorf("Decode(%x) = %+v, %x, %v, not %+v", want, got, rest, e, c.m)
		}
		checkEncode(t, c.m)
	}
}

// P16.1, P16.3: messages of all kinds.
func TestSeveral(t *testing.T) {
	for _, m := range several() {
		if !isValid(m) {
			t.Fatalf("%+v is not valid", m)
		}
		checkEncode(t, m)
	}
}

// otherKinds are numbers that are no kinds, among them some that would be one
// if only their low bits counted, or only their size.
func otherKinds() []int {
	const far = 1 << 32
	list := []int{math.MinInt, math.MaxInt, -far, far, 1 << 24, -128, -256}
	for _, kind := range kinds() {
		list = append(list, -kind, ^kind, kind+256, kind-256, kind+512, kind+1<<16, kind+1<<24, kind+far, kind-far, kind+math.MinInt, kind<<8, kind<<24, kind^64, kind^128)
	}
	return list
}

// P16.1: each kind and other numbers, with the fields that each kind has.
func TestKindsOfEncode(t *testing.T) {
	numbers := otherKinds()
	for kind := -300; kind < 800; kind++ {
		numbers = append(numbers, kind)
	}
	for _, kind := range numbers {
		for _, m := range several() {
			m.Kind = kind
			checkEncode(t, m)
		}
	}
}

// P16.1: all the fields together, each of them as it may be in some kind or
// other and a little less or more.
func TestAllFields(t *testing.T) {
	texts := []string{"", "x", sample(1, 31), sample(2, 32), sample(3, 33)}
	suites := [][]int{nil, {}, {4865}, {1, 2}, {1, 2, 3}, {1, 2, 3, 4}, {1, 2, 3, 4, 5}, {-1}, {1, 65536}}
	data := sample(4, mostCertificate+1)
	for _, kind := range append(kinds(), -1, 0, 3, 9, 12, 14, 16, 19, 21, 25, 256, 256+1, 256+24) {
		for _, random := range texts {
			for _, share := range texts {
				for _, list := range suites {
					for _, n := range []int{0, 1, 31, 32, 33, 63, 64, 65, mostCertificate, mostCertificate + 1} {
						for _, ask := range []bool{false, true} {
							checkEncode(t, hello.Message{Kind: kind, Random: random, Share: share, Suites: list, Data: data[:n], Ask: ask})
						}
					}
				}
			}
		}
	}
}

// P16.1: each field in turn, where the kind does not have it.
func TestFieldsOfOtherKinds(t *testing.T) {
	for _, m := range several() {
		if m.Random == "" {
			for _, n := range []int{1, 31, 32, 33, 64} {
				random, share := m, m
				random.Random, share.Share = sample(1, n), sample(1, n)
				checkEncode(t, random)
				checkEncode(t, share)
			}
			for _, list := range [][]int{{0}, {4865}, {1, 2}, {65536}, {-1}, make([]int, 5)} {
				m := m
				m.Suites = list
				checkEncode(t, m)
			}
		}
		if m.Data == "" {
			for _, n := range []int{1, 2, 32, 64, 1000, 1001} {
				m := m
				m.Data = zeros(n)
				checkEncode(t, m)
			}
		}
		m.Ask = !m.Ask
		checkEncode(t, m)
	}
}

// P16.1: Random and Share of each length.
func TestLengthsOfKeys(t *testing.T) {
	lengths := []int{256, 256 + 32, 1000, 65536, 65536 + 32, 1 << 20}
	for n := range 130 {
		lengths = append(lengths, n)
	}
	for _, n := range lengths {
		for _, m := range []hello.Message{withKeys(1, 1, 4865), withKeys(2, 2, 4867)} {
			random, share, both := m, m, m
			random.Random, share.Share = sample(n, n), sample(n, n)
			both.Random, both.Share = random.Random, share.Share
			checkEncode(t, random)
			checkEncode(t, share)
			checkEncode(t, both)
		}
		if n <= 64 {
			m := withKeys(1, 1, 4865)
			m.Random, m.Share = sample(1, n), sample(2, 64-n)
			checkEncode(t, m)
		}
	}
}

// P16.1: how many Suites there are.
func TestNumbersOfSuites(t *testing.T) {
	for _, n := range []int{0, 1, 2, 3, 4, 5, 6, 7, 8, 16, 127, 128, 129, 255, 256, 257, 260, 1000, 32768, 32769, 65536, 65537, 65540} {
		list := make([]int, n)
		for i := range list {
			list[i] = (i*257 + n) % 65536
		}
		checkEncode(t, withKeys(1, n, list...))
		checkEncode(t, withKeys(2, n, list...))
	}
}

// P16.1: each suite of a Server and of a Client, and numbers that are none, at
// each place.
func TestSuites(t *testing.T) {
	client, server := withKeys(1, 1, 0, 0), withKeys(2, 2, 0)
	for n := range 65536 {
		client.Suites[n%2], client.Suites[1-n%2], server.Suites[0] = n, n*40503%65536, n
		for _, m := range []hello.Message{client, server} {
			want := encoded(t, m)
			if got, e := hello.Encode(m); got != want || e != api.OK {
				t.Errorf("Encode(%+v) = %x, %v, not %x", m, got, e, want)
			}
			if got, rest, e := hello.Decode(want); !same(got, m) || rest != "" || e != api.OK {
				t.Errorf("Decode(%x) = %+v, %x, %v, not %+v", want, got, rest, e, m)
			}
		}
	}
	for _, wrong := range []int{-1, -2, -4865, -65535, -65536, 65536, 65537, 65536 + 4865, 1<<17 - 1, 1 << 24, 1 << 32, 1<<32 + 4865, 4865 - 1<<32, math.MaxInt, math.MinInt, math.MinInt + 4865, 0, 65535} {
		checkEncode(t, withKeys(2, 1, wrong))
		for n := 1; n <= 5; n++ {
			for i := range n {
				list := slices.Repeat([]int{4867}, n)
				list[i] = wrong
				checkEncode(t, withKeys(1, 1, list...))
			}
		}
	}
}

// P16.1: Data of each length for each kind, also where it is the length of
// another one.
func TestLengthsOfData(t *testing.T) {
	lengths := []int{4080, 4087, 4088, 4096, 4097, 65535, 65536, 65536 + 1, 65536 + 32, 65536 + 64, 65536 + 300, 1 << 24, 1<<24 + 1, 1<<24 + 64}
	for n := range 1300 {
		lengths = append(lengths, n)
	}
	data := sample(1, 1<<24+64)
	for _, n := range lengths {
		for _, kind := range kinds() {
			checkEncode(t, hello.Message{Kind: kind, Data: data[:n]})
		}
	}
}

func BenchmarkEncodeClient(b *testing.B)      { benchmarkEncode(b, withKeys(1, 1, 4865, 4867)) }
func BenchmarkEncodeCertificate(b *testing.B) { benchmarkEncode(b, withData(11, mostCertificate)) }

func benchmarkEncode(b *testing.B, m hello.Message) {
	b.SetBytes(int64(len(encoded(b, m))))
	for b.Loop() {
		if _, e := hello.Encode(m); e != api.OK {
			b.Fatal(e)
		}
	}
}
