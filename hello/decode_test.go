package hello_test

import (
	"encoding/hex"
	"math/rand"
	"slices"
	"strings"
	"sync"
	"testing"
	"unsafe"

	"cresset/api"
	"cresset/hello"
)

// layouts are those of all kinds, by the kind and how many bytes they have.
var layouts = sync.OnceValue(func() map[[2]int]string {
	all := map[[2]int]string{}
	for _, kind := range kinds() {
		least, most := amounts(kind)
		for n := least; n <= most; n++ {
			text := layout(kind, n)
			all[[2]int{kind, len(text) / 2}] = text
		}
	}
	return all
})

// read is what a body says, if it has a layout of the kind.
func read(kind int, body string) (hello.Message, bool) {
	text, found := layouts()[[2]int{kind, len(body)}]
	if !found {
		return hello.Message{}, false
	}
	var fields [256]string
	said := hex.EncodeToString([]byte(body))
	for i := 0; i < len(text); {
		end := i
		for end < len(text) && text[end] == text[i] && strings.IndexByte("rhstk", text[i]) >= 0 {
			end++
		}
		if end > i {
			fields[text[i]], i = body[i/2:end/2], end
			continue
		}
		if text[i] != said[i] {
			return hello.Message{}, false
		}
		i++
	}
	m := hello.Message{Kind: kind, Random: fields['r'], Share: fields['h'], Data: fields['t'], Ask: fields['k'] == "\x01"}
	for s := fields['s']; s != ""; s = s[2:] {
		m.Suites = append(m.Suites, 256*int(s[0])+int(s[1]))
	}
	return m, kind != 24 || m.Ask || fields['k'] == "\x00"
}

// reference is Decode by the document's words, sentence by sentence.
func reference(data string) (hello.Message, string, api.Errno) {
	if len(data) < 4 {
		return hello.Message{}, "", api.ErrBusy
	}
	size := 65536*int(data[1]) + 256*int(data[2]) + int(data[3])
	if size > mostBody {
		return hello.Message{}, "", api.ErrBig
	}
	if len(data)-4 < size {
		return hello.Message{}, "", api.ErrBusy
	}
	m, is := read(int(data[0]), data[4:4+size])
	if !is {
		return hello.Message{}, "", api.ErrBytes
	}
	return m, data[4+size:], api.OK
}

// checkDecode holds Decode against the document's words, and Encode against
// what it has answered.
func checkDecode(t *testing.T, data string) api.Errno {
	t.Helper()
	want, behind, wantError := reference(data)
	got, rest, e := hello.Decode(data)
	if !same(got, want) || rest != behind || e != wantError {
		t.Errorf("Decode(%x) = %+v, %x, %v, not %+v, %x, %v", data, got, rest, e, want, behind, wantError)
	}
	if e == api.OK {
		if again, e := hello.Encode(got); again+rest != data || e != api.OK {
			t.Errorf("Encode(%+v) = %x, %v, not what %x begins with", got, again, e, data)
		}
	}
	return e
}

// checkError checks that Decode answers the error, and nothing else.
func checkError(t *testing.T, data string, want api.Errno) {
	t.Helper()
	if m, rest, e := hello.Decode(data); !same(m, hello.Message{}) || m.Suites != nil || rest != "" || e != want {
		t.Errorf("Decode(%d bytes that begin with %x) = %+v, %x, %v, not %v", len(data), data[:min(len(data), 100)], m, rest, e, want)
	}
	checkDecode(t, data)
}

// withBody is a kind and a body, counted as it should be.
func withBody(kind int, body string) string {
	return byteString(kind, len(body)>>16, len(body)>>8, len(body)) + body
}

// P16.2: the document's examples, and what else is written out.
func TestErrors(t *testing.T) {
	for _, c := range []struct {
		data string
		want api.Errno
	}{
		{"08 00 00 02 00 01", api.ErrBytes}, {"08 00 00", api.ErrBusy}, {"", api.ErrBusy}, {"08", api.ErrBusy}, {"08 00", api.ErrBusy},
		{"08 00 00 02", api.ErrBusy}, {"08 00 00 02 00", api.ErrBusy}, {"08 00 00 00", api.ErrBytes}, {"08 00 00 01 00", api.ErrBytes},
		{"08 00 00 03 00 00 00", api.ErrBytes}, {"08 00 00 02 01 00", api.ErrBytes}, {"08 00 00 02 00 00", api.OK},
		{"08 00 10 00", api.ErrBusy}, {"08 00 10 01", api.ErrBig}, {"08 00 11 00", api.ErrBig}, {"08 01 00 02 00 00", api.ErrBig}, {"08 80 00 02 00 00", api.ErrBig}, {"ff ff ff ff", api.ErrBig},
		{"18 00 00 01 00", api.OK}, {"18 00 00 01 01", api.OK}, {"18 00 00 01 02", api.ErrBytes}, {"18 00 00 01 ff", api.ErrBytes},
		{"18 00 00 00", api.ErrBytes}, {"18 00 00 02 01 00", api.ErrBytes}, {"18 00 00 02 00 01", api.ErrBytes},
		{"00 00 00 00", api.ErrBytes}, {"00 00 00 02 00 00", api.ErrBytes}, {"09 00 00 02 00 00", api.ErrBytes}, {"19 00 00 01 00", api.ErrBytes}, {"88 00 00 02 00 00", api.ErrBytes},
		{"01 00 00 00", api.ErrBytes}, {"02 00 00 00", api.ErrBytes}, {"0b 00 00 00", api.ErrBytes}, {"0d 00 00 00", api.ErrBytes}, {"0f 00 00 00", api.ErrBytes}, {"14 00 00 00", api.ErrBytes},
		{"0b 00 00 09 00 00 00 05 00 00 00 00 00", api.ErrBytes}, {"0b 00 00 04 00 00 00 00", api.ErrBytes}, {"0b 00 00 0a 00 00 00 06 00 00 01 61 00 00", api.OK},
		{"0b 00 00 0b 01 63 00 00 06 00 00 01 61 00 00", api.ErrBytes}, {"0b 00 00 0a 00 00 00 06 00 00 00 61 00 00", api.ErrBytes}, {"0b 00 00 0a 00 00 00 06 00 00 02 61 00 00", api.ErrBytes},
		{"0d 00 00 0b 00 00 08 00 0d 00 04 00 02 08 07", api.OK}, {"0d 00 00 0b 00 00 08 00 0d 00 04 00 02 08 08", api.ErrBytes}, {"0d 00 00 0b 00 00 08 00 0d 00 04 00 02 04 03", api.ErrBytes},
		{"0d 00 00 0d 00 00 0a 00 0d 00 06 00 04 08 07 04 03", api.ErrBytes}, {"0d 00 00 0c 01 61 00 08 00 0d 00 04 00 02 08 07", api.ErrBytes}, {"0d 00 00 03 00 00 00", api.ErrBytes},
	} {
		data := unhex(t, c.data)
		if c.want != api.OK {
			checkError(t, data, c.want)
		} else if e := checkDecode(t, data); e != api.OK {
			t.Errorf("Decode(%s): %v", c.data, e)
		}
	}
}

// P16.2: every kind with every length of the body up to some hundreds, around
// the greatest one and above it, and with more or fewer bytes behind that: which
// error is answered.
func TestWhichError(t *testing.T) {
	long := zeros(1 << 17)
	lengths := []int{255, 256, 257, 1000, 1008, 1009, 1010, 4095, 4096, 4097, 4098, 8192, 4096 + 256, 1 << 15, 65535, 65536, 65536 + 2, 65536 + 4096, 1 << 17, 1 << 20, 1<<20 + 2, 1<<23 + 1, 1<<24 - 1}
	for n := range 140 {
		lengths = append(lengths, n)
	}
	for kind := range 256 {
		for _, n := range lengths {
			head := byteString(kind, n>>16, n>>8, n)
			for _, there := range []int{0, 1, 2, n - 1, n, n + 1, n + 70, 4095, 4096, 4097} {
				if there < 0 || there > len(long) {
					continue
				}
				e := checkDecode(t, head+long[:there])
				switch {
				case n > mostBody:
					if e != api.ErrBig {
						t.Errorf("%x and %d bytes: %v", head, there, e)
					}
				case there < n:
					if e != api.ErrBusy {
						t.Errorf("%x and %d bytes: %v", head, there, e)
					}
				case !slices.Contains(kinds(), kind):
					if e != api.ErrBytes {
						t.Errorf("%x and %d bytes: %v", head, there, e)
					}
				}
			}
		}
	}
}

// P16.2: fewer than four bytes, whatever they are.
func TestShort(t *testing.T) {
	checkError(t, "", api.ErrBusy)
	for a := range 256 {
		checkError(t, byteString(a), api.ErrBusy)
		for _, b := range []int{0, 1, 2, 16, 17, 127, 128, 255, a} {
			checkError(t, byteString(a, b), api.ErrBusy)
			checkError(t, byteString(a, b, a), api.ErrBusy)
			checkError(t, byteString(b, b, a), api.ErrBusy)
		}
	}
}

// P16.2: encodings that are cut at each place.
func TestCuts(t *testing.T) {
	for _, m := range several() {
		data := encoded(t, m)
		for n := range data {
			checkError(t, data[:n], api.ErrBusy)
		}
	}
}

// P16.2: bodies that are cut at each place, from either end, or that have a
// byte more or less anywhere, with the length that belongs to that.
func TestOtherLengths(t *testing.T) {
	for _, m := range several() {
		body := encoded(t, m)[4:]
		for n := range len(body) + 1 {
			for _, b := range []string{"\x00", "\x01", "x", body[:min(1, n)]} {
				for _, rest := range []string{"", "x"} {
					checkDecode(t, withBody(m.Kind, body[:n])+rest)
					checkDecode(t, withBody(m.Kind, body[n:])+rest)
					checkDecode(t, withBody(m.Kind, body[:n]+b+body[n:])+rest)
					checkDecode(t, withBody(m.Kind, body[:n]+body[min(n+1, len(body)):])+rest)
				}
			}
		}
	}
}

// P16.2: a length that is a little too small or too great, with the same body
// and bytes behind it.
func TestLengthsOfBodies(t *testing.T) {
	for _, m := range several() {
		data := encoded(t, m)
		size := len(data) - 4
		for n := max(0, size-300); n <= size+300; n++ {
			for _, rest := range []string{"", "x", zeros(299), zeros(300), data} {
				e := checkDecode(t, byteString(m.Kind, n>>16, n>>8, n)+data[4:]+rest)
				switch {
				case n == size:
					if e != api.OK {
						t.Errorf("%x: %v", data, e)
					}
				case n > size+len(rest):
					if e != api.ErrBusy {
						t.Errorf("%x with the length %d: %v", data, n, e)
					}
				case e != api.ErrBytes:
					t.Errorf("%x with the length %d: %v", data, n, e)
				}
			}
		}
	}
}

// P16.2, P16.3: each byte of the encodings in turn, with each other value; in
// the midst of long Data, with each bit another one.
func TestChangedBytes(t *testing.T) {
	for _, m := range several() {
		data := []byte(encoded(t, m) + "x")
		for i := range len(data) - 1 {
			inside := i > 120 && i < len(data)-10
			right := data[i]
			for change := 1; change < 256; change++ {
				if inside && change&(change-1) != 0 {
					continue
				}
				data[i] = right ^ byte(change)
				checkDecode(t, string(data))
			}
			data[i] = right
		}
	}
}

// P16.2: two bytes of the encodings at once.
func TestTwoChangedBytes(t *testing.T) {
	r := rand.New(rand.NewSource(1))
	for _, m := range several() {
		data := []byte(encoded(t, m))
		for range 6000 {
			i, j := 4+r.Intn(min(len(data)-4, 90)), 4+r.Intn(len(data)-4)
			a, b := data[i], data[j]
			data[i] += byte(r.Intn(5) - 2)
			data[j] ^= 1 << r.Intn(8)
			checkDecode(t, string(data))
			data[j], data[i] = b, a
			if data[i] != a {
				t.Fatal("not undone")
			}
		}
	}
}

// counted is s behind its length.
func counted(bytes int, s string) string {
	n := len(s)
	return byteString(n>>16, n>>8, n)[3-bytes:] + s
}

// clientParts are the parts of a Client's body, which may be wrong.
type clientParts struct {
	version, random, session, suites, codings string
	extensions                                []string
}

func (p clientParts) body() string {
	return p.version + p.random + counted(1, p.session) + counted(2, p.suites) + p.codings + counted(2, strings.Join(p.extensions, ""))
}

// extension is one of a number.
func extension(number int, body string) string {
	return byteString(number>>8, number) + counted(2, body)
}

// usualClient are the parts of one that is right.
func usualClient() clientParts {
	return clientParts{"\x03\x03", sample(1, 32), "", "\x13\x01\x13\x03", "\x01\x00", []string{
		extension(43, "\x02\x03\x04"), extension(10, counted(2, "\x00\x1d")), extension(13, counted(2, "\x08\x07")), extension(51, counted(2, "\x00\x1d"+counted(2, sample(2, 32)))),
	}}
}

// P16.2: bodies of a Client which are right but for one part, all lengths being
// those of what they count.
func TestOtherClients(t *testing.T) {
	usual := usualClient()
	want := hello.Message{Kind: 1, Random: sample(1, 32), Share: sample(2, 32), Suites: []int{4865, 4867}}
	if m, rest, e := hello.Decode(withBody(1, usual.body())); !same(m, want) || rest != "" || e != api.OK {
		t.Fatalf("%+v, %x, %v", m, rest, e)
	}
	refuse := func(p clientParts) {
		t.Helper()
		checkError(t, withBody(1, p.body()), api.ErrBytes)
		checkError(t, withBody(1, p.body())+"behind", api.ErrBytes)
	}
	for _, s := range []string{"", "\x03", "\x03\x01", "\x03\x04", "\x02\x03", "\x03\x03\x03"} {
		p := usual
		p.version = s
		refuse(p)
	}
	for _, n := range []int{0, 1, 31, 33, 64} {
		p := usual
		p.random = sample(3, n)
		refuse(p)
	}
	for _, n := range []int{1, 2, 16, 31, 32, 33, 255} {
		p := usual
		p.session = sample(4, n)
		refuse(p)
		p.session = zeros(n)
		refuse(p)
	}
	for n := range 600 {
		if p := usual; n > 8 || n%2 == 1 || n == 0 {
			p.suites = sample(5, n)
			refuse(p)
		} else {
			p.suites = sample(5, n)
			if e := checkDecode(t, withBody(1, p.body())); e != api.OK {
				t.Errorf("%d bytes of suites: %v", n, e)
			}
		}
	}
	for _, s := range []string{"", "\x00", "\x01", "\x01\x01", "\x02\x00\x01", "\x02\x01\x00", "\x00\x00", "\x01\x00\x00"} {
		p := usual
		p.codings = s
		refuse(p)
	}
}

// P16.2: extensions of a Client and of a Server that are others, or fewer, or
// more, or in another order, all lengths being those of what they count.
func TestOtherExtensions(t *testing.T) {
	client := usualClient()
	server := []string{extension(43, "\x03\x04"), extension(51, "\x00\x1d"+counted(2, sample(2, 32)))}
	serverBody := func(list []string) string {
		return "\x03\x03" + sample(1, 32) + "\x00\x13\x03\x00" + counted(2, strings.Join(list, ""))
	}
	if e := checkDecode(t, withBody(2, serverBody(server))); e != api.OK {
		t.Fatal(e)
	}
	refuse := func(clients, servers []string) {
		t.Helper()
		p := client
		p.extensions = clients
		checkError(t, withBody(1, p.body()), api.ErrBytes)
		checkError(t, withBody(2, serverBody(servers)), api.ErrBytes)
	}
	others := []string{extension(0, ""), extension(41, "x"), extension(43, "\x02\x03\x04"), extension(43, "\x03\x04"), extension(43, "\x03\x03"), extension(43, "\x04\x03\x04\x03\x03"), extension(10, counted(2, "\x00\x1d\x00\x17")), extension(10, counted(2, "\x00\x17")),
		extension(13, counted(2, "\x08\x07\x04\x03")), extension(13, counted(2, "\x04\x03")), extension(13, ""), extension(51, ""), extension(51, "\x00\x1d"), extension(51, counted(2, "")),
		extension(51, "\x00\x17"+counted(2, sample(2, 32))), extension(51, counted(2, "\x00\x17"+counted(2, sample(2, 32))))}
	for _, n := range []int{0, 1, 31, 33, 34, 64, 65, 255} {
		others = append(others, extension(51, "\x00\x1d"+counted(2, sample(2, n))), extension(51, counted(2, "\x00\x1d"+counted(2, sample(2, n)))))
	}
	for _, other := range append(others, "", "\x00", "\x00\x00", "\x00\x2b") {
		for i := range client.extensions {
			clients, servers := slices.Clone(client.extensions), slices.Clone(server)
			if clients[i] != other && servers[i%2] != other {
				clients[i], servers[i%2] = other, other
				refuse(clients, servers)
			}
			if other != "" {
				refuse(slices.Insert(slices.Clone(client.extensions), i, other), slices.Insert(slices.Clone(server), i%3, other))
			}
		}
	}
	refuse(append(slices.Clone(client.extensions), extension(0, "")), append(slices.Clone(server), extension(0, "")))
	refuse(nil, nil)
	refuse(slices.Concat(client.extensions, client.extensions), slices.Concat(server, server))
	refuse(server, client.extensions)
	for i := range 4 {
		for j := range i {
			clients, servers := slices.Clone(client.extensions), slices.Clone(server)
			clients[i], clients[j] = clients[j], clients[i]
			slices.Reverse(servers)
			refuse(clients, servers)
		}
	}
}

// P16.2: bodies of a Server which are right but for one part.
func TestOtherServers(t *testing.T) {
	tail := counted(2, extension(43, "\x03\x04")+extension(51, "\x00\x1d"+counted(2, sample(2, 32))))
	for _, c := range []struct{ version, random, session, suite, coding string }{
		{"\x03\x04", sample(1, 32), "", "\x13\x01", "\x00"}, {"\x03", sample(1, 33), "", "\x13\x01", "\x01"},
		{"\x03\x03", sample(1, 31), "", "\x13\x01", "\x00"}, {"\x03\x03", sample(1, 33), "", "\x13\x01", "\x00"},
		{"\x03\x03", sample(1, 32), "s", "\x13\x01", "\x00"}, {"\x03\x03", sample(1, 32), sample(3, 32), "\x13\x01", "\x00"},
		{"\x03\x03", sample(1, 32), "", "", "\x00"}, {"\x03\x03", sample(1, 32), "", "\x13", "\x00"}, {"\x03\x03", sample(1, 32), "", "\x13\x01\x13", "\x00"}, {"\x03\x03", sample(1, 32), "", "\x13\x01\x13\x03", "\x00"},
		{"\x03\x03", sample(1, 32), "", "\x00\x02\x13\x01", "\x00"}, {"\x03\x03", sample(1, 32), "", "\x13\x01", ""}, {"\x03\x03", sample(1, 32), "", "\x13\x01", "\x01"}, {"\x03\x03", sample(1, 32), "", "\x13\x01", "\x01\x00"},
	} {
		body := c.version + c.random + counted(1, c.session) + c.suite + c.coding + tail
		checkError(t, withBody(2, body), api.ErrBytes)
		checkError(t, withBody(2, body)+"\x00", api.ErrBytes)
	}
}

// P16.2: lengths within a Certificate and a Verify that are too small or too
// great, each alone and with the others.
func TestCountedLengths(t *testing.T) {
	tails := []string{"", "\x00", "\x00\x00\x00", "\x00\x00\x00\x00\x01x\x00\x00", "\x00\x01", "\x01\x00", "\x00\x01x", "\x00\x05\x00\x05\x00\x01x"}
	for _, n := range []int{1, 2, 3, 250, 251, 255, 256, 257, 999, 1000, 1001, 1002, 4079, 4087, 4088} {
		for a := -5; a <= 5; a++ {
			for _, inner := range []int{0, 1, n - 1, n, n + 1, n + 2, n + 3, n + 5, n + 7, n + 256, n + 65536} {
				list := n + 5 + a
				body := "\x00" + byteString(list>>16, list>>8, list) + byteString(inner>>16, inner>>8, inner) + sample(n, n)
				for _, tail := range tails {
					checkDecode(t, withBody(11, body+tail))
				}
				e := checkDecode(t, withBody(11, body+"\x00\x00"))
				if right := a == 0 && inner == n && n <= mostCertificate; right != (e == api.OK) {
					t.Errorf("%x: %v", body[:7], e)
				}
			}
		}
	}
	for n := range 300 {
		for _, scheme := range []string{"\x08\x07", "\x08\x08", "\x04\x03", "\x07\x08", "\x00\x07"} {
			for _, m := range []int{n, 64, n + 1, 64 + 256, 1} {
				e := checkDecode(t, withBody(15, scheme+byteString(m>>8, m)+sample(1, n)))
				if right := n == 64 && m == 64 && scheme == "\x08\x07"; right != (e == api.OK) {
					t.Errorf("Verify with %x, %d for %d bytes: %v", scheme, m, n, e)
				}
			}
		}
	}
}

// P16.2: how many bytes a Certificate and a Finished have, and an Update, all
// lengths being those of what they count.
func TestAmounts(t *testing.T) {
	data := sample(1, mostBody)
	for n := range mostBody - 8 {
		e := checkDecode(t, withBody(11, "\x00"+counted(3, counted(3, data[:n])+"\x00\x00")))
		if right := n >= 1 && n <= 1000; right != (e == api.OK) || !right && e != api.ErrBytes {
			t.Errorf("%d bytes: %v", n, e)
		}
	}
	for n := range 600 {
		for _, kind := range []int{8, 13, 20, 24} {
			for _, body := range []string{data[:n], zeros(n), strings.Repeat("\x01", n)} {
				checkDecode(t, withBody(kind, body))
			}
		}
	}
	for b := range 256 {
		e := checkDecode(t, withBody(24, byteString(b)))
		if (b < 2) != (e == api.OK) {
			t.Errorf("an Update of %d: %v", b, e)
		}
	}
}

// P16.2: the bodies of each kind as those of each other one.
func TestBodiesOfOtherKinds(t *testing.T) {
	for _, m := range several() {
		body := encoded(t, m)[4:]
		for kind := range 256 {
			want := api.ErrBytes
			if kind == m.Kind || kind == 20 && len(body) == 32 {
				want = api.OK
			}
			if e := checkDecode(t, withBody(kind, body)); e != want {
				t.Errorf("%x as kind %d: %v", body, kind, e)
			}
		}
	}
}

// P16.2: exactly the bytes behind the encoding are returned, whatever they are.
func TestRest(t *testing.T) {
	for _, m := range several() {
		data := encoded(t, m)
		for _, rest := range []string{"", "\x00", "\xff", "\x00\x00\x00", "\x08\x00\x00\x02\x00\x01", data, data + data, data[:len(data)-1], sample(1, 4096), sample(2, 70000), zeros(1 << 17)} {
			if got, behind, e := hello.Decode(data + rest); !same(got, m) || behind != rest || e != api.OK {
				t.Errorf("Decode(%x and %d bytes) = %+v, %d bytes, %v", data, len(rest), got, len(behind), e)
			}
		}
	}
}

// P16.2, P16.3: messages one behind the other, which are there up to a place.
func TestSequence(t *testing.T) {
	stream, ends := "", []int{0}
	list := several()
	for _, m := range list {
		stream += encoded(t, m)
		ends = append(ends, len(stream))
	}
	for cut := 0; cut <= len(stream); cut += 1 + cut/50%7 {
		rest, again, n := stream[:cut], "", 0
		for {
			m, behind, e := hello.Decode(rest)
			if e != api.OK {
				if e != api.ErrBusy {
					t.Errorf("%d: %v", cut, e)
				}
				break
			}
			if n == len(list) || !same(m, list[n]) {
				t.Fatalf("%d: %+v", cut, m)
			}
			text, _ := hello.Encode(m)
			again, rest, n = again+text, behind, n+1
		}
		if again+rest != stream[:cut] || ends[n] != len(again) || n < len(list) && cut >= ends[n+1] {
			t.Errorf("%d: %d messages, %d bytes, and %d bytes are left", cut, n, len(again), len(rest))
		}
	}
}

// anyMessage is a valid one by chance.
func anyMessage(r *rand.Rand) hello.Message {
	kind := kinds()[r.Intn(8)]
	least, most := amounts(kind)
	n := least + r.Intn(most-least+1)
	m := hello.Message{Kind: kind, Ask: kind == 24 && r.Intn(2) == 1}
	if kind > 2 {
		m.Data = sample(r.Int(), n)
		return m
	}
	m.Random, m.Share = sample(r.Int(), 32), sample(r.Int(), 32)
	for range n {
		m.Suites = append(m.Suites, r.Intn(65536))
	}
	return m
}

// P16.3: messages by chance, and their encodings with pieces left out, doubled
// and put elsewhere.
func TestByChance(t *testing.T) {
	r := rand.New(rand.NewSource(2))
	for range 30000 {
		m := anyMessage(r)
		checkEncode(t, m)
		data := encoded(t, m) + encoded(t, anyMessage(r))
		for range 3 {
			i, j := r.Intn(min(len(data), 120)+1), r.Intn(min(len(data), 120)+1)
			cut := data[min(i, j):max(i, j)]
			switch r.Intn(4) {
			case 0:
				checkDecode(t, data[:min(i, j)]+data[max(i, j):])
			case 1:
				checkDecode(t, data[:j]+cut+data[j:])
			case 2:
				checkDecode(t, data[i:])
			default:
				checkDecode(t, withBody(m.Kind, data[4:][:min(len(data)-4, i)]+cut))
			}
		}
	}
}

// R2: Suites stay as they are, also behind their end, and are not kept.
func TestSuitesAreNotChanged(t *testing.T) {
	memory := []int{9, 4865, 4867, 7, 8}
	m := withKeys(1, 1)
	m.Suites = memory[1:3]
	want := encoded(t, m)
	got, e := hello.Encode(m)
	if !slices.Equal(memory, []int{9, 4865, 4867, 7, 8}) {
		t.Errorf("%v", memory)
	}
	clear(memory)
	if got != want || e != api.OK {
		t.Errorf("%x, %v, not %x", got, e, want)
	}
}

// R2: the memory of the arguments stays as it is and may become something else:
// an answer has memory of its own, and so has each list.
func TestMemoryIsNotShared(t *testing.T) {
	for _, m := range several() {
		want := encoded(t, m)
		memory := []byte(want + "rest" + "behind")
		data := unsafe.String(&memory[0], len(want)+4)
		first, rest, e := hello.Decode(data)
		second, _, _ := hello.Decode(data)
		if string(memory) != want+"restbehind" {
			t.Error("an argument of Decode has changed")
		}
		clear(memory)
		if !same(first, m) || rest != "rest" || e != api.OK {
			t.Errorf("%+v, %x, %v, not %+v", first, rest, e, m)
		}
		for i := range first.Suites {
			first.Suites[i] = -1
		}
		_ = append(first.Suites, -1)
		if !same(second, m) {
			t.Errorf("%+v, not %+v", second, m)
		}
		checkEncodeMemory(t, m, want)
	}
}

// checkEncodeMemory encodes a message whose texts then become something else.
func checkEncodeMemory(t *testing.T, m hello.Message, want string) {
	t.Helper()
	memory := []byte(m.Random + m.Share + m.Data + "behind")
	random, share, data := len(m.Random), len(m.Share), len(m.Data)
	m.Random, m.Share, m.Data = unsafe.String(&memory[0], random), unsafe.String(&memory[random], share), unsafe.String(&memory[random+share], data)
	before := string(memory)
	got, e := hello.Encode(m)
	if string(memory) != before {
		t.Error("an argument of Encode has changed")
	}
	clear(memory)
	if got != want || e != api.OK {
		t.Errorf("%x, %v, not %x", got, e, want)
	}
}

// R3: calls at the same time do not see each other.
func TestAtTheSameTime(t *testing.T) {
	var all sync.WaitGroup
	for _, m := range several() {
		want := encoded(t, m)
		all.Go(func() {
			for range 200 {
				if got, e := hello.Encode(m); got != want || e != api.OK {
					t.Errorf("Encode(%+v) = %x, %v, not %x", m, got, e, want)
				}
				if got, rest, e := hello.Decode(want + "x"); !same(got, m) || rest != "x" || e != api.OK {
					t.Errorf("Decode(%x) = %+v, %x, %v", want, got, rest, e)
				}
			}
		})
	}
	all.Wait()
}

func BenchmarkDecodeClient(b *testing.B)      { benchmarkDecode(b, withKeys(1, 1, 4865, 4867)) }
func BenchmarkDecodeCertificate(b *testing.B) { benchmarkDecode(b, withData(11, mostCertificate)) }

func benchmarkDecode(b *testing.B, m hello.Message) {
	data := encoded(b, m)
	b.SetBytes(int64(len(data)))
	for b.Loop() {
		if _, _, e := hello.Decode(data); e != api.OK {
			b.Fatal(e)
		}
	}
}
