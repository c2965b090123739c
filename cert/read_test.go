package cert_test

import (
	"crypto/ed25519"
	"crypto/x509"
	"crypto/x509/pkix"
	"math/big"
	"math/rand"
	"regexp"
	"slices"
	"strings"
	"testing"
	"time"

	"cresset/api"
	"cresset/cert"
)

var (
	nameForm = regexp.MustCompile(`^[ -~]{1,32}$`)
	timeForm = regexp.MustCompile(`^[0-9]{14}Z$`)
)

// cursor goes through data element by element. What it finds wrong, it notes.
type cursor struct {
	left  string
	wrong *bool
}

func (r *cursor) fail() {
	*r.wrong = true
	r.left = ""
}

// next is the body of the element with this tag that has to be here.
func (r *cursor) next(tag byte) *cursor {
	head, n := 2, 0
	switch {
	case len(r.left) < 2 || r.left[0] != tag:
		head = 0
	case r.left[1] < 128:
		n = int(r.left[1])
	case r.left[1] == 129 && len(r.left) > 2 && r.left[2] >= 128:
		head, n = 3, int(r.left[2])
	case r.left[1] == 130 && len(r.left) > 3 && r.left[2] > 0:
		head, n = 4, int(r.left[2])<<8+int(r.left[3])
	default:
		head = 0
	}
	if head == 0 || len(r.left) < head+n {
		r.fail()
		return &cursor{"", r.wrong}
	}
	body := r.left[head : head+n]
	r.left = r.left[head+n:]
	return &cursor{body, r.wrong}
}

// text is the body of an element all of which is taken.
func (r *cursor) text(tag byte) string {
	return r.next(tag).left
}

// exactly is this text, which has to be here, and then the end.
func (r *cursor) exactly(s string) {
	if r.left != s {
		r.fail()
	}
}

func (r *cursor) algorithm() {
	r.next(48).exactly("\x06\x03\x2b\x65\x70")
}

func (r *cursor) name() string {
	all := r.next(48)
	one := all.next(49)
	all.exactly("")
	common := one.next(48)
	one.exactly("")
	if common.text(6) != "\x55\x04\x03" {
		r.fail()
	}
	name := common.text(12)
	common.exactly("")
	if !nameForm.MatchString(name) {
		r.fail()
	}
	return name
}

func (r *cursor) serial() int {
	b := r.text(2)
	if len(b) == 0 || len(b) > 8 || b[0] >= 128 || len(b) > 1 && b[0] == 0 && b[1] < 128 {
		r.fail()
		return 0
	}
	n := int(new(big.Int).SetBytes([]byte(b)).Int64())
	if n == 0 {
		r.fail()
	}
	return n
}

func (r *cursor) time() int {
	s := r.text(24)
	at, err := time.Parse("20060102150405Z", s)
	if err != nil || !timeForm.MatchString(s) || at.Unix() < 0 {
		r.fail()
	}
	return int(at.Unix())
}

// bits is a text of n bytes with the byte 0 ahead.
func (r *cursor) bits(n int) string {
	b := r.text(3)
	if len(b) != 1+n || b[0] != 0 {
		r.fail()
		return strings.Repeat("\x00", n)
	}
	return b[1:]
}

// readReference is Read, sentence by sentence, but for the signature: whether it
// is accepted, the Go library tells.
func readReference(data string) (api.Cert, api.Errno) {
	if len(data) > 1000 {
		return api.Cert{}, api.ErrBig
	}
	wrong := false
	all := &cursor{data, &wrong}
	whole := all.next(48)
	all.exactly("")
	start := len(whole.left)
	signed := whole.left
	in := whole.next(48)
	signed = signed[:start-len(whole.left)]
	whole.algorithm()
	signature := whole.bits(64)
	whole.exactly("")
	var c api.Cert
	c.Serial = in.serial()
	in.algorithm()
	c.Name = in.name()
	times := in.next(48)
	c.From, c.To = times.time(), times.time()
	times.exactly("")
	other := in.name()
	public := in.next(48)
	public.algorithm()
	c.Key = public.bits(32)
	public.exactly("")
	in.exactly("")
	if wrong || other != c.Name || c.To < c.From {
		return api.Cert{}, api.ErrBytes
	}
	if !ed25519.Verify([]byte(c.Key), []byte(signed), []byte(signature)) {
		return api.Cert{}, api.ErrSig
	}
	return c, api.OK
}

// checkRead holds Read against what it should answer: an error or, if it is none,
// what the reference answers.
func checkRead(t *testing.T, what, data string, want api.Errno) {
	t.Helper()
	wantCert, e := readReference(data)
	if e != want {
		t.Errorf("%s: the reference answers %v to %x, not %v", what, e, data, want)
	}
	if c, e := cert.Read(data); c != wantCert || e != want {
		t.Errorf("%s: Read(%x): %+v and %v, not %+v and %v", what, data, c, e, wantCert, want)
	}
}

// checkReadReference holds Read against the reference, whose error it returns.
func checkReadReference(t *testing.T, what, data string) api.Errno {
	t.Helper()
	_, want := readReference(data)
	checkRead(t, what, data, want)
	return want
}

// P14.3: the usual certificate, which the reference also reads.
func TestReadUsual(t *testing.T) {
	c, _ := usual()
	if got, e := cert.Read(usualData()); got != c || e != api.OK {
		t.Errorf("%+v, %v", got, e)
	}
	checkRead(t, "usual", usualData(), api.OK)
}

// P14.3: no bytes, few of them, and as many as there may be and more, be they a
// certificate with others behind it, elements, or nothing at all.
func TestSizes(t *testing.T) {
	data := usualData()
	checkRead(t, "none", "", api.ErrBytes)
	for n := range 1101 {
		want := api.ErrBytes
		if n > 1000 {
			want = api.ErrBig
		}
		checkRead(t, "zeros", strings.Repeat("\x00", n), want)
		checkRead(t, "lists", strings.Repeat("\x30\x00", n)[:n], want)
		checkRead(t, "all bits", strings.Repeat("\xff", n), want)
		if n != len(data) {
			checkRead(t, "a certificate and more", (data + strings.Repeat("\x00", n))[:n], want)
			checkRead(t, "many certificates", strings.Repeat(data, 6)[:n], want)
		}
	}
	for _, n := range []int{1000, 1001, 1002, 65535, 65536, 1 << 20} {
		want := api.ErrBytes
		if n > 1000 {
			want = api.ErrBig
		}
		checkRead(t, "large", sample(1, n), want)
	}
}

// P14.3: certificates that would be right but for what makes them too large,
// and which are as large as may be.
func TestLargeElements(t *testing.T) {
	c, seed := usual()
	for _, where := range [][]int{serialAt, issuerAt, subjectAt, fromAt, toAt, keyAt, signatureAt} {
		for n := 600; n < 1100; n++ {
			d := draft(c).sign(seed)
			d.at(where...).body += strings.Repeat("0", n)
			if !slices.Equal(where, signatureAt) {
				d.sign(seed)
			}
			data, want := d.bytes(), api.ErrBytes
			if len(data) > 1000 {
				want = api.ErrBig
			}
			if n > 650 && len(data) != 1000 && len(data) != 1001 {
				continue
			}
			checkRead(t, "large", data, want)
		}
	}
}

// P14.3: each byte changed to each other one, with the signature as it was.
// In the key and in the signature each bit is changed, and their first byte.
func TestChangedBytes(t *testing.T) {
	data := usualData()
	key, signature := strings.Index(data, "\x03\x21\x00")+3, len(data)-64
	seen := map[api.Errno]int{}
	for i := range len(data) {
		inside := i >= key && i < key+32 || i >= signature
		for v := range 255 {
			b := []byte(data)
			b[i] ^= byte(1 + v)
			if inside && v&(v+1) != 0 {
				continue
			}
			e := checkReadReference(t, "a changed byte", string(b))
			seen[e]++
			if e == api.OK || inside && e != api.ErrSig {
				t.Errorf("place %d, byte %d: %v", i, b[i], e)
			}
		}
	}
	if seen[api.ErrBytes] < 20000 || seen[api.ErrSig] < 768 {
		t.Errorf("%v", seen)
	}
}

// P14.3: each byte of the inner part changed to each other one, and signed
// again. So nothing is refused for the signature's sake.
func TestChangedBytesSignedAgain(t *testing.T) {
	c, seed := usual()
	inner := draft(c).at(0).bytes()
	key := strings.Index(inner, "\x03\x21\x00") + 3
	seen := map[api.Errno]int{}
	for i := range key {
		for v := range 255 {
			b := []byte(inner)
			b[i] ^= byte(1 + v)
			d := list(48, &node{raw: string(b)}, algorithmNode(), leaf(3, "\x00"+signatureOf(seed, string(b))))
			e := checkReadReference(t, "a changed byte", d.bytes())
			seen[e]++
			if e == api.ErrSig {
				t.Errorf("place %d, byte %d: the signature is wrong", i, b[i])
			}
		}
	}
	if seen[api.ErrBytes] < 20000 || seen[api.OK] < 250 {
		t.Errorf("%v", seen)
	}
}

// P14.3: each byte missing, and bytes added ahead of each and at the end.
func TestMissingAndAddedBytes(t *testing.T) {
	data := usualData()
	for i := range len(data) + 1 {
		checkRead(t, "cut", data[:i], readError(data[:i]))
		if i < len(data) {
			checkRead(t, "missing", data[:i]+data[i+1:], api.ErrBytes)
			checkRead(t, "from there on", data[i+1:], api.ErrBytes)
		}
		for _, b := range []byte{0, 1, 2, 3, 6, 12, 24, 48, 49, '0', 'Z', 127, 128, 129, 255} {
			checkRead(t, "added", data[:i]+string([]byte{b})+data[i:], api.ErrBytes)
		}
	}
}

// readError is what is wrong with a piece of the usual certificate: nothing, if
// it is all of it.
func readError(data string) api.Errno {
	if data == usualData() {
		return api.OK
	}
	return api.ErrBytes
}

// walk calls f for the element and for all in it, with the way there.
func walk(n *node, path []int, f func(path []int)) {
	f(path)
	for i, p := range n.parts {
		walk(p, append(slices.Clone(path), i), f)
	}
}

// deeds are what can be done to one element of a certificate. All lengths are
// right afterwards.
func deeds() []func(n *node) {
	all := []func(n *node){
		func(n *node) { n.body, n.parts = "", nil },
		func(n *node) { n.body = n.body[:max(0, len(n.body)-1)] },
		func(n *node) { n.body = n.body[min(1, len(n.body)):] },
		func(n *node) { n.body += n.body },
		func(n *node) { slices.Reverse(n.parts) },
		func(n *node) { n.parts = append(n.parts, n.parts...) },
		func(n *node) { *n = node{tag: 48, parts: []*node{{tag: n.tag, body: n.body, parts: n.parts}}} },
		func(n *node) { *n = node{tag: n.tag, parts: []*node{{tag: n.tag, body: n.body, parts: n.parts}}} },
		func(n *node) { *n = node{tag: 4, body: n.bytes()} },
	}
	for _, b := range []string{"\x00", "\x01", "\x7f", "\x80", "\xff", "0", "Z", " ", "\x05\x00", "\x30\x00", "\x04\x01x"} {
		all = append(all, func(n *node) { n.body += b }, func(n *node) { n.body = b + n.body }, func(n *node) { n.body = b })
	}
	for i := range 6 {
		all = append(all, func(n *node) {
			if i < len(n.parts) {
				n.parts = slices.Delete(slices.Clone(n.parts), i, i+1)
			} else {
				n.body += "x"
			}
		})
	}
	for i := range 7 {
		for _, extra := range []*node{leaf(5, ""), list(48), leaf(4, "x"), leaf(2, "\x01"), leaf(12, "sender"), leaf(3, "\x00"), algorithmNode()} {
			all = append(all, func(n *node) {
				if i <= len(n.parts) && len(n.parts) > 0 {
					n.parts = slices.Insert(slices.Clone(n.parts), i, extra)
				} else {
					n.body += "xx"
				}
			})
		}
	}
	for tag := range 256 {
		all = append(all, func(n *node) { n.tag ^= byte(tag) })
	}
	return all
}

// P14.3: elements that are others, missing, more, or in other places, in a
// certificate that is signed afterwards. Only a few deeds leave it right.
func TestOtherElements(t *testing.T) {
	c, seed := usual()
	seen := map[api.Errno]int{}
	walk(draft(c), nil, func(path []int) {
		for _, deed := range deeds() {
			d := draft(c).sign(seed)
			deed(d.at(path...))
			if len(path) > 0 && path[0] == 0 {
				signature := leaf(3, "\x00"+signatureOf(seed, d.at(0).bytes()))
				d.parts[len(d.parts)-1] = signature
			}
			e := checkReadReference(t, "another element", d.bytes())
			seen[e]++
			if e != api.OK && e != api.ErrBytes {
				t.Errorf("%v: %v to %x", path, e, d.bytes())
			}
		}
	})
	if seen[api.OK] == 0 || seen[api.OK] > 200 || seen[api.ErrBytes] < 5000 {
		t.Errorf("%v", seen)
	}
}

// checkSigned holds Read against the usual certificate, with one of its elements
// changed and signed afterwards: what it answers then, and with a signature that
// is not right.
func checkSigned(t *testing.T, what string, want api.Errno, change func(d *node)) {
	t.Helper()
	c, seed := usual()
	d := draft(c)
	change(d)
	checkRead(t, what, d.sign(seed).bytes(), want)
	if want == api.OK {
		want = api.ErrSig
	}
	d.at(signatureAt...).body = "\x00" + sample(1, 64)
	checkRead(t, what+" with a wrong signature", d.bytes(), want)
}

// P14.3: bodies of the serial number that are right, and others: 0, below 0, not
// in the shortest form, and with nine bytes.
func TestReadSerialNumbers(t *testing.T) {
	for _, c := range []struct {
		body string
		want api.Errno
	}{
		{"01", api.OK}, {"02", api.OK}, {"7f", api.OK}, {"0080", api.OK}, {"00ff", api.OK}, {"0100", api.OK}, {"7fff", api.OK}, {"008000", api.OK}, {"7fffffffffffff", api.OK}, {"0080000000000000", api.OK}, {"0100000000000000", api.OK}, {"7ffffffffffffffe", api.OK}, {"7fffffffffffffff", api.OK},
		{"", api.ErrBytes}, {"00", api.ErrBytes}, {"0000", api.ErrBytes}, {"0001", api.ErrBytes}, {"007f", api.ErrBytes}, {"000080", api.ErrBytes}, {"000000000000000001", api.ErrBytes},
		{"80", api.ErrBytes}, {"ff", api.ErrBytes}, {"fe", api.ErrBytes}, {"ff7f", api.ErrBytes}, {"ff80", api.ErrBytes}, {"ffff", api.ErrBytes}, {"ff00", api.ErrBytes}, {"8000", api.ErrBytes}, {"8000000000000000", api.ErrBytes}, {"ffffffffffffffff", api.ErrBytes}, {"8000000000000001", api.ErrBytes},
		{"008000000000000000", api.ErrBytes}, {"007fffffffffffffff", api.ErrBytes}, {"010000000000000000", api.ErrBytes}, {"010000000000000001", api.ErrBytes}, {"7fffffffffffffffff", api.ErrBytes}, {"800000000000000000", api.ErrBytes}, {"ff8000000000000000", api.ErrBytes}, {"ff7fffffffffffffff", api.ErrBytes}, {"01" + strings.Repeat("00", 15) + "01", api.ErrBytes},
	} {
		checkSigned(t, "serial number "+c.body, c.want, func(d *node) { d.at(serialAt...).body = unhex(t, c.body) })
	}
}

// P14.3: names that are none, at both places, and names that are not the same
// there.
func TestReadNames(t *testing.T) {
	both := func(what, one, other string, want api.Errno) {
		t.Helper()
		checkSigned(t, what, want, func(d *node) { d.at(issuerAt...).body, d.at(subjectAt...).body = one, other })
	}
	for _, name := range []string{" ", "~", "a", "A b", "CN=x", strings.Repeat("n", 31), strings.Repeat("n", 32), "\x20\x7e"} {
		both("a name", name, name, api.OK)
		both("a name and another one", name, "sender", api.ErrBytes)
		both("a name and another one", "sender", name, api.ErrBytes)
		both("a name and none", name, "", api.ErrBytes)
		both("no name and one", "", name, api.ErrBytes)
		both("a name and a longer one", name, name+" ", api.ErrBytes)
		both("a name and a shorter one", "x"+name, name, api.ErrBytes)
	}
	for _, name := range []string{"", strings.Repeat("n", 33), strings.Repeat("n", 127), strings.Repeat("n", 128), strings.Repeat("n", 300), "\x00", "\x1f", "\x7f", "\x80", "\xff", "a\x1f", "\x1fa", "a\x7f", "\x7fa", "a\x00b", "é", "a\n"} {
		both("no name", name, name, api.ErrBytes)
		both("no name and one", name, "sender", api.ErrBytes)
		both("a name and none", "sender", name, api.ErrBytes)
	}
	for b := range 256 {
		name, want := "na"+string([]byte{byte(b)})+"me", api.OK
		if b < 32 || b > 126 {
			want = api.ErrBytes
		}
		both("a byte", name, name, want)
	}
	both("upper and lower case", "Sender", "sender", api.ErrBytes)
	both("a bit", "sender", "sendes", api.ErrBytes)
}

// wrongTimes are texts that are no time, though they look like one, and others.
func wrongTimes() []string {
	l := []string{
		"20000001000000Z", "20001301000000Z", "20009901000000Z", "20000100000000Z", "20000132000000Z", "20000199000000Z", "20000230000000Z", "20010229000000Z", "21000229000000Z", "20000431000000Z", "20000631000000Z", "20000931000000Z", "20001131000000Z", "20001232000000Z",
		"20000101240000Z", "20000101250000Z", "20000101990000Z", "20000101006000Z", "20000101009900Z", "20000101000060Z", "20000101000061Z", "20000101000099Z", "20000101235960Z", "20161231235960Z", "20000101240000Z",
		"19691231235959Z", "19690101000000Z", "19000101000000Z", "00000000000000Z", "00000101000000Z", "00010101000000Z", "99991231235960Z", "99991232000000Z", "99991301000000Z", "99999999999999Z", "99991231240000Z",
		"", "Z", "20000101000000", "20000101000000z", "20000101000000+", "20000101000000ZZ", "20000101000000Z ", " 20000101000000Z", "200001010000000", "2000010100000Z", "200001010000Z", "000101000000Z", "700101000000Z", "120000101000000Z", "020000101000000Z", "100000101000000Z", "100000101000000",
		"20000101000000.0Z", "20000101000000.Z", "20000101000000+0000", "20000101000000-0000", "200001010000+0000", "20000101000000\x00", "2000010100000\x00Z", "2000-01-01T00:00Z",
		"+2000101000000Z", "-2000101000000Z", "2000+101000000Z", "200001-1000000Z", "20000101+00000Z", "2000010100-000Z", "200001010000 0Z", "200 0101000000Z", " 0000101000000Z", "0x000101000000Z", "2_000101000000Z", "19700101000000Y", "19700101000000[",
	}
	for i := range 14 {
		for _, b := range []byte{0, ' ', '+', '-', '.', '/', ':', 'A', 'Z', 'a', 0x80, 0xb0, 0xff} {
			l = append(l, "20000202020202Z"[:i]+string([]byte{b})+"20000202020202Z"[i+1:])
		}
	}
	return l
}

// P14.3: times that are none, as the first one, as the last one and as both.
func TestReadTimes(t *testing.T) {
	both := func(what, from, to string, want api.Errno) {
		t.Helper()
		checkSigned(t, what, want, func(d *node) { d.at(fromAt...).body, d.at(toAt...).body = from, to })
	}
	for _, s := range wrongTimes() {
		both("both none", s, s, api.ErrBytes)
		both("From is none", s, "99991231235959Z", api.ErrBytes)
		both("To is none", "19700101000000Z", s, api.ErrBytes)
	}
	for _, s := range []string{"19700101000000Z", "19700101000001Z", "19991231235959Z", "20000101000000Z", "20000228235959Z", "20000229000000Z", "20000229235959Z", "20000301000000Z", "20010228235959Z", "21000228235959Z", "24000229000000Z", "20001031000000Z", "20161231235959Z", "99991231235959Z"} {
		both("equal", s, s, api.OK)
		both("to the last one", s, "99991231235959Z", api.OK)
		both("from the first one", "19700101000000Z", s, api.OK)
	}
}

// P14.3: the first times and the last ones of months, and the days behind them.
func TestReadDays(t *testing.T) {
	for _, year := range []string{"1970", "1999", "2000", "2004", "2100", "9999"} {
		for month := range 14 {
			for _, day := range []int{0, 1, 27, 28, 29, 30, 31, 32} {
				s, want := year+padded(month)+padded(day)+"000000Z", api.OK
				if _, err := time.Parse("20060102150405Z", s); err != nil {
					want = api.ErrBytes
				}
				c, seed := usual()
				d := draft(c)
				d.at(fromAt...).body, d.at(toAt...).body = s, s
				checkRead(t, s, d.sign(seed).bytes(), want)
			}
		}
	}
}

// P14.3: times in the wrong order, by a second and by more.
func TestReadOrderOfTimes(t *testing.T) {
	for _, p := range [][2]string{
		{"19700101000001Z", "19700101000000Z"}, {"20000101000000Z", "19991231235959Z"}, {"20000301000000Z", "20000229235959Z"}, {"99991231235959Z", "99991231235958Z"}, {"99991231235959Z", "19700101000000Z"}, {"20100101000000Z", "20091231235959Z"},
	} {
		for i, want := range []api.Errno{api.ErrBytes, api.OK} {
			checkSigned(t, "an order", want, func(d *node) { d.at(fromAt...).body, d.at(toAt...).body = p[i], p[1-i] })
		}
	}
}

// P14.3: other object identifiers, at each of their places.
func TestReadObjectIdentifiers(t *testing.T) {
	for _, body := range []string{"", "2b", "2b65", "2b6570", "2b656f", "2b6571", "2b6e", "2b657000", "2b8065", "2b656570", "2be570", "2b806570", "802b6570", "2b65f000", "550403", "550402", "55040a", "5504", "55048003", "2a864886f70d01010b", "ffffffffffff7f", "80"} {
		for _, path := range algorithmsAt {
			want := api.ErrBytes
			if body == "2b6570" {
				want = api.OK
			}
			checkSigned(t, "algorithm "+body, want, func(d *node) { d.at(path...).body = unhex(t, body) })
		}
		for _, path := range namesAt {
			want := api.ErrBytes
			if body == "550403" {
				want = api.OK
			}
			checkSigned(t, "kind of name "+body, want, func(d *node) { d.at(path...).body = unhex(t, body) })
		}
	}
	checkSigned(t, "all others", api.ErrBytes, func(d *node) {
		for _, path := range algorithmsAt {
			d.at(path...).body = "\x2b\x65\x6e"
		}
	})
	checkSigned(t, "parameters everywhere", api.ErrBytes, func(d *node) {
		for _, path := range algorithmsAt {
			d.at(path[:len(path)-1]...).add(leaf(5, ""))
		}
	})
}

// P14.3: keys of other lengths than 32 bytes, and other bytes ahead of one.
func TestReadKeys(t *testing.T) {
	c, _ := usual()
	for n := range 300 {
		want := api.ErrBytes
		if n == 32 {
			want = api.OK
		}
		key := (c.Key + sample(2, 300))[:n]
		checkSigned(t, "a key", want, func(d *node) { d.at(keyAt...).body = "\x00" + key })
		checkSigned(t, "a key without the byte ahead", api.ErrBytes, func(d *node) { d.at(keyAt...).body = key })
	}
	for b := 1; b < 256; b++ {
		checkSigned(t, "another byte ahead", api.ErrBytes, func(d *node) { d.at(keyAt...).body = string([]byte{byte(b)}) + c.Key })
	}
	for _, body := range []string{"", "\x00", "\x00\x00" + c.Key, "\x00" + c.Key[:31], "\x00" + c.Key[1:], c.Key, c.Key + "\x00"} {
		checkSigned(t, "a key", api.ErrBytes, func(d *node) { d.at(keyAt...).body = body })
	}
	checkSigned(t, "another key", api.ErrSig, func(d *node) { d.at(keyAt...).body = "\x00\x00" + c.Key[1:] })
}

// P14.3: signatures of other lengths than 64 bytes, and other bytes ahead of
// one.
func TestReadSignatures(t *testing.T) {
	c, seed := usual()
	d := draft(c).sign(seed)
	right := d.at(signatureAt...).body[1:]
	check := func(what, body string, want api.Errno) {
		t.Helper()
		d.at(signatureAt...).body = body
		checkRead(t, what, d.bytes(), want)
	}
	for n := range 300 {
		s := (right + sample(2, 300))[:n]
		check("without the byte ahead", s, api.ErrBytes)
		if n != 64 {
			check("a length", "\x00"+s, api.ErrBytes)
			check("zeros", "\x00"+strings.Repeat("\x00", n), api.ErrBytes)
		}
	}
	for b := 1; b < 256; b++ {
		check("another byte ahead", string([]byte{byte(b)})+right, api.ErrBytes)
	}
	for _, body := range []string{"\x00" + right[:63], "\x00" + right[1:], "\x00" + right + "\x00", "\x00\x00" + right, "\x00\x00" + right[1:] + "x"} {
		check("a signature", body, api.ErrBytes)
	}
	check("right", "\x00"+right, api.OK)
	check("exchanged halves", "\x00"+right[32:]+right[:32], api.ErrSig)
	check("of another seed", "\x00"+signatureOf(sample(2, 32), d.at(0).bytes()), api.ErrSig)
	check("of all of it", "\x00"+signatureOf(seed, usualData()), api.ErrSig)
	check("of the body of the inner part", "\x00"+signatureOf(seed, d.at(0).bytes()[3:]), api.ErrSig)
	check("of nothing", "\x00"+signatureOf(seed, ""), api.ErrSig)
	check("no bits", "\x00"+strings.Repeat("\x00", 64), api.ErrSig)
	check("all bits", "\x00"+strings.Repeat("\xff", 64), api.ErrSig)
}

// order is the order of the group in which signatures are made, little-endian.
const order = "edd3f55c1a631258d69cf7a2def9de14" + "00000000000000000000000000000010"

// P14.3: what sign.Verify accepts and what it does not is what counts, also for
// keys that are no point, or points of small order. Both kinds of refusal are
// ErrSig here.
func TestWhatVerifyAccepts(t *testing.T) {
	c, seed := usual()
	neutral := "\x01" + strings.Repeat("\x00", 31)
	under := func(key, signature string) string {
		c.Key = key
		d := draft(c)
		d.at(signatureAt...).body = "\x00" + signature
		return d.bytes()
	}
	checkRead(t, "a key of small order", under(neutral, neutral+strings.Repeat("\x00", 32)), api.OK)
	checkRead(t, "a key of small order", under(neutral, neutral+unhex(t, order)), api.ErrSig)
	checkRead(t, "a key of small order", under(neutral, sample(1, 64)), api.ErrSig)
	for _, key := range []string{"\x02" + strings.Repeat("\x00", 31), "\x01" + strings.Repeat("\x00", 30) + "\x80", "\xee" + strings.Repeat("\xff", 30) + "\x7f", strings.Repeat("\xff", 32)} {
		for _, signature := range []string{neutral + strings.Repeat("\x00", 32), strings.Repeat("\x00", 64), sample(1, 64), signatureOf(seed, "")} {
			data := under(key, signature)
			if got, e := cert.Read(data); got != (api.Cert{}) || e != api.ErrSig {
				t.Errorf("Read(%x): %+v, %v", data, got, e)
			}
		}
	}
}

// P14.3: a signature to whose second half the order has been added is not
// accepted.
func TestOrderAdded(t *testing.T) {
	data := usualData()
	b := []byte(data)
	carry := 0
	for i, v := range []byte(unhex(t, order)) {
		at := len(b) - 32 + i
		sum := int(b[at]) + int(v) + carry
		b[at], carry = byte(sum), sum>>8
	}
	checkRead(t, "L more", string(b), api.ErrSig)
}

// P14.3: where something is wrong with the bytes, the signature does not count,
// and where data is too large, nothing else does.
func TestWhichErrorOfRead(t *testing.T) {
	c, seed := usual()
	right := draft(c).sign(seed).bytes()
	wrong := right[:len(right)-1] + string([]byte{right[len(right)-1] ^ 1})
	checkRead(t, "a wrong signature", wrong, api.ErrSig)
	for _, data := range []string{right, wrong} {
		checkRead(t, "more behind", data+"x", api.ErrBytes)
		checkRead(t, "another tag", "\x31"+data[1:], api.ErrBytes)
		for _, filler := range []string{"\x00", "x", "\x30", "\xff"} {
			checkRead(t, "1000 bytes", data+strings.Repeat(filler, 1000-len(data)), api.ErrBytes)
			checkRead(t, "1001 bytes", data+strings.Repeat(filler, 1001-len(data)), api.ErrBig)
			checkRead(t, "1001 bytes", strings.Repeat(filler, 1001-len(data))+data, api.ErrBig)
		}
	}
	c.Key = "\x02" + strings.Repeat("\x00", 31)
	d := draft(c).sign(seed)
	checkRead(t, "no key", d.bytes(), api.ErrSig)
	for what, change := range map[string]func(d *node){
		"serial number": func(d *node) { d.at(serialAt...).body = "\x00" }, "names": func(d *node) { d.at(issuerAt...).body = "other" },
		"times": func(d *node) { d.at(timesAt...).parts = []*node{d.at(toAt...), d.at(fromAt...)} }, "more": func(d *node) { d.add(leaf(5, "")) },
	} {
		d := draft(c)
		change(d)
		checkRead(t, what+" and no key", d.bytes(), api.ErrBytes)
		checkRead(t, what+" and no key, signed", d.sign(seed).bytes(), api.ErrBytes)
	}
}

// P14.3: certificates of the Go library, which are of another form.
func TestOtherCertificates(t *testing.T) {
	key := ed25519.NewKeyFromSeed([]byte(sample(1, 32)))
	for _, to := range []int64{951782400, 4107542400} {
		template := &x509.Certificate{SerialNumber: big.NewInt(7), Subject: pkix.Name{CommonName: "sender"}, NotBefore: time.Unix(4107542400, 0), NotAfter: time.Unix(to+4107542400, 0)}
		data, err := x509.CreateCertificate(nil, template, template, key.Public(), key)
		if err != nil {
			t.Fatal(err)
		}
		checkRead(t, "of the library", string(data), api.ErrBytes)
	}
}

// P14.3: certificates without a pattern, to which several things have been done,
// signed afterwards or not.
func TestReadLikeReference(t *testing.T) {
	source := rand.New(rand.NewSource(1))
	all := deeds()
	seen := map[api.Errno]int{}
	for i := range 6000 {
		c := api.Cert{Serial: 1 + source.Intn(1<<20), Name: "somebody"[:1+source.Intn(8)], From: source.Intn(1 << 35), To: 1<<35 + source.Intn(1<<35), Key: keyOf(sample(1, 32))}
		d := draft(c)
		if i%20 == 0 {
			d.at(serialAt...).body = integer(source.Int() >> source.Intn(63))
		} else {
			n := d
			for len(n.parts) > 0 {
				n = n.parts[source.Intn(len(n.parts))]
			}
			all[source.Intn(len(all))](n)
		}
		d.sign(sample(1+i%3/2, 32))
		seen[checkReadReference(t, "a certificate", d.bytes())]++
	}
	for _, e := range []api.Errno{api.OK, api.ErrBytes, api.ErrSig} {
		if seen[e] < 100 {
			t.Errorf("%v: seen %d times", e, seen[e])
		}
	}
}

func BenchmarkRead(b *testing.B) {
	data := usualData()
	for b.Loop() {
		if _, e := cert.Read(data); e != api.OK {
			b.Fatal(e)
		}
	}
}

func BenchmarkReadOfNone(b *testing.B) {
	data := usualData() + "x"
	for b.Loop() {
		if _, e := cert.Read(data); e != api.ErrBytes {
			b.Fatal(e)
		}
	}
}
