package keys_test

import (
	"crypto/hkdf"
	"crypto/hmac"
	"crypto/sha256"
	"encoding/hex"
	"math"
	"math/rand"
	"strings"
	"sync"
	"testing"

	"cresset/api"
	"cresset/keys"
	"cresset/mac"
	"cresset/seal"
	"cresset/sha"
)

const (
	gcmSuite    = 4865
	chachaSuite = 4867
)

// sample is n bytes of all values, without a short period; no two seeds have
// the same.
func sample(seed, n int) string {
	b := make([]byte, n)
	rand.New(rand.NewSource(int64(seed))).Read(b)
	return string(b)
}

func unhex(t testing.TB, s string) string {
	t.Helper()
	b, err := hex.DecodeString(s)
	if err != nil {
		t.Fatal(err)
	}
	return string(b)
}

func zeros(n int) string { return strings.Repeat("\x00", n) }

// digest is the standard library's answer, as are the next three.
func digest(said string) string {
	d := sha256.Sum256([]byte(said))
	return string(d[:])
}

func libraryMac(key, data string) string {
	h := hmac.New(sha256.New, []byte(key))
	h.Write([]byte(data))
	return string(h.Sum(nil))
}

func libraryExtract(t testing.TB, salt, input string) string {
	t.Helper()
	out, err := hkdf.Extract(sha256.New, []byte(input), []byte(salt))
	if err != nil {
		t.Fatal(err)
	}
	return string(out)
}

func libraryLabel(t testing.TB, key, label, context string, n int) string {
	t.Helper()
	full := "tls13 " + label
	info := string([]byte{0, byte(n), byte(len(full))}) + full + string([]byte{byte(len(context))}) + context
	out, err := hkdf.Expand(sha256.New, []byte(key), info, n)
	if err != nil {
		t.Fatal(err)
	}
	return string(out)
}

// secret is one that there is no error in.
func secret(t testing.TB, from, label, said string) string {
	t.Helper()
	out, e := keys.Secret(from, label, said)
	if e != api.OK {
		t.Fatalf("Secret of %d, %d and %d bytes = %v", len(from), len(label), len(said), e)
	}
	return out
}

// traffic is a key and an iv that there is no error in.
func traffic(t testing.TB, suite int, secret string) (string, string) {
	t.Helper()
	key, iv, e := keys.Traffic(suite, secret)
	if e != api.OK {
		t.Fatalf("Traffic(%d) of %d bytes = %v", suite, len(secret), e)
	}
	return key, iv
}

// lengths are those of a secret, at the edges of a digest and of a block, and
// beyond.
func lengths() []int { return []int{0, 1, 16, 31, 32, 33, 48, 63, 64, 65, 127, 128, 129, 1000} }

// saidLengths are those of a transcript, at the edges of the padding and of a
// block, and beyond.
func saidLengths() []int {
	return []int{0, 1, 3, 31, 32, 33, 54, 55, 56, 57, 62, 63, 64, 65, 66, 118, 119, 120, 127, 128, 129, 255, 256, 1000, 4096, 65536}
}

// labels are those of TLS 1.3, and others of every length that matters.
func labels() []string {
	return []string{
		"", "d", "derived", "c hs traffic", "s hs traffic", "c ap traffic", "s ap traffic", "exp master", "res master",
		"key", "iv", "finished", "traffic upd", "tls13 ", "\x00", "\xff\xfe", "déjà",
		sample(1, 31), sample(2, 64), sample(3, 128), sample(4, 248), sample(5, 249),
	}
}

// P17.1: the first secret, which is the same at every call.
func TestEarly(t *testing.T) {
	want := libraryExtract(t, "", zeros(32))
	for range 3 {
		if got := keys.Early(); got != want || got != mac.Extract("", zeros(32)) || !strings.HasPrefix(got, "\x33\xad\x0a\x1c") {
			t.Errorf("Early() = %x, not %x", got, want)
		}
	}
}

// P17.1: all lengths of what a secret is made of, empty ones among them.
func TestSecret(t *testing.T) {
	for i, n := range lengths() {
		for j, l := range labels() {
			for k, m := range saidLengths() {
				from, said := sample(100+i, n), sample(200+k, m)
				got, e := keys.Secret(from, l, said)
				if want := libraryLabel(t, from, l, digest(said), 32); got != want || e != api.OK {
					t.Errorf("Secret of %d bytes, label %d and %d bytes = %x, %v, not %x", n, j, m, got, e, want)
				}
			}
		}
	}
}

// P17.1: a label of every length, up to the longest one and beyond, where there
// is nothing beside the error.
func TestLengthsOfLabels(t *testing.T) {
	all := sample(6, 70000)
	for n := range 600 {
		checkLabel(t, sample(7, 32), all[:n], "said")
	}
	for _, n := range []int{249, 250, 251, 255, 256, 257, 505, 506, 512, 65535, 65536, 65536 + 7, 65792, 70000} {
		for _, from := range []string{"", sample(8, 32), sample(9, 65)} {
			for _, said := range []string{"", "said", sample(10, 1000)} {
				checkLabel(t, from, all[:n], said)
			}
		}
	}
}

func checkLabel(t *testing.T, from, label, said string) {
	t.Helper()
	want, wanted := "", api.ErrBig
	if len(label) <= 249 {
		want, wanted = libraryLabel(t, from, label, digest(said), 32), api.OK
	}
	if got, e := keys.Secret(from, label, said); got != want || e != wanted {
		t.Errorf("Secret with a label of %d bytes = %x, %v, not %x, %v", len(label), got, e, want, wanted)
	}
}

// P17.1: what one layer below answers, by the document's words.
func TestSecretByTheLayersBelow(t *testing.T) {
	for n := range 300 {
		from, label, said := sample(n, n), sample(1000+n, n), sample(2000+n, 3*n)
		want, wanted := mac.Label(from, label, sha.Sum256(said), 32)
		if got, e := keys.Secret(from, label, said); got != want || e != wanted {
			t.Errorf("Secret of %d bytes = %x, %v, not %x, %v", n, got, e, want, wanted)
		}
	}
}

// P17.1: the transcript is no context, but its digest is: a context has 255
// bytes at the most, and a transcript has no limit.
func TestLongTranscript(t *testing.T) {
	from, said := sample(11, 32), sample(12, 1<<20)
	if got := secret(t, from, "res master", said); got != libraryLabel(t, from, "res master", digest(said), 32) {
		t.Errorf("Secret = %x", got)
	}
	if got := keys.Tag(from, said); got != libraryMac(libraryLabel(t, from, "finished", "", 32), digest(said)) {
		t.Errorf("Tag = %x", got)
	}
	if got := keys.Signed(true, said); !strings.HasSuffix(got, "\x00"+digest(said)) || len(got) != 130 {
		t.Errorf("Signed = %x", got)
	}
}

// P17.1: all lengths of what the ends come to, and of the secret behind.
func TestHandshakeAndMaster(t *testing.T) {
	early := libraryExtract(t, "", zeros(32))
	salt := libraryLabel(t, early, "derived", digest(""), 32)
	texts := []string{zeros(32), zeros(64), strings.Repeat("\xff", 32), "shared"}
	for i, n := range lengths() {
		texts = append(texts, sample(300+i, n))
	}
	for _, s := range texts {
		if got, want := keys.Handshake(s), libraryExtract(t, salt, s); got != want {
			t.Errorf("Handshake(%x) = %x, not %x", s, got, want)
		}
		behind := libraryLabel(t, s, "derived", digest(""), 32)
		if got, want := keys.Master(s), libraryExtract(t, behind, zeros(32)); got != want {
			t.Errorf("Master(%x) = %x, not %x", s, got, want)
		}
	}
}

// P17.1: the same by the package's own Secret, as the document says it.
func TestHandshakeAndMasterBySecret(t *testing.T) {
	for i, n := range lengths() {
		s := sample(400+i, n)
		if got, want := keys.Handshake(s), mac.Extract(secret(t, keys.Early(), "derived", ""), s); got != want {
			t.Errorf("Handshake of %d bytes = %x, not %x", n, got, want)
		}
		if got, want := keys.Master(s), mac.Extract(secret(t, s, "derived", ""), zeros(32)); got != want {
			t.Errorf("Master of %d bytes = %x, not %x", n, got, want)
		}
	}
}

// P17.2: the key and the iv of each suite, whose lengths are not the same.
func TestTraffic(t *testing.T) {
	for suite, size := range map[int]int{gcmSuite: 16, chachaSuite: 32} {
		for i, n := range lengths() {
			s := sample(500+i, n)
			key, iv, e := keys.Traffic(suite, s)
			if key != libraryLabel(t, s, "key", "", size) || iv != libraryLabel(t, s, "iv", "", 12) || e != api.OK {
				t.Errorf("Traffic(%d) of %d bytes = %x, %x, %v", suite, n, key, iv, e)
			}
			if len(key) != size || len(key) != seal.Size(suite) || len(iv) != 12 {
				t.Errorf("Traffic(%d) of %d bytes: %d and %d bytes", suite, n, len(key), len(iv))
			}
		}
	}
}

// P17.2: a key is one of its suite, not a part of another's; the iv hangs on no
// suite.
func TestTrafficOfBothSuites(t *testing.T) {
	for n := range 100 {
		s := sample(600+n, 32)
		short, one := traffic(t, gcmSuite, s)
		long, other := traffic(t, chachaSuite, s)
		if one != other || strings.HasPrefix(long, short) || strings.HasPrefix(short, one) || strings.HasPrefix(long, one) {
			t.Errorf("of %x: %x, %x, %x, %x", s, short, one, long, other)
		}
	}
}

// P17.2: numbers that are no suites, with nothing beside the error.
func TestTrafficOfOtherSuites(t *testing.T) {
	numbers := []int{
		math.MinInt, math.MinInt64 + gcmSuite, math.MinInt32, -65536 + gcmSuite, -chachaSuite, -gcmSuite, -1, 0, 1, 12, 16, 32, 275, 787,
		4864, 4866, 4868, 4869, 49195, 65535, 65536, 65536 + gcmSuite, 65536 + chachaSuite,
		1<<24 + gcmSuite, 1<<31 + chachaSuite, 1<<32 + gcmSuite, 1<<32 + chachaSuite, math.MaxInt32, math.MaxInt,
	}
	for n := range 10000 {
		numbers = append(numbers, n)
	}
	for bit := range 64 {
		numbers = append(numbers, gcmSuite^1<<bit, chachaSuite^1<<bit)
	}
	for i, suite := range numbers {
		if suite == gcmSuite || suite == chachaSuite {
			continue
		}
		s := sample(700+i, lengths()[i%len(lengths())])
		if key, iv, e := keys.Traffic(suite, s); key != "" || iv != "" || e != api.ErrArg {
			t.Errorf("Traffic(%d) of %d bytes = %x, %x, %v", suite, len(s), key, iv, e)
		}
	}
}

// P17.2: the next secret of all lengths of secrets, and of one that is next
// itself.
func TestNext(t *testing.T) {
	for i, n := range lengths() {
		s := sample(800+i, n)
		for step := range 5 {
			want := libraryLabel(t, s, "traffic upd", "", 32)
			if got := keys.Next(s); got != want {
				t.Fatalf("Next of %d bytes, step %d: %x, not %x", n, step, got, want)
			}
			s = want
		}
	}
}

// P17.3: the tag of all lengths of secrets and of transcripts.
func TestTag(t *testing.T) {
	for i, n := range lengths() {
		for k, m := range saidLengths() {
			s, said := sample(900+i, n), sample(1000+k, m)
			key := libraryLabel(t, s, "finished", "", 32)
			if got, want := keys.Tag(s, said), libraryMac(key, digest(said)); got != want {
				t.Errorf("Tag of %d and %d bytes = %x, not %x", n, m, got, want)
			}
		}
	}
}

// P17.3: each part of what is signed, at its place.
func TestSigned(t *testing.T) {
	for server, words := range map[bool]string{
		true:  "TLS 1.3, server CertificateVerify",
		false: "TLS 1.3, client CertificateVerify",
	} {
		for k, m := range saidLengths() {
			said := sample(1100+k, m)
			got := keys.Signed(server, said)
			if len(got) != 130 {
				t.Fatalf("Signed(%v) of %d bytes has %d bytes", server, m, len(got))
			}
			for i := range 64 {
				if got[i] != ' ' {
					t.Errorf("Signed(%v) of %d bytes: byte %d is %d", server, m, i, got[i])
				}
			}
			if got[64:97] != words || got[97] != 0 || got[98:] != digest(said) {
				t.Errorf("Signed(%v) of %d bytes ends with %q, %d, %x", server, m, got[64:97], got[97], got[98:])
			}
		}
	}
}

// P17.4: all secrets have 32 bytes, and so have the tags.
func TestLengthsOfSecrets(t *testing.T) {
	for i, n := range lengths() {
		s := sample(1200+i, n)
		for name, got := range map[string]string{
			"Early": keys.Early(), "Handshake": keys.Handshake(s), "Master": keys.Master(s), "Next": keys.Next(s),
			"Tag": keys.Tag(s, s), "Secret": secret(t, s, "label", s), "Secret without a label": secret(t, s, "", s),
			"Secret with the longest label": secret(t, s, sample(13, 249), s),
		} {
			if len(got) != 32 {
				t.Errorf("%s of %d bytes has %d bytes", name, n, len(got))
			}
		}
	}
}

// P17.4: what a server signs is not what a client signs, of the same transcript
// or of any other.
func TestSignedByEnds(t *testing.T) {
	server, client := map[string]bool{}, map[string]bool{}
	for k, m := range saidLengths() {
		said := sample(1300+k, m)
		server[keys.Signed(true, said)] = true
		client[keys.Signed(false, said)] = true
	}
	for s := range server {
		if client[s] {
			t.Errorf("both sign %x", s)
		}
	}
	if n := len(saidLengths()); len(server) != n || len(client) != n {
		t.Errorf("%d and %d texts of %d transcripts", len(server), len(client), n)
	}
}

// distinct finds answers that are there twice, though they are of different
// questions.
type distinct struct {
	t    *testing.T
	seen map[string]string
}

func newDistinct(t *testing.T) distinct { return distinct{t, map[string]string{}} }

func (d distinct) add(question, answer string) {
	d.t.Helper()
	if before, there := d.seen[answer]; there {
		d.t.Errorf("%s and %s: %x", before, question, answer)
	}
	d.seen[answer] = question
}

// P17.1 to P17.3: different labels, secrets and transcripts give different
// secrets and tags, however near they are.
func TestDifferentSecrets(t *testing.T) {
	d := newDistinct(t)
	from, said := sample(14, 32), sample(15, 200)
	for i, l := range labels() {
		d.add("label "+l, secret(t, from, l, said))
		d.add("label "+l+" with nothing said", secret(t, from, l, ""))
		d.add("label "+l+" with another secret", secret(t, sample(1400+i, 32), l, said))
	}
	for bit := range 256 {
		other := []byte(from)
		other[bit/8] ^= 1 << (bit % 8)
		d.add("a bit of a secret", secret(t, string(other), "c hs traffic", said))
		d.add("next of a bit of a secret", keys.Next(string(other)))
		d.add("tag of a bit of a secret", keys.Tag(string(other), said))
		d.add("a bit of what is shared", keys.Handshake(string(other)))
		d.add("a bit of the handshake's", keys.Master(string(other)))
	}
	for bit := range 8 * len(said) {
		other := []byte(said)
		other[bit/8] ^= 1 << (bit % 8)
		d.add("a bit of what was said", secret(t, from, "c hs traffic", string(other)))
		d.add("tag of a bit of what was said", keys.Tag(from, string(other)))
		d.add("what is signed of that, by a server", keys.Signed(true, string(other)))
		d.add("and by a client", keys.Signed(false, string(other)))
	}
	for n := 1; n < len(said); n++ { // nothing said is among the labels
		d.add("the beginning of what was said", secret(t, from, "s hs traffic", said[:n]))
		d.add("tag of the beginning", keys.Tag(from, said[:n]))
	}
	d.add("early", keys.Early())
	d.add("next", keys.Next(from))
	d.add("tag of everything", keys.Tag(from, said))
}

// P17.1 to P17.3: a label and a transcript do not run into each other.
func TestBoundaries(t *testing.T) {
	d := newDistinct(t)
	from, text := sample(16, 32), sample(17, 100)
	for n := range len(text) + 1 {
		d.add("a cut", secret(t, from, text[:n], text[n:]))
		d.add("a cut of the secret", secret(t, text[:n]+"!", "label", text[n:]))
	}
	for n := range 40 {
		d.add("zero bytes said", secret(t, from, "label", zeros(n)))
		d.add("zero bytes shared", keys.Handshake(zeros(n)))
		d.add("tag of zero bytes", keys.Tag(from, zeros(n)))
	}
}

// P17.2 and P17.3: what was derived under the labels of the package is nothing
// that Secret answers, since a secret's context is a digest.
func TestLabelsOfThePackage(t *testing.T) {
	s := sample(18, 32)
	key, iv := traffic(t, chachaSuite, s)
	for label, got := range map[string]string{"key": key, "traffic upd": keys.Next(s), "finished": keys.Tag(s, "")} {
		if other := secret(t, s, label, ""); got == other {
			t.Errorf("%s: %x", label, other)
		}
	}
	if other := secret(t, s, "iv", ""); strings.HasPrefix(other, iv) {
		t.Errorf("iv: %x", other)
	}
}

// The chapter's examples.
func TestExamples(t *testing.T) {
	if got := keys.Early(); !strings.HasPrefix(got, unhex(t, "33AD0A1C")) {
		t.Errorf("Early() = %x", got)
	}
	for _, s := range []string{"", "s", sample(19, 32), sample(20, 65)} {
		if key, iv, e := keys.Traffic(4866, s); key != "" || iv != "" || e != api.ErrArg {
			t.Errorf("Traffic(4866) = %x, %x, %v", key, iv, e)
		}
	}
}

// answers are all functions' of texts of a length.
func answers(n int) []string {
	a, b := sample(n, n), sample(n+1, n)
	one, e := keys.Secret(a, "label", b)
	two, f := keys.Secret(a, sample(n, 250+n), b)
	key, iv, g := keys.Traffic(gcmSuite+n%3, a)
	return []string{
		keys.Early(), keys.Handshake(a), keys.Master(a), one, e.Error(), two, f.Error(), key, iv, g.Error(),
		keys.Next(a), keys.Tag(a, b), keys.Signed(true, b), keys.Signed(false, b),
	}
}

// R3: a call leaves nothing behind that another one would see, whatever was
// asked ahead of it or is asked at the same time.
func TestCallsAreApart(t *testing.T) {
	const most = 70
	first := make([][]string, most)
	for n := range first {
		first[n] = answers(n)
	}
	var all sync.WaitGroup
	for worker := range 8 {
		all.Go(func() {
			for i := range most {
				n := (i*31 + worker*7) % most
				for k, got := range answers(n) {
					if got != first[n][k] {
						t.Errorf("answer %d of %d bytes: %x, then %x", k, n, first[n][k], got)
					}
				}
			}
		})
	}
	all.Wait()
}

// BenchmarkSchedule works out all secrets, keys and tags of a handshake.
func BenchmarkSchedule(b *testing.B) {
	shared, said := sample(1, 32), sample(2, 1200)
	for b.Loop() {
		handshake := keys.Handshake(shared)
		master := keys.Master(handshake)
		for _, from := range []string{handshake, master} {
			for _, label := range []string{"c hs traffic", "s hs traffic"} {
				s, _ := keys.Secret(from, label, said)
				keys.Traffic(chachaSuite, s)
				keys.Tag(s, said)
			}
		}
	}
}

func BenchmarkSecret(b *testing.B) {
	from, said := sample(1, 32), sample(2, 1200)
	b.SetBytes(int64(len(said)))
	for b.Loop() {
		keys.Secret(from, "c hs traffic", said)
	}
}

func BenchmarkTraffic(b *testing.B) {
	s := sample(1, 32)
	for b.Loop() {
		keys.Traffic(chachaSuite, s)
	}
}
