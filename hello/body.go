package hello

// What stands in every body of its kind is named by what it means in TLS 1.3.
const (
	version      = "\x03\x03"
	noSession    = "\x00"
	noContext    = "\x00"
	noExtensions = "\x00\x00"
	oneCoding    = "\x01\x00" // no compression, as the one that is offered
	coding       = "\x00"     // no compression, as the one that is chosen
	scheme       = "\x08\x07" // Ed25519
	schemes      = "\x00\x0d\x00\x04\x00\x02" + scheme
	asked        = "\x01"
	notAsked     = "\x00"
)

// The extensions up to the share, which is their last part.
const (
	clientExtensions = "\x00\x2b\x00\x03\x02\x03\x04" + "\x00\x0a\x00\x04\x00\x02\x00\x1d" + schemes + "\x00\x33\x00\x26\x00\x24\x00\x1d\x00\x20"
	serverExtensions = "\x00\x2b\x00\x02\x03\x04" + "\x00\x33\x00\x24\x00\x1d\x00\x20"
)

// How many bytes a body has ahead of a field, and behind it.
const (
	aheadOfRandom       = len(version)
	aheadOfServerSuite  = aheadOfRandom + randomBytes + len(noSession)
	aheadOfClientSuites = aheadOfServerSuite + 2
	behindServerSuite   = len(coding) + 2 + len(serverExtensions) + shareBytes
	behindClientSuites  = len(oneCoding) + 2 + len(clientExtensions) + shareBytes
	aheadOfCertificate  = len(noContext) + 3 + 3
	behindCertificate   = len(noExtensions)
	aheadOfSignature    = len(scheme) + 2
)

// bodyOf is the body of a valid message.
func bodyOf(m Message) string {
	switch m.Kind {
	case Client:
		return version + m.Random + noSession + counted(2, suiteBytes(m.Suites)) + oneCoding + counted(2, clientExtensions+m.Share)
	case Server:
		return version + m.Random + noSession + suiteBytes(m.Suites) + coding + counted(2, serverExtensions+m.Share)
	case Encrypted:
		return noExtensions
	case Certificate:
		return noContext + counted(3, counted(3, m.Data)+noExtensions)
	case Request:
		return noContext + counted(2, schemes)
	case Verify:
		return scheme + counted(2, m.Data)
	case Finished:
		return m.Data
	}
	if m.Ask {
		return asked
	}
	return notAsked
}

// fields is a message with what stands in a body where its kind has its fields.
// The body may be anything: where it is too short for a field, that is empty.
func fields(kind int, body string) Message {
	m := Message{Kind: kind}
	switch kind {
	case Client:
		m.Random, m.Share = exchange(body)
		m.Suites = suites(part(body, aheadOfClientSuites, len(body)-behindClientSuites))
	case Server:
		m.Random, m.Share = exchange(body)
		m.Suites = suites(part(body, aheadOfServerSuite, len(body)-behindServerSuite))
	case Certificate:
		m.Data = part(body, aheadOfCertificate, len(body)-behindCertificate)
	case Verify:
		m.Data = part(body, aheadOfSignature, len(body))
	case Finished:
		m.Data = body
	case Update:
		m.Ask = body == asked
	}
	return m
}

// exchange is the random bytes and the share of a Client or a Server.
func exchange(body string) (string, string) {
	return part(body, aheadOfRandom, aheadOfRandom+randomBytes), part(body, len(body)-shareBytes, len(body))
}

// part is what s has from one place to another, if there are such places.
func part(s string, from, to int) string {
	if from < 0 || from > to || to > len(s) {
		return ""
	}
	return s[from:to]
}

// suiteBytes is two bytes for each number.
func suiteBytes(numbers []int) string {
	s := ""
	for _, n := range numbers {
		s += bigEndian(2, n)
	}
	return s
}

// suites is a number for each two bytes.
func suites(s string) []int {
	var numbers []int
	for ; len(s) >= 2; s = s[2:] {
		numbers = append(numbers, number(s[:2]))
	}
	return numbers
}

// counted is s behind its length of so many bytes.
func counted(width int, s string) string {
	return bigEndian(width, len(s)) + s
}

// bigEndian is n in so many bytes.
func bigEndian(width, n int) string {
	b := make([]byte, width)
	for i := range b {
		b[width-1-i] = byte(n >> (8 * i))
	}
	return string(b)
}

// number is that of big-endian bytes.
func number(s string) int {
	n := 0
	for i := range len(s) {
		n = n<<8 | int(s[i])
	}
	return n
}
