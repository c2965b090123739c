package hello

const (
	randomBytes  = 32
	shareBytes   = 32
	maxSuites    = 4
	maxSuite     = 65535
	maxData      = 1000 // bytes of a certificate
	signingBytes = 64   // of a signature
	tagBytes     = 32
)

// shape is how much each field of the messages of a kind has.
type shape struct {
	random, share        int
	minSuites, maxSuites int
	minData, maxData     int
	mayAsk               bool
}

// shapeOf is the shape of a kind, and whether there is such a kind.
func shapeOf(kind int) (shape, bool) {
	switch kind {
	case Client:
		return shape{random: randomBytes, share: shareBytes, minSuites: 1, maxSuites: maxSuites}, true
	case Server:
		return shape{random: randomBytes, share: shareBytes, minSuites: 1, maxSuites: 1}, true
	case Encrypted, Request:
		return shape{}, true
	case Certificate:
		return shape{minData: 1, maxData: maxData}, true
	case Verify:
		return shape{minData: signingBytes, maxData: signingBytes}, true
	case Finished:
		return shape{minData: tagBytes, maxData: tagBytes}, true
	case Update:
		return shape{mayAsk: true}, true
	}
	return shape{}, false
}

// isValid tells whether a message has the fields of its kind, and no others.
func isValid(m Message) bool {
	s, known := shapeOf(m.Kind)
	return known && len(m.Random) == s.random && len(m.Share) == s.share &&
		isWithin(len(m.Suites), s.minSuites, s.maxSuites) && areSuites(m.Suites) &&
		isWithin(len(m.Data), s.minData, s.maxData) && (s.mayAsk || !m.Ask)
}

func isWithin(n, least, most int) bool {
	return n >= least && n <= most
}

// areSuites tells whether each of the numbers has two bytes.
func areSuites(numbers []int) bool {
	for _, n := range numbers {
		if !isWithin(n, 0, maxSuite) {
			return false
		}
	}
	return true
}
