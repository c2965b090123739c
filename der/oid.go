package der

import (
	"slices"

	"cresset/api"
)

const (
	oidTag     = 6
	maxNumbers = 20
	maxValues  = maxNumbers - 1 // the first value stands for two numbers
	maxGroups  = 4              // bytes of a value
	maxNumber  = 1<<(7*maxGroups) - 1
	maxSecond  = 1000000
	perFirst   = 40   // values for each first number, but no end of them for the last one
	lastFirst  = 2    // the greatest first number
	goesOn     = 0x80 // the bit of all bytes of a value but the last one
)

// Oid is the element of an object identifier.
func Oid(l ...int) (string, api.Errno) {
	if len(l) < 2 || slices.Min(l) < 0 || !isBeginning(l[0], l[1]) {
		return "", api.ErrArg
	}
	if len(l) > maxNumbers || slices.Max(l) > maxNumber {
		return "", api.ErrBig
	}
	body := groupsOf(perFirst*l[0] + l[1])
	for _, n := range l[2:] {
		body += groupsOf(n)
	}
	return element(oidTag, body), api.OK
}

// ReadOid is the numbers of the object identifier that a body stands for. It
// goes on behind a value that is too great, as a wrong byte there counts more.
func ReadOid(body string) ([]int, api.Errno) {
	if body == "" || body[len(body)-1]&goesOn != 0 {
		return nil, api.ErrEnd
	}
	var values []int
	big := false
	for body != "" {
		if body[0] == goesOn {
			return nil, api.ErrBytes
		}
		n := sizeOf(body)
		big = big || n > maxGroups || len(values) == maxValues
		if !big {
			values = append(values, valueOf(body[:n]))
		}
		body = body[n:]
	}
	if big {
		return nil, api.ErrBig
	}
	return numbersOf(values), api.OK
}

// isBeginning tells whether an object identifier may begin with two numbers.
func isBeginning(first, second int) bool {
	if first < lastFirst {
		return second < perFirst
	}
	return first == lastFirst && second <= maxSecond
}

// numbersOf is the numbers for which values stand.
func numbersOf(values []int) []int {
	first := min(values[0]/perFirst, lastFirst)
	return append([]int{first, values[0] - perFirst*first}, values[1:]...)
}

// groupsOf is a value as bytes, of which each has seven of its bits.
func groupsOf(value int) string {
	b := []byte{byte(value & 0x7f)}
	for value >>= 7; value > 0; value >>= 7 {
		b = append(b, byte(value&0x7f)|goesOn)
	}
	slices.Reverse(b)
	return string(b)
}

// valueOf is the value that groupsOf has made bytes of.
func valueOf(groups string) int {
	value := 0
	for i := range len(groups) {
		value = value<<7 | int(groups[i]&0x7f)
	}
	return value
}

// sizeOf is how many bytes the value has with which a body begins.
func sizeOf(body string) int {
	n := 1
	for body[n-1]&goesOn != 0 {
		n++
	}
	return n
}
