package cert

import (
	"strings"

	"cresset/api"
	"cresset/der"
)

// Tags of the elements that a certificate consists of.
const (
	bitsTag = 3
	textTag = 12
	timeTag = 24
	listTag = 48
	setTag  = 49
)

// noneUnused is the byte ahead of a key or a signature: how many bits of its
// last byte are unused.
const noneUnused = "\x00"

// certificate is an inner part with its signature.
func certificate(inner, signature string) string {
	return element(listTag, inner, algorithm(), bits(signature))
}

// innerPart is what is signed of the certificate that says c.
func innerPart(c api.Cert) string {
	valid := element(listTag, element(timeTag, stamp(c.From)), element(timeTag, stamp(c.To)))
	key := element(listTag, algorithm(), bits(c.Key))
	name := named(c.Name)
	return element(listTag, der.Int(c.Serial), algorithm(), name, valid, name, key)
}

// algorithm names Ed25519.
func algorithm() string {
	return element(listTag, oid(1, 3, 101, 112))
}

// named is a name as the common name of an owner.
func named(name string) string {
	common := element(listTag, oid(2, 5, 4, 3), element(textTag, name))
	return element(listTag, element(setTag, common))
}

// bits is a key or a signature as an element.
func bits(s string) string {
	return element(bitsTag, noneUnused, s)
}

// oid is the element of an object identifier that is one.
func oid(l ...int) string {
	s, _ := der.Oid(l...)
	return s
}

// element is the element whose body consists of parts. In a certificate none
// is too long.
func element(tag int, parts ...string) string {
	s, _ := der.Write(tag, strings.Join(parts, ""))
	return s
}

// fields is what data says, and its signature, if it is a certificate.
// Otherwise it is anything: zero values where data has nothing that fits.
func fields(data string) (api.Cert, string) {
	whole := find(data, 0)
	inner := find(whole, 0)
	valid := find(inner, 3)
	serial, _ := der.ReadInt(find(inner, 0))
	return api.Cert{
		Serial: serial,
		Name:   find(inner, 2, 0, 0, 1),
		From:   timeOf(find(valid, 0)),
		To:     timeOf(find(valid, 1)),
		Key:    strings.TrimPrefix(find(inner, 5, 1), noneUnused),
	}, strings.TrimPrefix(find(whole, 2), noneUnused)
}

// find is the body of an element in data: path tells how many elements are to
// be passed over there, then in the body of the next one, and so on. It is
// empty if there is no such element.
func find(data string, path ...int) string {
	for _, before := range path {
		for range before {
			_, _, data, _ = der.Read(data)
		}
		_, data, _, _ = der.Read(data)
	}
	return data
}
