package record_test

import (
	"testing"

	"cresset/api"
	"cresset/record"
)

// content is what a record holds, with its padding.
type content struct {
	kind  int
	plain string
	pad   int
}

// sender is what one end of a TLS 1.3 connection sent: first some records that
// are not encrypted, then those under the keys of the handshake, then those
// under the keys of the data.
type sender struct {
	stream                string
	bare, handshake, data []content
	handshakeKey, dataKey secret
}

// published is what the client sent behind its first message in a connection
// that RFC 8448 tells, section 3.
func published(t *testing.T) sender {
	fifty := make([]byte, 50)
	for i := range fifty {
		fifty[i] = byte(i)
	}
	return sender{
		stream: "170303003575ec4dc238cce60b298044a71e219c56cc77b0517fe9b93c7a4bfc44d87f38f80338ac98fc46deb384bd1caeacab6867d726c40546" +
			"1703030043a23f7054b62c94d0affafe8228ba55cbefacea42f914aa66bcab3f2b9819a8a5b46b395bd54a9a20441e2b62974e1f5a6292a2977014bd1e3deae63aeebb21694915e4" +
			"1703030013c9872760655666b74d7ff1153efd6db6d0b0e3",
		handshakeKey: secret{gcmSuite, unhex(t, "dbfaa693d1762c5b666af5d950258d01"), unhex(t, "5bd3c71b836e0b76bb73265f")},
		handshake:    []content{{22, unhex(t, "14000020a8ec436d677634ae525ac1fcebe11a039ec17694fac6e98527b642f2edd5ce61"), 0}},
		dataKey:      secret{gcmSuite, unhex(t, "17422dda596ed5d9acd890e3c63f5051"), unhex(t, "5b78923dee08579033e523d9")},
		data:         []content{{23, string(fifty), 0}, {21, "\x01\x00", 0}},
	}
}

// paddedGCM and paddedChaCha are what a client of OpenSSL sent behind its
// first message, in connections in which it filled its records up to a multiple
// of 40 and of 64 bytes.
func paddedGCM(t *testing.T) sender {
	return sender{
		stream: "140303000101" +
			"170303003889a087b74d191c10ebb229b83c8388289ccd15062020203971a63e8f492e87592fbe529671c82ac2813422f0e6a01430b08b41f639c0f93c" +
			"1703030038fd9de07f67b5fd55722f83a9164c3d79e2084bf0c5bf8b56d3b055d9ee75c540c44dca7d2832f4223286f21dfef9853347e551966c5be97f" +
			"170303003843c5558cff0b7cb168d4666c135b2c3ca75d17a1d69a5d0bf8580d1ef63d69dea403b929a4aa1cb5f1389c82b1938638b33ebb2dd23a8bcf",
		bare:         []content{{20, "\x01", 0}},
		handshakeKey: secret{gcmSuite, unhex(t, "4b42f075abd8546036714cc03e5cd732"), unhex(t, "08821c0baaf766a2a251359a")},
		handshake:    []content{{22, unhex(t, "140000208b239a03a7ff002b340aa15b3e3860bb790ed92452807dd3d81336d3aa01b523"), 3}},
		dataKey:      secret{gcmSuite, unhex(t, "2c86568b718fd88cd585cee7e2bde573"), unhex(t, "ae96f4eebe788c22296b1acc")},
		data:         []content{{23, "from the client\n", 23}, {23, "and more\n", 30}},
	}
}

func paddedChaCha(t *testing.T) sender {
	return sender{
		stream: "140303000101" +
			"1703030050e6f713d5575c9cd2d3b8f6dd61a5042b5a7f3e0cb171fd22d7af4c3e6fe033840209e1d48e7b6311d113c2dc73ebf25e89df61044a9ed794ff7be2c637eaafe7634bd37f330b16d5265ad52791384647" +
			"1703030050eda7f99f0fd2ffd8aec7aedb93e2a987c935c1db4a6fe173a29828ccc04a79acad5c3837561608c9febac6890b632ed9f7fe4e588c7898358b997ce563bc0f741831b644ade319eff3c55a819b0a0136" +
			"170303005019463c4e865531740ec17350c9ae6eb21322383427980843414f62c855deb57ddce6e85052d4c67b31ada2ffce862c21ec76fe2399c5e99e3b5a7068519a03f2a35746be11a8197c8619a18041e7ec52",
		bare:         []content{{20, "\x01", 0}},
		handshakeKey: secret{chachaSuite, unhex(t, "f6a4421d58026d428292c8d17da712b697e0d5331b85a81382e0c2bbe8c6530e"), unhex(t, "fe6e314911216d355dd5c3c1")},
		handshake:    []content{{22, unhex(t, "140000204eaede982f8918408865dedb1a3fff5d4da0f594e3d9d7c3a64e0eddc470cb41"), 27}},
		dataKey:      secret{chachaSuite, unhex(t, "fee1b27e07c079c36bc1e7d46add18c3d74041f2b2bf730cd641440f1bccd028"), unhex(t, "a29bd237df562add5c60156b")},
		data:         []content{{23, "from the client\n", 47}, {23, "and more\n", 54}},
	}
}

// answering is how the server of OpenSSL began in the connection of
// paddedChaCha.
func answering(t *testing.T) sender {
	hello := "02000076030383500b5ec6327625d8727993eee6b6bc2f9e953707e42b2b0ddf81953d808a8f20fb0e579d2a58a00e797ac824b21d0d40f90cbc21c1a09a2b0185250c63944170130300002e002b0002030400330024001d00204b5db507a8af9d5b3e3513b564f539eed32c902731fdda93822ad82143a09d25"
	return sender{
		stream:       "160303007a" + hello + "140303000101" + "17030300175dd513d0ba563e516a55724c2ce6432b4cbd72f0434bff",
		bare:         []content{{22, unhex(t, hello), 0}, {20, "\x01", 0}},
		handshakeKey: secret{chachaSuite, unhex(t, "999abf140b24113b6d09fd08b59b5107f59a0fd65d78b71ab39e453c06ee371a"), unhex(t, "8883274048a81a07f799d142")},
		handshake:    []content{{22, "\x08\x00\x00\x02\x00\x00", 0}},
		dataKey:      secret{chachaSuite, unhex(t, "b4ed8c41946bb94add0f40c533745115214c893b749a2e485133a38cff8ca7ad"), unhex(t, "6c2e2f24788befc3ebef7458")},
	}
}

// P15.1, P15.2, P15.4, P15.5: connections of other programs, read at any cut,
// and written again.
func TestConnections(t *testing.T) {
	for i, s := range []sender{published(t), paddedGCM(t), paddedChaCha(t), answering(t)} {
		stream := unhex(t, s.stream)
		for cut := range len(stream) + 1 {
			r := record.NewReader()
			checkFeed(t, r, stream[:cut], api.OK)
			checkFeed(t, r, stream[cut:], api.OK)
			for _, c := range s.bare {
				checkNext(t, r, c.kind, c.plain, api.OK)
			}
			readAll(t, r, s.handshakeKey.box(t), s.handshake)
			readAll(t, r, s.dataKey.box(t), s.data)
			checkNext(t, r, 0, "", api.ErrBusy)
		}
		var again string
		for _, c := range s.bare {
			again += framed(t, c.kind, c.plain)
		}
		again += writeAll(t, s.handshakeKey.box(t), s.handshake) + writeAll(t, s.dataKey.box(t), s.data)
		if again != stream {
			t.Errorf("connection %d: %x", i, again)
		}
	}
}

// readAll checks what the next records hold.
func readAll(t *testing.T, r *record.Reader, b *record.Box, list []content) {
	t.Helper()
	for _, c := range list {
		kind, body, e := r.Next()
		if kind != 23 || e != api.OK {
			t.Errorf("Next: %d, %v", kind, e)
		}
		opens(t, b, body, c.kind, c.plain)
	}
}

// writeAll is the records that hold all of the list.
func writeAll(t *testing.T, b *record.Box, list []content) string {
	t.Helper()
	out := ""
	for _, c := range list {
		out += sealed(t, b, c.kind, c.plain, c.pad)
	}
	return out
}
