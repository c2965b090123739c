package hello_test

import (
	"strings"
	"testing"

	"cresset/api"
	"cresset/hello"
)

// Certificates of package cert, that the ends of the connections below show.
const (
	collector = "3081d3308186020101300506032b657030143112301006035504030c09636f6c6c6563746f723022180f31393730303130313030303030305a180f39393939313233313233353935395a30143112301006035504030c09636f6c6c6563746f72302a300506032b6570032100fec1428673f6afe89264b3807344ae8b269d125a503855202687db5a7128579f300506032b6570034100a98b24f5ed7a73c2f159a1585bd7a17eb3be348d70ba176cde8e0ac3a9f8cda4d2bf5d5ea831d2601c405e8d9840f284d8353c4a24bb1e6f655d142a05c4ae02"
	sender    = "3081cd308180020101300506032b65703011310f300d06035504030c0673656e6465723022180f31393730303130313030303030305a180f39393939313233313233353935395a3011310f300d06035504030c0673656e646572302a300506032b6570032100a7f6dfaf8f38b89ba8ce649b594f91e4d01fdc57f9c9493df43b5e50a9987367300506032b6570034100887b2e212f4c562dfa68624764913bd8ce688a172dbe8c676d6aec2478665032408887293a34c56370a013463cd21df62f4930c640616ad1f0fae2ea2193e506"
)

// said is a message of a connection, and what is in it.
type said struct {
	data string
	m    hello.Message
}

// answered is what a server of OpenSSL answered to the first message, which
// was an Encode of this package.
func answered(t *testing.T) []said {
	return []said{
		{"0100006e030352725272527252725272527252725272527252725272527252725272527252720000041301130301000041002b0003020304000a00040002001d000d000400020807003300260024001d00208462fb3f0798f9fe2c39f3823bb41cd3effe70bb5c81735be46a143135c58454",
			hello.Message{Kind: hello.Client, Random: strings.Repeat("Rr", 16), Share: unhex(t, "8462fb3f0798f9fe2c39f3823bb41cd3effe70bb5c81735be46a143135c58454"), Suites: []int{4865, 4867}}},
		{"02000056030312fc529e8e76ad7228a384b9461946fac190047dcf0f197302ea715cfc88ec0100130100002e002b0002030400330024001d0020eb76f3d63d9e594fa9e2c200ac8336d7a6087dd2549bcb55c05de1ff75163a0e",
			hello.Message{Kind: hello.Server, Random: unhex(t, "12fc529e8e76ad7228a384b9461946fac190047dcf0f197302ea715cfc88ec01"), Share: unhex(t, "eb76f3d63d9e594fa9e2c200ac8336d7a6087dd2549bcb55c05de1ff75163a0e"), Suites: []int{4865}}},
		{"080000020000", hello.Message{Kind: hello.Encrypted}},
		{"0d00000b000008000d000400020807", hello.Message{Kind: hello.Request}},
		{"0b0000df000000db0000d6" + collector + "0000", hello.Message{Kind: hello.Certificate, Data: unhex(t, collector)}},
		{"0f00004408070040" + "c2ab531e6ae5c56d07ac128dff0c1ed75285a3cb680e65e1e6d45314ebcf1e66f467b9e70d74c1a13f3ddfe592a4c6f8eda5c2490e86e8772c80790e6dcd0b05",
			hello.Message{Kind: hello.Verify, Data: unhex(t, "c2ab531e6ae5c56d07ac128dff0c1ed75285a3cb680e65e1e6d45314ebcf1e66f467b9e70d74c1a13f3ddfe592a4c6f8eda5c2490e86e8772c80790e6dcd0b05")}},
		{"14000020" + "5dd34fb9613c3ab0135a8c8b7765cf566a914ce41215f471626d4bb028d0c77c",
			hello.Message{Kind: hello.Finished, Data: unhex(t, "5dd34fb9613c3ab0135a8c8b7765cf566a914ce41215f471626d4bb028d0c77c")}},
	}
}

// both is what the ends of a connection of OpenSSL said, behind the first
// message: the server up to its Finished, then the client, which also updated
// its keys twice.
func both(t *testing.T) []said {
	return []said{
		{"0200005603030f79c4ed59239e25accdf7dcc5c5f42eebcde0c78ff26718ffd9ab19c22096af00130300002e002b0002030400330024001d00205a0c9068d2e79b5a4e85264d9f20a51fad8b1206c0729cb666a07e178b5eb403",
			hello.Message{Kind: hello.Server, Random: unhex(t, "0f79c4ed59239e25accdf7dcc5c5f42eebcde0c78ff26718ffd9ab19c22096af"), Share: unhex(t, "5a0c9068d2e79b5a4e85264d9f20a51fad8b1206c0729cb666a07e178b5eb403"), Suites: []int{4867}}},
		{"080000020000", hello.Message{Kind: hello.Encrypted}},
		{"0d00000b000008000d000400020807", hello.Message{Kind: hello.Request}},
		{"0b0000df000000db0000d6" + collector + "0000", hello.Message{Kind: hello.Certificate, Data: unhex(t, collector)}},
		{"0f00004408070040" + "852dab39765f4323b54d7b90c83dff7e24f575a8d6c06033cfe4d0206d87ecc2f098478b44e0a3d1b54489dbfb353ac7331729fd43f2c5727d0c3034f9a3980f",
			hello.Message{Kind: hello.Verify, Data: unhex(t, "852dab39765f4323b54d7b90c83dff7e24f575a8d6c06033cfe4d0206d87ecc2f098478b44e0a3d1b54489dbfb353ac7331729fd43f2c5727d0c3034f9a3980f")}},
		{"14000020" + "73c2f6d58d509d21d12341c7fffb05614e7a7deca40b10f854bb5ff2a86036ab",
			hello.Message{Kind: hello.Finished, Data: unhex(t, "73c2f6d58d509d21d12341c7fffb05614e7a7deca40b10f854bb5ff2a86036ab")}},
		{"0b0000d9000000d50000d0" + sender + "0000", hello.Message{Kind: hello.Certificate, Data: unhex(t, sender)}},
		{"0f00004408070040" + "bc830f09e5e252707b8c0c8eb5f1a368659329f6cb6ae8b0b622f17af61005726838b65d6f40cb489a0e9e9759326615424e041bc9fe0c27864e1c9a9502df09",
			hello.Message{Kind: hello.Verify, Data: unhex(t, "bc830f09e5e252707b8c0c8eb5f1a368659329f6cb6ae8b0b622f17af61005726838b65d6f40cb489a0e9e9759326615424e041bc9fe0c27864e1c9a9502df09")}},
		{"14000020" + "15c470b245e67d25c9cff3d5038b5861f51f1cc51970ad14a711480cef13bbfc",
			hello.Message{Kind: hello.Finished, Data: unhex(t, "15c470b245e67d25c9cff3d5038b5861f51f1cc51970ad14a711480cef13bbfc")}},
		{"1800000100", hello.Message{Kind: hello.Update}},
		{"1800000101", hello.Message{Kind: hello.Update, Ask: true}},
	}
}

// P16.1, P16.2, P16.3: what the ends of connections of another program said,
// one message behind the other.
func TestConnections(t *testing.T) {
	for i, list := range [][]said{answered(t), both(t)} {
		stream, again := "", ""
		for _, s := range list {
			stream += unhex(t, s.data)
			checkEncode(t, s.m)
		}
		rest := stream
		for _, s := range list {
			m, behind, e := hello.Decode(rest)
			if !same(m, s.m) || e != api.OK {
				t.Fatalf("connection %d: Decode(%x) = %+v, %v, not %+v", i, rest, m, e, s.m)
			}
			text, e := hello.Encode(m)
			if text != unhex(t, s.data) || e != api.OK {
				t.Errorf("connection %d: Encode(%+v) = %x, %v, not %s", i, m, text, e, s.data)
			}
			rest, again = behind, again+text
		}
		if rest != "" || again != stream {
			t.Errorf("connection %d: %x, and %x is left", i, again, rest)
		}
		checkError(t, rest, api.ErrBusy)
	}
}

// P16.2: messages of TLS 1.3 which are right there, but not here: of RFC 8448,
// section 3, of OpenSSL with other extensions, of suites with longer digests,
// and for signatures of other kinds.
func TestMessagesOfOthers(t *testing.T) {
	for _, data := range []string{
		"01 00 00 c0 03 03 cb 34 ec b1 e7 81 63 ba 1c 38 c6 da cb 19 6a 6d ff a2 1a 8d 99 12 ec 18 a2 ef 62 83 02 4d ec e7 00 00 06 13 01 13 03 13 02 01 00 00 91 00 00 00 0b 00 09 00 00 06 73 65 72 76 65 72 ff 01 00 01 00 00 0a 00 14 00 12 00 1d 00 17 00 18 00 19 01 00 01 01 01 02 01 03 01 04 00 23 00 00 00 33 00 26 00 24 00 1d 00 20 99 38 1d e5 60 e4 bd 43 d2 3d 8e 43 5a 7d ba fe b3 c0 6e 51 c1 3c ae 4d 54 13 69 1e 52 9a af 2c 00 2b 00 03 02 03 04 00 0d 00 20 00 1e 04 03 05 03 06 03 02 03 08 04 08 05 08 06 04 01 05 01 06 01 02 01 04 02 05 02 06 02 02 02 00 2d 00 02 01 01 00 1c 00 02 40 01",
		"02 00 00 56 03 03 a6 af 06 a4 12 18 60 dc 5e 6e 60 24 9c d3 4c 95 93 0c 8a c5 cb 14 34 da c1 55 77 2e d3 e2 69 28 00 13 01 00 00 2e 00 33 00 24 00 1d 00 20 c9 82 88 76 11 20 95 fe 66 76 2b db f7 c6 72 e1 56 d6 cc 25 3b 83 3d f1 dd 69 b1 b0 4e 75 1f 0f 00 2b 00 02 03 04",
		"08 00 00 24 00 22 00 0a 00 14 00 12 00 1d 00 17 00 18 00 19 01 00 01 01 01 02 01 03 01 04 00 1c 00 02 40 01 00 00 00 00",
		"0100008803033517a4e2ac5530f5addf3c13bcbe7649cad0f58b80d53706bc5161b3c69ce10e000004130300ff0100005b000b000403000102000a00040002001d002300000016000000170000000d000400020807002b0003020304002d00020101003300260024001d0020996ba2a3428832413da4f8eccc18b0ac8280b103836eb3126853db6eb867a163",
		"140000304a1c0de272824a554b8a5db32ba89d29007880bcb88c03252a2eacb3f956091a97cddbe481cc5c2ea3e95773058d1be2",
		"0d 00 00 0d 00 00 0a 00 0d 00 06 00 04 08 07 04 03",
		"0f 00 00 48 04 03 00 44" + strings.Repeat("30", 68),
		"04 00 00 05 00 00 00 00 00", "05 00 00 00", "fe 00 00 02 00 00",
	} {
		checkError(t, unhex(t, data), api.ErrBytes)
		checkError(t, unhex(t, data)+"behind", api.ErrBytes)
	}
}
