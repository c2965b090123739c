package keys_test

import (
	"crypto"
	"crypto/ed25519"
	"crypto/rsa"
	"crypto/sha256"
	"crypto/x509"
	"strings"
	"testing"

	"cresset/api"
	"cresset/keys"
	"cresset/seal"
)

// Messages with the certificates that the ends of OpenSSL's connections show.
const (
	collector = "0b0000df000000db0000d63081d3308186020101300506032b657030143112301006035504030c09636f6c6c6563746f723022180f31393730303130313030303030305a180f32313236313230313037303634305a30143112301006035504030c09636f6c6c6563746f72302a300506032b6570032100f5cd2c186a74a0cfe4df1e95798865b878bae89bb9dfd99b60ad62e050a429a2300506032b65700341000be192b9d05daf43ceccb96584b59921971336ab9ae3876aeb1a4faee106859a43c24ad18288ffd1144bcc4fb7580a31502fe6b70f4a163277d810427d0e8e090000"
	sender    = "0b0000d9000000d50000d03081cd308180020101300506032b65703011310f300d06035504030c0673656e6465723022180f31393730303130313030303030305a180f32313236313230313037303634305a3011310f300d06035504030c0673656e646572302a300506032b65700321005987f75fa08e8c15a6f41574588cf92ad291f883651d3e06e35c86776fa0d13b300506032b6570034100e4eb197708a38aa0deb8e69b88905b062846ec165d6f52df6f78fec4a86e8db645e4349253c53ac383fba3c5d0c5a8a68b2529f11fc16dd27395b1bf9dc8e0060000"
)

// message is one of a handshake, and who said it.
type message struct {
	server bool
	data   string
}

// sealed is an encrypted record: its number under its keys, its bytes, and
// what kind of text is in it.
type sealed struct {
	number int
	data   string
	kind   int
	text   string
}

// told is a secret that a connection is known to have had: where it comes from
// (the master secret or the handshake's, the label, how many messages had been
// said, how many times keys had been updated since), and what was under it. The
// key and the iv are empty where nobody told them.
type told struct {
	master  bool
	label   string
	said    int
	updates int
	secret  string
	key, iv string
	records []sealed
}

// connection is a handshake of other programs.
type connection struct {
	suite    int
	shared   string
	messages []message
	secrets  []told
}

// said is how much the first n messages of a connection are.
func (c connection) said(t *testing.T, n int) string {
	t.Helper()
	all := ""
	for _, m := range c.messages[:n] {
		all += unhex(t, m.data)
	}
	return all
}

// published is the connection of RFC 8448, section 3.
func published() connection {
	return connection{
		suite:  4865,
		shared: "8bd4054fb55b9d63fdfbacf9f04b9f0d35e6d63f537563efd46272900f89492d",
		messages: []message{
			{false, "010000c00303cb34ecb1e78163ba1c38c6dacb196a6dffa21a8d9912ec18a2ef6283024dece7000006130113031302010000910000000b0009000006736572766572ff01000100000a00140012001d0017001800190100010101020103010400230000003300260024001d002099381de560e4bd43d23d8e435a7dbafeb3c06e51c13cae4d5413691e529aaf2c002b0003020304000d0020001e040305030603020308040805080604010501060102010402050206020202002d00020101001c00024001"},
			{true, "020000560303a6af06a4121860dc5e6e60249cd34c95930c8ac5cb1434dac155772ed3e2692800130100002e00330024001d0020c9828876112095fe66762bdbf7c672e156d6cc253b833df1dd69b1b04e751f0f002b00020304"},
			{true, "080000240022000a00140012001d00170018001901000101010201030104001c0002400100000000"},
			{true, "0b0001b9000001b50001b0308201ac30820115a003020102020102300d06092a864886f70d01010b0500300e310c300a06035504031303727361301e170d3136303733303031323335395a170d3236303733303031323335395a300e310c300a0603550403130372736130819f300d06092a864886f70d010101050003818d0030818902818100b4bb498f8279303d980836399b36c6988c0c68de55e1bdb826d3901a2461eafd2de49a91d015abbc9a95137ace6c1af19eaa6af98c7ced43120998e187a80ee0ccb0524b1b018c3e0b63264d449a6d38e22a5fda430846748030530ef0461c8ca9d9efbfae8ea6d1d03e2bd193eff0ab9a8002c47428a6d35a8d88d79f7f1e3f0203010001a31a301830090603551d1304023000300b0603551d0f0404030205a0300d06092a864886f70d01010b05000381810085aad2a0e5b9276b908c65f73a7267170618a54c5f8a7b337d2df7a594365417f2eae8f8a58c8f8172f9319cf36b7fd6c55b80f21a03015156726096fd335e5e67f2dbf102702e608ccae6bec1fc63a42a99be5c3eb7107c3c54e9b9eb2bd5203b1c3b84e0a8b2f759409ba3eac9d91d402dcc0cc8f8961229ac9187b42b4de10000"},
			{true, "0f000084080400805a747c5d88fa9bd2e55ab085a61015b7211f824cd484145ab3ff52f1fda8477b0b7abc90db78e2d33a5c141a078653fa6bef780c5ea248eeaaa785c4f394cab6d30bbe8d4859ee511f602957b15411ac027671459e46445c9ea58c181e818e95b8c3fb0bf3278409d3be152a3da5043e063dda65cdf5aea20d53dfacd42f74f3"},
			{true, "140000209b9b141d906337fbd2cbdce71df4deda4ab42c309572cb7fffee5454b78f0718"},
			{false, "14000020a8ec436d677634ae525ac1fcebe11a039ec17694fac6e98527b642f2edd5ce61"},
		},
		secrets: []told{
			{label: "c hs traffic", said: 2, secret: "b3eddb126e067f35a780b3abf45e2d8f3b1a950738f52e9600746a0e27a55a21",
				key: "dbfaa693d1762c5b666af5d950258d01", iv: "5bd3c71b836e0b76bb73265f",
				records: []sealed{{0, "170303003575ec4dc238cce60b298044a71e219c56cc77b0517fe9b93c7a4bfc44d87f38f80338ac98fc46deb384bd1caeacab6867d726c40546", 22, "14000020a8ec436d677634ae525ac1fcebe11a039ec17694fac6e98527b642f2edd5ce61"}}},
			{label: "s hs traffic", said: 2, secret: "b67b7d690cc16c4e75e54213cb2d37b4e9c912bcded9105d42befd59d391ad38",
				key: "3fce516009c21727d0f2e4e86ee403bc", iv: "5d313eb2671276ee13000b30"},
			{master: true, label: "c ap traffic", said: 6, secret: "9e40646ce79a7f9dc05af8889bce6552875afa0b06df0087f792ebb7c17504a5",
				key: "17422dda596ed5d9acd890e3c63f5051", iv: "5b78923dee08579033e523d9",
				records: []sealed{{1, "1703030013c9872760655666b74d7ff1153efd6db6d0b0e3", 21, "0100"}}},
			{master: true, label: "s ap traffic", said: 6, secret: "a11af9f05531f856ad47116b45a950328204b4f44bfb6b3a4b4f1f3fcb631643",
				key: "9f02283b6c9c07efc26bb9f2ac92e356", iv: "cf782b88dd83549aadf1e984"},
			{master: true, label: "exp master", said: 6, secret: "fe22f881176eda18eb8f44529e6792c50c9a3f89452f68d8ae311b4309d3cf50"},
			{master: true, label: "res master", said: 7, secret: "7df235f2031d2a051287d02b0241b0bfdaf86cc856231f2d5aba46c434ec196c"},
		},
	}
}

// served is a connection to a server of OpenSSL, which told its secrets.
func served() connection {
	return connection{
		suite:  4865,
		shared: "bfba95904417a4364af5c076365f074d1572ff927239d6a67e1a1123a1351317",
		messages: []message{
			{false, "0100006c03035a715a715a715a715a715a715a715a715a715a715a715a715a715a715a715a71000002130101000041002b0003020304000a00040002001d000d000400020807003300260024001d0020f9660b6f21cff572ce0070a645d45435497b93416e026a80ab7222050b4fec65"},
			{true, "02000056030376fd70b7a19cf9bc00eb189df12bcdcc074d460bb06a519c1123f007b264326900130100002e002b0002030400330024001d00201543e7fd1d1d04484ea7fbb0c29f684f63574e5a31428673391bc283e8d7cd7c"},
			{true, "080000020000"},
			{true, "0d00000b000008000d000400020807"},
			{true, collector},
			{true, "0f00004408070040451e987df54e75294a2d8cf2dd55a4052d4de457d5436cbad32e557e2c41c16e3af5f1adef40a053eee83ea04054f1a3033f9633e5dd6356149932f2bfd23c08"},
			{true, "14000020f8dc607488750e04f3578c9896e8b65b4878ea3626172bbbaa0900f296e2e2bd"},
			{false, sender},
			{false, "0f00004408070040f2c42e5c94869af2c6ffeb812a3d2be2446112fe5974b374c9ad12de240411c6e52094d96d68645fcd76f6a80a874393737c8cdb2b2113f4ba5fadffce139b0b"},
			{false, "1400002072443fb3e0d2fcede134158f1a1e778a3eaaf778efe64cf4f57a428d3763a76e"},
		},
		secrets: []told{
			{label: "c hs traffic", said: 2, secret: "504cea843f846e91561c7f7b6b4b05f21ed29b701bbefe571092fe2d169ee9a6"},
			{label: "s hs traffic", said: 2, secret: "9e98f7a3dc7a9df32822754d981eb96732921713eddca0a1008c60a9a02f9e03",
				records: []sealed{
					{4, "170303003598111b53d1ce9a30d4679c5919cf0c38e2ad2b867f409091f3b72568f0dd3d746fe8a664ef3f04402d670b2bb2d3a6646006935f62", 22, "14000020f8dc607488750e04f3578c9896e8b65b4878ea3626172bbbaa0900f296e2e2bd"},
				}},
			{master: true, label: "exp master", said: 7, secret: "ebe6f13abcc1297be353fc3e502301bba13b3a58ce5c53694429438e73eaf03c"},
			{master: true, label: "c ap traffic", said: 7, secret: "c9e99451dc267c6e37c51285f67db4571ae9995948e4dbc9eb3cecaaf1ca50ea",
				records: []sealed{
					{0, "1703030022aae0e55f30e4e3fdc62d1f883be930b39b866dd7f7637bc832780bc38b7e2c5e67e9", 23, "746f2074686520636f6c6c6563746f720a"},
				}},
			{master: true, label: "c ap traffic", said: 7, updates: 1, secret: "c0f219063885e76a6dce6904f968467e7fdf07677a28d24dd61d78500a7aacd0",
				records: []sealed{
					{0, "17030300279c2fbf7bb1baf55ed1ce753d83a1174b9985a3ce77fc56cb42521dcfff32f3f08bf5862d57b9bc", 23, "756e64657220746865206e657874207365637265740a"},
				}},
			{master: true, label: "c ap traffic", said: 7, updates: 2, secret: "faf9f5e29ad8897011985f6e86629ff154ae44e9bfc6ca03acd477226d5f86cb",
				records: []sealed{
					{0, "17030300279c259c6a7ca7eb091ff325dfc62a3fca040aeb30c9e99858adf160f420f465459e221590348f87", 23, "756e64657220746865206e657874207365637265740a"},
				}},
			{master: true, label: "s ap traffic", said: 7, secret: "08d5407d37b339747c43bb719924cc4cc420cfba32606e24361ec71024c35ca7",
				records: []sealed{
					{0, "170303001f9d1102a69e282cca286bbca589b14aa59b670606999bb17d6b213b707bcf9f", 23, "746f207468652073656e6465720a"},
				}},
			{master: true, label: "s ap traffic", said: 7, updates: 1, secret: "07a0e448e4aef7c5daddea060054729463a53dbef7b62950c3024327ae38a5b8",
				records: []sealed{
					{0, "170303002502cc3cf8d52b65376d3a9bbe4b6e7579ac2367c0c46b44ab539403f23946e0c52d240a0aa7", 23, "616c736f20756e64657220746865206e6578740a"},
				}},
			{master: true, label: "s ap traffic", said: 7, updates: 2, secret: "e5499159f2312b45baa58d3284d11bc2577af4a0d331e9837e7187f06fbfa941",
				records: []sealed{
					{0, "17030300255484a6460757be546a34795c32485e5dce79b552aa01cb82a554b5fb2dfe3edbd5ce034791", 23, "616c736f20756e64657220746865206e6578740a"},
				}},
		},
	}
}

// asked is a connection that a client of OpenSSL made, which told its secrets.
func asked() connection {
	return connection{
		suite:  4867,
		shared: "eb6a07c3c31b574cde66ee5901da8d3fc0248146d5e95a95ab93791c8826207b",
		messages: []message{
			{false, "010000880303b6358bc28a8f249e9d00aad2e5a2271f9e858f5a9df6f18962f5a90b23deecce000004130300ff0100005b000b000403000102000a00040002001d002300000016000000170000000d000400020807002b0003020304002d00020101003300260024001d0020c2776b20b9b47240dc3dd0dc88014a82c0614d08c0869c101894e840ab41f825"},
			{true, "020000560303576d576d576d576d576d576d576d576d576d576d576d576d576d576d576d576d00130300002e002b0002030400330024001d0020f9660b6f21cff572ce0070a645d45435497b93416e026a80ab7222050b4fec65"},
			{true, "080000020000"},
			{true, "0d00000b000008000d000400020807"},
			{true, collector},
			{true, "0f00004408070040679d78a4d21e51877c34db0980e020574c939810e3ef5fae82648cd5cb7001efe9c13d77b0892163c4dfbdf468fc12c197614f0f49902c464858b9929b77f10b"},
			{true, "140000202a0f799763f175d89b567008507df01debbc5c7f8214755af3ad7bc2786c731b"},
			{false, sender},
			{false, "0f00004408070040cfe8d9d1b61b47092bdcbdbcc55d703d121e3485d6e9cb49924db84c63c10741aabed0449e6abc9d5c3176a0493f870d5bbc4ea328a41c3a39cce1a6423e3702"},
			{false, "140000200f7c9104511d35e4152d5d8a834fb15896eabfd9a247968656f3b0691ffedf63"},
		},
		secrets: []told{
			{label: "c hs traffic", said: 2, secret: "4e572a4b00ddb58606ff0b00a0fa81a0af9905d5d33059f5c75fd6284611dff6",
				records: []sealed{
					{0, "17030300ee5b940a008287f02794c53a13c1a906534fee685ccfd50823bafd377ee622417bb53ba04688548288f00c757fa7b70fe48b8c80c5bec30acfad3001d94ba7612d68c2aacdc76e633652dc6880bf1fc75541ec5459c82e55835345abaf22d2cdd25da200f9cb4f9b20744dc3f91a5e61b823b64143d9d4c0b315f2a61230c9cb7bc746a58f51a5926b56503d602e6d9f67708835289810404f159e0f61cfca82d576daa6b8085c120eacd8daac1bf48ab32766c3c2553005441479f00230aa8a7c4c75df11f75ab409f3cceb7db06a19ba972162ab16512a5c7cdf1bdccabc55dc216a4b1587799fe5e5ce095bb8ca", 22, sender},
					{1, "1703030059a98ffc18a7bedc2ec1d077828538188c6ba0d5cecbd03077815292313daf295892d1c56404928d43732b805e771e6c6e759878a2aa4e4e61cbfd7eafa32e3d16d2e7fab46b0c284f182942af894e821ab55083dbeb0fac6ee5", 22, "0f00004408070040cfe8d9d1b61b47092bdcbdbcc55d703d121e3485d6e9cb49924db84c63c10741aabed0449e6abc9d5c3176a0493f870d5bbc4ea328a41c3a39cce1a6423e3702"},
					{2, "1703030035a64e56095bbdcc1c781ee39e4f32df5189715c5d0d73a99f2b04a5359fc88eadfe2fff6bca5c39a4a908a0191c3ef8368058419283", 22, "140000200f7c9104511d35e4152d5d8a834fb15896eabfd9a247968656f3b0691ffedf63"},
				}},
			{label: "s hs traffic", said: 2, secret: "a77c3cdcd3f6cb454a3f8bb5443f95947df98b39a1073118ebab339812bed6e1"},
			{master: true, label: "exp master", said: 7, secret: "4cef342d467f0347ea22e3f0cce4fce9bf7501455e727b5c97e1878dafa31682"},
			{master: true, label: "s ap traffic", said: 7, secret: "3acb7fc0c3dff3a32dc1cf1c1489cdc39e332ba90404fc3bfd1de2e241280ce1",
				records: []sealed{
					{0, "170303001fef72a4ad176615a71f9f64cf930d6552418f945e55e45b8da47a1068fade1b", 23, "746f207468652073656e6465720a"},
				}},
			{master: true, label: "s ap traffic", said: 7, updates: 1, secret: "6c780ac685b9b9a378e12aa8bfe1aabb125975d31ca6510cde9f7af7de2222a7",
				records: []sealed{
					{0, "17030300277602f9cddeee9c2e9d4f3447730dd03eb025faee65fbd34cbe52bb78598d4253169925d5368210", 23, "756e64657220746865206e657874207365637265740a"},
				}},
			{master: true, label: "s ap traffic", said: 7, updates: 2, secret: "0b860849d095d7185b5a7c4f44f6d4627a4cb2c7c0a820f5fd0206a4f45f7ae1",
				records: []sealed{
					{0, "1703030027f29187dbcb2a39a20fafd462a7ebfb841f04deb83d0e7f950331b36f4381945406679ab780b472", 23, "756e64657220746865206e657874207365637265740a"},
				}},
			{master: true, label: "c ap traffic", said: 7, secret: "a98ba6c3d27d434cf41a2df99092ffdb4a0b1adc23ca74f4914dab893631783f",
				records: []sealed{
					{0, "170303002248c6540fbc150be4f9a0cbbe32e0623c2363a8d3d11d1bff1bcd25c24282705ee92b", 23, "746f2074686520636f6c6c6563746f720a"},
				}},
			{master: true, label: "c ap traffic", said: 7, updates: 1, secret: "d380214044155659308ac9cd4bf3a88270047ea4044d88649fb82b38ffa8f42f",
				records: []sealed{
					{0, "17030300254e8abd0140523c3d106876f85e72a810f43f24ef5067674f98c67723e44ea4be63c8801f86", 23, "616c736f20756e64657220746865206e6578740a"},
				}},
			{master: true, label: "c ap traffic", said: 7, updates: 2, secret: "a6da7ebf431f74051cc8e56698541d227fc7776372c0f7648bc004c6612bb224",
				records: []sealed{
					{0, "17030300252da38cadcbfdce5226c8f975f0ec50c4a3d5869bcb7e37508b90b597b967e093ccd0d561b8", 23, "616c736f20756e64657220746865206e6578740a"},
				}},
		},
	}
}

// P17.1, P17.2, P17.3: connections of other programs.
func TestConnections(t *testing.T) {
	for name, c := range map[string]connection{"published": published(), "served": served(), "asked": asked()} {
		t.Run(name, func(t *testing.T) {
			for _, s := range c.secrets {
				checkTold(t, c, s)
			}
			checkShown(t, c)
		})
	}
}

// secretOf is the secret that a connection has at a place.
func secretOf(t *testing.T, c connection, s told) string {
	t.Helper()
	from := keys.Handshake(unhex(t, c.shared))
	if s.master {
		from = keys.Master(from)
	}
	out := secret(t, from, s.label, c.said(t, s.said))
	for range s.updates {
		out = keys.Next(out)
	}
	return out
}

// checkTold holds a secret, and its key and iv, against what is known of them.
func checkTold(t *testing.T, c connection, s told) {
	t.Helper()
	got := secretOf(t, c, s)
	if got != unhex(t, s.secret) {
		t.Errorf("%s, %d updates: %x, not %s", s.label, s.updates, got, s.secret)
	}
	key, iv, e := keys.Traffic(c.suite, got)
	if e != api.OK || s.key != "" && key != unhex(t, s.key) || s.iv != "" && iv != unhex(t, s.iv) {
		t.Errorf("%s, %d updates: %x, %x, %v, not %s, %s", s.label, s.updates, key, iv, e, s.key, s.iv)
	}
	for _, r := range s.records {
		checkRecord(t, c.suite, key, iv, r)
	}
}

// checkRecord tells whether a key and an iv are those of a record.
func checkRecord(t *testing.T, suite int, key, iv string, r sealed) {
	t.Helper()
	nonce, e := seal.Nonce(iv, r.number)
	if e != api.OK {
		t.Fatalf("Nonce(%x) = %v", iv, e)
	}
	data, want := unhex(t, r.data), unhex(t, r.text)+string([]byte{byte(r.kind)})
	if got, e := seal.Open(suite, key, nonce, data[:5], data[5:]); got != want || e != api.OK {
		t.Errorf("record %d, %s: %x, %v, not %x", r.number, r.data, got, e, want)
	}
}

// checkShown holds what the ends of a connection signed, and their tags,
// against what had been said.
func checkShown(t *testing.T, c connection) {
	t.Helper()
	handshake := keys.Handshake(unhex(t, c.shared))
	ends := map[bool]string{true: secret(t, handshake, "s hs traffic", c.said(t, 2)), false: secret(t, handshake, "c hs traffic", c.said(t, 2))}
	last := ""
	for i, m := range c.messages {
		data, said := unhex(t, m.data), c.said(t, i)
		switch data[0] {
		case 15:
			if !isSigned(t, last, data, keys.Signed(m.server, said)) {
				t.Errorf("message %d: a signature of something else", i)
			}
			if isSigned(t, last, data, keys.Signed(!m.server, said)) || isSigned(t, last, data, keys.Signed(m.server, said+data)) {
				t.Errorf("message %d: a signature of anything", i)
			}
		case 20:
			if tag := keys.Tag(ends[m.server], said); tag != data[4:] {
				t.Errorf("message %d: %x, not %x", i, tag, data[4:])
			}
			if tag := keys.Tag(ends[!m.server], said); tag == data[4:] {
				t.Errorf("message %d: the other end's tag", i)
			}
		}
		last = data
	}
}

// isSigned tells whether a message has a signature of text, by the key of the
// certificate in the message ahead of it.
func isSigned(t *testing.T, shown, data, text string) bool {
	t.Helper()
	size := int(shown[9])<<8 + int(shown[10])
	c, err := x509.ParseCertificate([]byte(shown[11 : 11+size]))
	if err != nil {
		t.Fatal(err)
	}
	switch key := c.PublicKey.(type) {
	case ed25519.PublicKey:
		return ed25519.Verify(key, []byte(text), []byte(data[8:]))
	case *rsa.PublicKey:
		digest := sha256.Sum256([]byte(text))
		return rsa.VerifyPSS(key, crypto.SHA256, digest[:], []byte(data[8:]), &rsa.PSSOptions{SaltLength: 32}) == nil
	}
	t.Fatalf("a key of %v", c.PublicKeyAlgorithm)
	return false
}

// P17.1: the secrets of RFC 8448 on the way to those of its messages.
func TestPublishedSecrets(t *testing.T) {
	early := unhex(t, "33ad0a1c607ec03b09e6cd9893680ce210adf300aa1f2660e1b22e10f170f92a")
	handshake := unhex(t, "1dc826e93606aa6fdc0aadc12f741b01046aa6b99f691ed221a9f0ca043fbeac")
	if got := keys.Early(); got != early {
		t.Errorf("Early() = %x", got)
	}
	if got := secret(t, early, "derived", ""); got != unhex(t, "6f2615a108c702c5678f54fc9dbab69716c076189c48250cebeac3576c3611ba") {
		t.Errorf("derived of the early secret: %x", got)
	}
	if got := keys.Handshake(unhex(t, published().shared)); got != handshake {
		t.Errorf("Handshake = %x", got)
	}
	if got := secret(t, handshake, "derived", ""); got != unhex(t, "43de77e0c77713859a944db9db2590b53190a65b3ee2e4f12dd7a0bb7ce254b4") {
		t.Errorf("derived of the handshake's secret: %x", got)
	}
	if got := keys.Master(handshake); got != unhex(t, "18df06843d13a08bf2a449844c5f8a478001bc4d4c627984d5a41da8d0402919") {
		t.Errorf("Master = %x", got)
	}
}

// P17.3: what a server signs, as RFC 8446, section 4.4.3, shows it, up to the
// digest.
func TestPublishedSigned(t *testing.T) {
	said := strings.Repeat("x", 1000)
	digest := sha256.Sum256([]byte(said))
	want := strings.Repeat("20", 64) +
		"544c5320312e332c207365727665722043657274696669636174655665726966" + "7900"
	if got := keys.Signed(true, said); got != unhex(t, want)+string(digest[:]) {
		t.Errorf("Signed = %x", got)
	}
}
