package shake_test

import (
	"slices"
	"strings"
	"testing"

	"cresset/api"
	"cresset/cert"
	"cresset/shake"
)

// Messages of the connections below that are always the same.
const (
	encryptedMessage     = "080000020000"
	requestMessage       = "0d00000b000008000d000400020807"
	collectorCertificate = "0b0000df000000db0000d63081d3308186020151300506032b657030143112301006035504030c09636f6c6c6563746f723022180f31393730303130313030303030305a180f39393939313233313233353935395a30143112301006035504030c09636f6c6c6563746f72302a300506032b6570032100166f397a4f21f6981b034ad99700e4c141c4262de9565ffd8afa4cfb2df0ab0e300506032b657003410012db6ffc5ef7505bc3ae198b77c600d6212f5bccdc371b6033caa09d5b2dd5184ea51e0c097555ed0bac223884d575b3d33ed0637fd009b734b1f651dfc951080000"
	senderCertificate    = "0b0000d9000000d50000d03081cd308180020112300506032b65703011310f300d06035504030c0673656e6465723022180f31393730303130313030303030305a180f39393939313233313233353935395a3011310f300d06035504030c0673656e646572302a300506032b657003210049b0778ab464ae28dce86f8e822f0c10572f783ac5a290ea67674df636cc0bab300506032b6570034100fb5110b622a762505718d6fc80a651a5e8f4f92edebb1ffe63334c4e8f2eba8ca180c532708df608bdd361c200f2a92af4bda545f80e5850984c956535c194020000"
)

// connection is a handshake with another program, at one end of which this
// package was; the secrets are those that the other program told.
type connection struct {
	server   bool // this package's end
	suites   []int
	suite    int
	messages []string // the first and the last three are the client's
	secrets  [4]string
}

// connections were captured by hand. This package was the client of a server of
// OpenSSL, and the server of the Go library's client, in a copy that was changed
// to send its first message as package hello has it, at times with suites that
// this package does not have. Both ends took all messages, and then data under
// the last two secrets.
func connections() map[string]connection {
	return map[string]connection{
		"client of 4865": {
			server: false, suites: []int{4865}, suite: 4865,
			messages: []string{
				"0100006c030373656e64657227732072616e646f6d2e73656e64657227732072616e646f6d2e000002130101000041002b0003020304000a00040002001d000d000400020807003300260024001d0020e5a288399113bec3fa4e1ed6a59d513002d9e5acb7deffe04d09d12077443955",
				"0200005603038ce66cd2615dc506dd0b2707f7055098de17de45b18121a6c590378c4d52b82000130100002e002b0002030400330024001d00201bc92791090425eb55cd4e8101e32c6f3c0ce1962435d99d51246afb8ea6352d",
				encryptedMessage,
				requestMessage,
				collectorCertificate,
				"0f000044080700404ae8c4199ef72730cc16bfd0b40e3119b485129782cb0b04c40b2b97266d97d7d8816d080ec29cc954826807aa29dc4a2bb18c139d9de04b56895a7370a2c20c",
				"14000020706dba5290b5a93f0f329c5f0aa9017e4c257acfa8c9bfffd2e4fe8f89c66a07",
				senderCertificate,
				"0f000044080700407ad7dad06ff37d46bdac709ec1fb798bd01ac94bba4a9e45291087112b29e2e11540eb125bc79e2389f7d9d70b8eaedc0e5724e54afc74d214ae38366e12f009",
				"1400002038cce0330281ccd57eb5205a229484e40b76234e390346aafc5ff484d31d6472",
			},
			secrets: [4]string{
				"3b8a9bc368ae044a2091da7825a0e54283f7a366824a1a59a6ccf987b794bfef",
				"a6c488c8bb0d9f9d19a160aa441bd3551b4c211906870e5b1ab342ff3e9b69ab",
				"bf89269c442205540582544278f1552580a9b4b8b942fe386cf2dba7bf619eb7",
				"ab8a21c5eaed109518308309db9fdac49786b0f3680c4db321eb31412a601fef",
			},
		},
		"client of 4867": {
			server: false, suites: []int{4867}, suite: 4867,
			messages: []string{
				"0100006c030373656e64657227732072616e646f6d2e73656e64657227732072616e646f6d2e000002130301000041002b0003020304000a00040002001d000d000400020807003300260024001d0020e5a288399113bec3fa4e1ed6a59d513002d9e5acb7deffe04d09d12077443955",
				"0200005603038e111f659a2413333b3916d4b59bc6ce228ee309036be52caa2539215a279df400130300002e002b0002030400330024001d0020dc0eff45cdb45715536aa08223b381725f52ec688db0aa868dd5cce46c57b64f",
				encryptedMessage,
				requestMessage,
				collectorCertificate,
				"0f000044080700407442935bfdd0f6e26bbfef54d9b3aef1ef834b0ce876d16ce64aff84ee97fb4e084e85d3cc2a1d31b1eb1da9fcc821257d1e7227b452931b43a5314c10fb590c",
				"1400002056fe7180bf86b3314901f14c25708f835a611599bec544aa1dbe5d3de1e45f19",
				senderCertificate,
				"0f0000440807004068b2e4aabbde56dea27ac20071d1b0436f77f7258d8f8defc0b1bc35ea58fa2b273bb1acc71aa66b9f870daefa3c244dca55018988104099504fe54b81cc1302",
				"140000200447ef3d0c55eb80a38df9526bfbb3001dc39db17bd142e7ddef13302cda331d",
			},
			secrets: [4]string{
				"33c1c62ab910351ca4f48d2f01b2394371861dddac18cbed3435c7000c0da74f",
				"1de95a06117df27389884f07699330d64d38c362ff7142cfc5090178d36d7e50",
				"3442e0bf26f31c65d88d30845b88c749a06485483e3c3c8999405ba8cfa8a73a",
				"8c302339c98f77a29bacc87bed591d5dc8833d57483b4827cbce8315170afd8b",
			},
		},
		"client of both": {
			server: false, suites: []int{4865, 4867}, suite: 4867,
			messages: []string{
				"0100006e030373656e64657227732072616e646f6d2e73656e64657227732072616e646f6d2e0000041301130301000041002b0003020304000a00040002001d000d000400020807003300260024001d0020e5a288399113bec3fa4e1ed6a59d513002d9e5acb7deffe04d09d12077443955",
				"020000560303bd42e1cdc5832e1fc98e45f703da89b4d86f3297b8ab55bc6e30427458a8288700130300002e002b0002030400330024001d00206687e88a9c8dda38a9dadbb2961e10fbf7a65550f040e03725a2b231a4be9e5b",
				encryptedMessage,
				requestMessage,
				collectorCertificate,
				"0f0000440807004070f07b77685fadaeb366a26548613d5e26cec5ae63e4c3d36d3fb4401a15b9c0b5371bde28a17de46d84b9e9dcaa02b83b4852ccb0115a6a0bbf5dea0ee5d205",
				"140000206fc34581f8dff940aa22e0ac5ff83646e29bf0ec30395627c45bc8b49a4fb121",
				senderCertificate,
				"0f00004408070040bc5aaae0cebcf87baf2eb28d13064a116ed8657ac21bfb5a2b75d15dc6a91f2e9ec4a61351e5099e851125bfb142bec7d9bd9eaa0cb1b66a2bbe9dcce3d15d0a",
				"14000020f9e556cb167494e386a3736fbd283960727756da92549cec11681bd6f0a0c095",
			},
			secrets: [4]string{
				"8a7ec9771b88ace4cfe48b92be35a4b6623da7a402b57570aceac9157e5b1803",
				"ac36495f69e3b35e54c972657a9507cfa2f80aeb98159125f4a28fbfb2a3b97b",
				"e7cdb972fab14fae555f0b5f20b3961a80224413b9beb8ffe9f17f9738f523b0",
				"3869ac204fc83a7be7ae0f9e0c5c829dfe02123af0bffaea4a41b2e9eb97b3f0",
			},
		},
		"server of 4865": {
			server: true, suites: []int{4865}, suite: 4865,
			messages: []string{
				"0100006c030381ea81e27fe1ef3803be3af72e4eac3c0ec0639453c72999610a2770c41c6b1b000002130101000041002b0003020304000a00040002001d000d000400020807003300260024001d00203669cf644e8f9850f1ce594d35d31c7d6a8f9c63a71495b820f7c1458004161b",
				"02000056030372616e646f6d206f6620636f6c6c656372616e646f6d206f6620636f6c6c656300130100002e002b0002030400330024001d00200cbdce4c4ebf013adb4be51b57ebae6d22b9d705ce299fc4d8a65ac60c4ea60a",
				encryptedMessage,
				requestMessage,
				collectorCertificate,
				"0f0000440807004076be2ae108cc173550dcb03e3c4b720330972b2cf398f5316cda2188fb1d6f546ad575d1282c335295df2ee62d79ebc240157466b28bf3de363ffc628a9de70f",
				"140000200e023f873ad6e48c6a88baf36cacd10704c7a786ad05ecf24a6e202074f1a47d",
				senderCertificate,
				"0f000044080700401844a8dd40c51cb7f57e87a165a4de9d419602ad4620a3a111dc71ea7ac6e600c16856b123f102ab430aa955408d1ce805d2d599423dd3c90b7d8d21d97e5900",
				"140000203cd1c873831994a4abfaa8a428a05f4d0f9b49af5136ee93255a41bd4ae2aa4b",
			},
			secrets: [4]string{
				"3e64fd3ba993bd55662712db34fc461899710ddf0ad91de2e2ba531651822032",
				"4481792c127393b24f19e5f0c3f82543197a427355851fc99508ba69111cbe51",
				"c941d402284cda7b216a3cde799768fbb3f6a2cfd8384054b9a252dee10b05a3",
				"843a4d6ef5a4b0c4610f902a3ee4b3abe8ef6d5b817715365c4c1dc1217e37b5",
			},
		},
		"server of 4867": {
			server: true, suites: []int{4867}, suite: 4867,
			messages: []string{
				"0100006c0303dacee513510ed9e7c903fc706c55e5a6e24df2da9b84e83787175f4dabba74dd000002130301000041002b0003020304000a00040002001d000d000400020807003300260024001d0020f8588bad82a53edcbe408fdfdeb2754b9882232a4a4faac216ae86c9b6b5623e",
				"02000056030372616e646f6d206f6620636f6c6c656372616e646f6d206f6620636f6c6c656300130300002e002b0002030400330024001d00200cbdce4c4ebf013adb4be51b57ebae6d22b9d705ce299fc4d8a65ac60c4ea60a",
				encryptedMessage,
				requestMessage,
				collectorCertificate,
				"0f0000440807004069eaf20c7e1edd86254d42cc3474bb4da368244424657d678a434e26b6f5e1b571cad6eeb5a259a00e2b8e7f5f3dec1dec5a89341969cb6f573b525c98a96f0a",
				"1400002010c410d03a7dde4b37c136d0e04cc3a75343a9d2173abe7e91437f15055a537a",
				senderCertificate,
				"0f00004408070040543f2d8a181b75a6a51967f0427503dfee9e1653cf413d87eb22ed3a58872b79aae70c51df733ea63ef24b03d1ca1d9712e7a38529de264e694af3779a59960b",
				"14000020075c14b7abfaeb15d360eb9b640c800fda9979212a95dec60dd7e6495095c238",
			},
			secrets: [4]string{
				"24136cc2c1113bffce15d59df253225f9892ced70b84afaa6cc11a56c102ba73",
				"ae7b22063a8607059851a6a9de29eace1dbe31a8df9ca48edfa8588af8277e7d",
				"b0936d840c70b82ff55ec469c82f6c3f6a1a7f0cda293407cb999f8c43e31ac1",
				"f66d33f3fe0d3d4b4cfcad126b09536bc1ced0e81cd4866295559babf720c374",
			},
		},
		"server of both, which likes 4865 best": {
			server: true, suites: []int{4865, 4867}, suite: 4865,
			messages: []string{
				"01000070030338f1536f2d6cf6cea92b439a7c50ccd6a0e0ebdbb53751845b99ef32a7757ae600000613031301c02b01000041002b0003020304000a00040002001d000d000400020807003300260024001d00205b22fe9470c391683481b721d6db43fb8c3138ea5da6cb18179ded79894e7971",
				"02000056030372616e646f6d206f6620636f6c6c656372616e646f6d206f6620636f6c6c656300130100002e002b0002030400330024001d00200cbdce4c4ebf013adb4be51b57ebae6d22b9d705ce299fc4d8a65ac60c4ea60a",
				encryptedMessage,
				requestMessage,
				collectorCertificate,
				"0f0000440807004082319065d88130b169a89ac41c9a3e85e8d60530b3c89a74d9c193c4c883955ccb53229f104250e79d51263f56adcc84a23536e270a5c0de6b009042cfabd60a",
				"140000206944b825ae8801a24dd72bcb0d4f94df94522ed88bf470b9846f521b0e5ad184",
				senderCertificate,
				"0f00004408070040b677e7b5039f380720ce9a6ef006221015f2b01439aec368ab69440c69fefadf07fb9202dbee1b14f5e168a9ec0b7d762ba257b429667827d2feafb7904bb00a",
				"14000020902e182244b6528d5559f287858ece022f4f5cd87c43210caf3819ac68cba32d",
			},
			secrets: [4]string{
				"c2198b0cceb20085fffb28fd0e1f2f85734f3c7a383cf95693593099ff5225fc",
				"1f80de0cef4f7a2236b169cb28e08cc2d4643871c86ef3ff6be4ce4c1a7dfeeb",
				"781bc0e3100c8290e4bef4091f46e2c9d4019e6dcf5040861884fec602059da4",
				"116c50334491cac98636067a97c6f7454aefea808dbf2120d10534a21cd2b986",
			},
		},
		"server of both, asked for 4866 and 4867": {
			server: true, suites: []int{4865, 4867}, suite: 4867,
			messages: []string{
				"0100006e03032b9340c2915e7feb26c0318e30d59ef1da0ad6aeb6ca1f77f447e612c5fb2a260000041302130301000041002b0003020304000a00040002001d000d000400020807003300260024001d0020cc4a6f125903e8582513acfe41c576c847df2c028f3e46bdd45c3bee1130800c",
				"02000056030372616e646f6d206f6620636f6c6c656372616e646f6d206f6620636f6c6c656300130300002e002b0002030400330024001d00200cbdce4c4ebf013adb4be51b57ebae6d22b9d705ce299fc4d8a65ac60c4ea60a",
				encryptedMessage,
				requestMessage,
				collectorCertificate,
				"0f00004408070040b92af178a75e320895275018a6800a163a393d3f2e8b1ef0d7062aa06ac44ac25ab7a7622639ab6cd1aa4c632a4ea2ac6b5486bd187540be7c9579b8d016cc05",
				"14000020a2700da8c59b30d31a786732bf59619e8393d1d1b7bcf4cbf33ff38c6b0115ee",
				senderCertificate,
				"0f00004408070040200cba1f8ca553485010803d53510f3b64727c82e382070e28e89b48bcfd18026b839d67e0fe2720b099cf323af40c6eacddc4456d10d344f3f73720d6014c0d",
				"1400002067ae65eb701b0c0ea186d060e42106f2bb9c177c61cd8912529410944ada9088",
			},
			secrets: [4]string{
				"60bf35a620441cff044cf1730290a68939003f7a3bbec239549bc9778cb4ace0",
				"0a91fbc75e72cdaa2bf46e4a79804860e8a5b19f2bcf618bf7c8b33df968b594",
				"db39fe6ce5da9502a4602f906defef7c15ee4e5c4015d2c50f06783da46847ab",
				"afcd87cd3501fa7d4f203cd1895336015823b494d205283e8176ed20a35ff74b",
			},
		},
	}
}

// config is what this package had in a connection.
func (c connection) config(t *testing.T) shake.Config {
	t.Helper()
	own := shake.Config{Seed: "seed of a sender", Cert: senderCertificate, Prints: []string{collectorCertificate}, Random: "sender's random.", Secret: "sender's secret."}
	if c.server {
		own = shake.Config{Seed: "collector's seed", Cert: collectorCertificate, Prints: []string{senderCertificate}, Random: "random of collec", Secret: "secret of collec"}
	}
	own.Cert, own.Prints[0] = decoded(t, unhex(t, own.Cert)).Data, cert.Print(decoded(t, unhex(t, own.Prints[0])).Data)
	own.Seed, own.Random, own.Secret = strings.Repeat(own.Seed, 2), strings.Repeat(own.Random, 2), strings.Repeat(own.Secret, 2)
	own.Suites, own.Now = c.suites, usualTime
	return own
}

// P18.1 to P18.5: connections with other programs: what this package says, and
// the secrets that it comes to.
func TestConnections(t *testing.T) {
	for name, c := range connections() {
		t.Run(name, func(t *testing.T) {
			t.Parallel()
			var all []string
			for _, m := range c.messages {
				all = append(all, unhex(t, m))
			}
			own := append([]string{all[0]}, all[7:]...)
			if c.server {
				own = all[1:7]
			}
			s, e := shake.New(c.server, c.config(t))
			if e != api.OK {
				t.Fatal(e)
			}
			var said []string
			if !c.server {
				first, e := s.Start()
				if e != api.OK {
					t.Fatal(e)
				}
				said = append(said, first)
			}
			for i, m := range heard(c.server, all) {
				l, e := s.Take(m)
				if e != api.OK {
					t.Fatalf("message %d: %v", i, e)
				}
				said = append(said, l...)
			}
			if !slices.Equal(said, own) {
				t.Errorf("%x, not %x", said, own)
			}
			c.checkState(t, s)
		})
	}
}

func (c connection) checkState(t *testing.T, s *shake.Side) {
	t.Helper()
	want := shown{done: true, suite: c.suite, peer: c.config(t).Prints[0]}
	for i, secret := range c.secrets {
		want.secrets[i] = unhex(t, secret)
	}
	if got := stateOf(s); got != want {
		t.Errorf("%+v, not %+v", got, want)
	}
}
