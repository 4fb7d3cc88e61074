package key

import (
	stdhmac "crypto/hmac"
	"crypto/sha256"
	"encoding/binary"
	"encoding/hex"
	"math"
	"math/big"
	"math/rand"
	"strings"
	"testing"

	"plait/api"
	"plait/cursor"
	"plait/hmac"
	"plait/sha"
)

// keyList are keys with few bits, with all of them, and in between.
var keyList = []uint64{0, 1, 2, 255, 256, 258, 65535, 65536, 1<<24 - 1, 1 << 24, 1<<31 - 1, 1 << 31, 1<<32 - 1, 1 << 32, 1<<32 + 1, 1<<40 + 7, 1<<56 - 1, 1 << 56, 1<<63 - 1, 1 << 63, 1<<63 + 1, 0x0123456789abcdef, 0xfedcba9876543210, 1<<64 - 2, 1<<64 - 1}

// numberList are what a and b may be.
var numberList = []uint32{0, 1, 3, 4, 127, 128, 255, 256, 258, 65535, 65536, 1<<24 - 1, 1 << 24, 1<<31 - 1, 1 << 31, 0x01234567, 0xfedcba98, 1<<32 - 2, 1<<32 - 1}

// intList are what an Id and a Port may be, whether or not an option has room for it.
var intList = []int{math.MinInt, math.MinInt + 1, -1 << 32, -65537, -65536, -65535, -257, -256, -255, -2, -1, 0, 1, 7, 80, 127, 128, 255, 256, 257, 263, 443, 32767, 32768, 65535, 65536, 65616, 1<<31 - 1, 1 << 31, 1 << 32, 1<<32 + 7, math.MaxInt - 1, math.MaxInt}

// ipList are Ips of the two sizes that options have, and of others.
var ipList = []string{"", "\x00", "\xff", "\x0a\x00\x01", "\x0a\x00\x00\x01", "\x00\x00\x00\x00", "\xff\xff\xff\xff", "\xff\x00\xff\x00", "12345", strings.Repeat("\x00", 16), strings.Repeat("\xff", 16), "\x20\x01\x0d\xb8\x00\x00\x00\x00\x00\xff\xff\x00\x00\x00\x00\x01", strings.Repeat("\x00\xff", 10), strings.Repeat("z", 17), strings.Repeat("plait", 50)}

// key64 are a key's bytes, by the library.
func key64(key uint64) string { return string(binary.BigEndian.AppendUint64(nil, key)) }

// text32 are the bytes of a and of b, by the library.
func text32(a, b uint32) string {
	return string(binary.BigEndian.AppendUint32(binary.BigEndian.AppendUint32(nil, a), b))
}

// codeUnder is the code of a text under a key's bytes, by the library.
func codeUnder(key, text string) api.Digest {
	h := stdhmac.New(sha256.New, []byte(key))
	h.Write([]byte(text))
	return api.Digest(h.Sum(nil))
}

// lowest are the n lowest bits of x, a multiple of 8, as bytes: x modulo 2^n, from 0 on.
func lowest(x, n int) string {
	b := new(big.Int).Mod(big.NewInt(int64(x)), new(big.Int).Lsh(big.NewInt(1), uint(n)))
	return string(b.FillBytes(make([]byte, n/8)))
}

// addressText is the text of an address, as the words of the document have it.
func addressText(x api.Addr) string {
	port := "\x00\x00"
	if x.HasPort {
		port = lowest(x.Port, 16)
	}
	return lowest(x.Id, 8) + x.Ip + port
}

// digits are the bytes of hexadecimal digits, which may be told apart by spaces.
func digits(t *testing.T, s string) string {
	t.Helper()
	b, err := hex.DecodeString(strings.ReplaceAll(s, " ", ""))
	if err != nil {
		t.Fatal(err)
	}
	return string(b)
}

// tryKey checks what is made of one key.
func tryKey(t *testing.T, key uint64) {
	t.Helper()
	if got := Bytes(key); got != key64(key) {
		t.Errorf("Bytes(%d) = %x, not %x", key, got, key64(key))
	}
	d := sha256.Sum256([]byte(key64(key)))
	if got, want := Token(key), binary.BigEndian.Uint32(d[:4]); got != want {
		t.Errorf("Token(%d) = %x, not %x", key, got, want)
	}
	if got, want := Idsn(key), binary.BigEndian.Uint64(d[24:]); got != want {
		t.Errorf("Idsn(%d) = %x, not %x", key, got, want)
	}
}

// tryMac checks the code of two numbers under two keys, and both its beginnings.
func tryMac(t *testing.T, first, second uint64, a, b uint32) {
	t.Helper()
	want := codeUnder(key64(first)+key64(second), text32(a, b))
	if got := Mac(first, second, a, b); got != want {
		t.Errorf("Mac(%d, %d, %d, %d) = %x, not %x", first, second, a, b, got, want)
	}
	if got := Short(first, second, a, b); got != string(want[:8]) {
		t.Errorf("Short(%d, %d, %d, %d) = %x, not %x", first, second, a, b, got, want[:8])
	}
	if got := Long(first, second, a, b); got != string(want[:20]) {
		t.Errorf("Long(%d, %d, %d, %d) = %x, not %x", first, second, a, b, got, want[:20])
	}
}

// tryAddress checks the code of an address under two keys.
func tryAddress(t *testing.T, first, second uint64, x api.Addr) {
	t.Helper()
	d := codeUnder(key64(first)+key64(second), addressText(x))
	if got := Address(first, second, x); got != string(d[24:]) {
		t.Errorf("Address(%d, %d, %+v) = %x, not %x", first, second, x, got, d[24:])
	}
}

// P8.1

func TestKeyExamples(t *testing.T) {
	if got := Bytes(258); got != "\x00\x00\x00\x00\x00\x00\x01\x02" {
		t.Errorf("Bytes(258) = %x", got)
	}
	d := sha.Sum("\x00\x00\x00\x00\x00\x00\x01\x02")
	if got := cursor.Put32("", Token(258)); got != string(d[:4]) {
		t.Errorf("Token(258) = %x, not %x", got, d[:4])
	}
	if got := cursor.Put64("", Idsn(258)); got != string(d[24:]) {
		t.Errorf("Idsn(258) = %x, not %x", got, d[24:])
	}
}

// What is made of some keys, written out.
func TestKeyNumbers(t *testing.T) {
	for _, x := range []struct {
		key   uint64
		bytes string
		token uint32
		idsn  uint64
	}{
		{0, "00 00 00 00 00 00 00 00", 0xaf5570f5, 0xe5b2328de0e83dfc},
		{1, "00 00 00 00 00 00 00 01", 0xcd266215, 0x19ec509083d00a50},
		{255, "00 00 00 00 00 00 00 ff", 0xb8862208, 0x436135ad88d2c735},
		{256, "00 00 00 00 00 00 01 00", 0x30e06038, 0xe6993a3592e88893},
		{258, "00 00 00 00 00 00 01 02", 0x38152625, 0x746679a32ca7b00e},
		{1<<32 - 1, "00 00 00 00 ff ff ff ff", 0x5981693c, 0x887ed5ffbf086e86},
		{1 << 32, "00 00 00 01 00 00 00 00", 0xcbbc4875, 0xe2bac754acdb4616},
		{1 << 63, "80 00 00 00 00 00 00 00", 0xb1b0bee5, 0x8e13d367c47404a9},
		{1<<64 - 1, "ff ff ff ff ff ff ff ff", 0x12a3ae44, 0x57fb595bbbacf0ca},
	} {
		if got := Bytes(x.key); got != digits(t, x.bytes) {
			t.Errorf("Bytes(%d) = %x, not %s", x.key, got, x.bytes)
		}
		if got := Token(x.key); got != x.token {
			t.Errorf("Token(%d) = %x, not %x", x.key, got, x.token)
		}
		if got := Idsn(x.key); got != x.idsn {
			t.Errorf("Idsn(%d) = %x, not %x", x.key, got, x.idsn)
		}
	}
}

func TestKeys(t *testing.T) {
	for _, key := range keyList {
		tryKey(t, key)
	}
	for k := range 64 {
		tryKey(t, 1<<k)
		tryKey(t, 1<<k-1)
		tryKey(t, ^uint64(1<<k))
	}
	r := rand.New(rand.NewSource(8))
	for range 1000 {
		tryKey(t, r.Uint64())
	}
}

// Keys that differ in any bit have other bytes, tokens and initial numbers.
func TestKeyBits(t *testing.T) {
	for _, key := range keyList {
		texts, tokens, idsns := map[string]bool{Bytes(key): true}, map[uint32]bool{Token(key): true}, map[uint64]bool{Idsn(key): true}
		for k := range 64 {
			other := key ^ 1<<k
			texts[Bytes(other)], tokens[Token(other)], idsns[Idsn(other)] = true, true, true
		}
		if len(texts) != 65 || len(tokens) != 65 || len(idsns) != 65 {
			t.Errorf("%x, and keys that differ from it in one bit: %d texts, %d tokens, %d initial numbers", key, len(texts), len(tokens), len(idsns))
		}
	}
}

// P8.2

func TestMacExamples(t *testing.T) {
	const want = "e5c5265ef877e59438bc6c934ea109a8fb18ad68f4de068ce0ef02c643316fdf"
	keys := "\x00\x00\x00\x00\x00\x00\x00\x01" + "\x00\x00\x00\x00\x00\x00\x00\x02"
	d := Mac(1, 2, 3, 4)
	if d != hmac.Of(keys, "\x00\x00\x00\x03\x00\x00\x00\x04") {
		t.Errorf("Mac(1, 2, 3, 4) = %x", d)
	}
	if got := hex.EncodeToString(d[:]); got != want {
		t.Errorf("Mac(1, 2, 3, 4) = %s, not %s", got, want)
	}
	if got := Short(1, 2, 3, 4); got != digits(t, want[:16]) {
		t.Errorf("Short(1, 2, 3, 4) = %x", got)
	}
	if got := Long(1, 2, 3, 4); got != digits(t, want[:40]) {
		t.Errorf("Long(1, 2, 3, 4) = %x", got)
	}
}

func TestMacs(t *testing.T) {
	for _, first := range keyList {
		for _, second := range keyList {
			tryMac(t, first, second, 3, 4)
			tryMac(t, first, second, 1<<32-1, 0)
		}
	}
	for _, a := range numberList {
		for _, b := range numberList {
			tryMac(t, 1, 2, a, b)
			tryMac(t, 1<<64-1, 1<<63, a, b)
		}
	}
	r := rand.New(rand.NewSource(82))
	for range 500 {
		tryMac(t, r.Uint64(), r.Uint64(), r.Uint32(), r.Uint32())
	}
}

// Keys that change places have another code, and so have numbers that do.
func TestMacPlaces(t *testing.T) {
	for _, x := range []struct {
		first, second uint64
		a, b          uint32
		want          string
	}{
		{1, 2, 3, 4, "e5c5265ef877e594"}, {2, 1, 3, 4, "34522d0868d91c4b"}, {1, 2, 4, 3, "ab0182b7b4d18e04"},
	} {
		if got := Short(x.first, x.second, x.a, x.b); got != digits(t, x.want) {
			t.Errorf("Short(%d, %d, %d, %d) = %x, not %s", x.first, x.second, x.a, x.b, got, x.want)
		}
	}
	for _, k := range keyList {
		for _, l := range keyList {
			if (Mac(k, l, 3, 4) == Mac(l, k, 3, 4)) != (k == l) {
				t.Errorf("the keys %d and %d may change places", k, l)
			}
		}
	}
	for _, a := range numberList {
		for _, b := range numberList {
			if (Mac(1, 2, a, b) == Mac(1, 2, b, a)) != (a == b) {
				t.Errorf("the numbers %d and %d may change places", a, b)
			}
		}
	}
}

// Any bit of both keys and of both numbers matters, in Short and in Long, too.
func TestMacBits(t *testing.T) {
	first, second, a, b := uint64(1<<63+5), uint64(258), uint32(1<<31), uint32(7)
	digests, shorts, longs := map[api.Digest]bool{}, map[string]bool{}, map[string]bool{}
	note := func(first, second uint64, a, b uint32) {
		digests[Mac(first, second, a, b)] = true
		shorts[Short(first, second, a, b)] = true
		longs[Long(first, second, a, b)] = true
	}
	note(first, second, a, b)
	for k := range 64 {
		note(first^1<<k, second, a, b)
		note(first, second^1<<k, a, b)
	}
	for k := range 32 {
		note(first, second, a^1<<k, b)
		note(first, second, a, b^1<<k)
	}
	if len(digests) != 193 || len(shorts) != 193 || len(longs) != 193 {
		t.Errorf("%d codes, %d and %d of their beginnings, not 193", len(digests), len(shorts), len(longs))
	}
}

// P8.3

func TestAddressExamples(t *testing.T) {
	x := api.Addr{Id: 7, Ip: "\x0a\x00\x00\x01", HasPort: true, Port: 80}
	keys := Bytes(1) + Bytes(2)
	if got, want := Address(1, 2, x), hmac.Right(hmac.Of(keys, "\x07\x0a\x00\x00\x01\x00\x50"), 8); got != want {
		t.Errorf("Address = %x, not %x", got, want)
	}
	if got := Address(1, 2, x); got != digits(t, "d285d88d89554601") {
		t.Errorf("Address = %x", got)
	}
	x.HasPort = false
	if got := Address(1, 2, x); got != digits(t, "67500521e52d2d92") {
		t.Errorf("Address, without a port, = %x", got)
	}
}

func TestAddresses(t *testing.T) {
	for _, ip := range ipList {
		for _, id := range intList {
			for _, port := range intList {
				for _, has := range []bool{false, true} {
					tryAddress(t, 1, 2, api.Addr{Id: id, Ip: ip, HasPort: has, Port: port})
				}
			}
		}
	}
	x := api.Addr{Id: 7, Ip: "\x0a\x00\x00\x01", HasPort: true, Port: 80}
	for _, first := range keyList {
		for _, second := range keyList {
			tryAddress(t, first, second, x)
			tryAddress(t, first, second, api.Addr{})
		}
	}
	for n := range 130 {
		tryAddress(t, 1, 2, api.Addr{Id: n, Ip: strings.Repeat("\x00\xff", n)[:n], HasPort: true, Port: n})
	}
}

// Numbers with the same lowest bits are the same, and others are not.
func TestAddressBits(t *testing.T) {
	x := api.Addr{Id: 7, Ip: "\x0a\x00\x00\x01", HasPort: true, Port: 80}
	want := Address(1, 2, x)
	for k := range 64 {
		id, port := x, x
		id.Id ^= 1 << k
		port.Port ^= 1 << k
		if got := Address(1, 2, id) == want; got != (k >= 8) {
			t.Errorf("the bit %d of Id: equal is %v", k, got)
		}
		if got := Address(1, 2, port) == want; got != (k >= 16) {
			t.Errorf("the bit %d of Port: equal is %v", k, got)
		}
	}
	for _, l := range [][2]int{{-1, 255}, {256, 0}, {math.MinInt, 0}, {math.MaxInt, 255}, {-249, 7}} {
		if Address(1, 2, api.Addr{Id: l[0]}) != Address(1, 2, api.Addr{Id: l[1]}) {
			t.Errorf("the Ids %d and %d differ", l[0], l[1])
		}
	}
	for _, l := range [][2]int{{-1, 65535}, {65536, 0}, {math.MinInt, 0}, {math.MaxInt, 65535}, {65616, 80}} {
		if Address(1, 2, api.Addr{HasPort: true, Port: l[0]}) != Address(1, 2, api.Addr{HasPort: true, Port: l[1]}) {
			t.Errorf("the Ports %d and %d differ", l[0], l[1])
		}
	}
}

// Without HasPort the Port does not matter; the bytes are those of a port 0.
func TestAddressWithoutPort(t *testing.T) {
	for _, ip := range ipList {
		zero := Address(1, 2, api.Addr{Id: 7, Ip: ip, HasPort: true})
		for _, port := range intList {
			if got := Address(1, 2, api.Addr{Id: 7, Ip: ip, Port: port}); got != zero {
				t.Errorf("the Port %d of the Ip %x matters, although there is none", port, ip)
			}
		}
	}
}

// Any byte of an Ip matters, and so do its ends.
func TestAddressIp(t *testing.T) {
	for _, ip := range ipList {
		seen := map[string]bool{Address(1, 2, api.Addr{Ip: ip}): true}
		for k := range ip {
			b := []byte(ip)
			b[k] ^= 1
			seen[Address(1, 2, api.Addr{Ip: string(b)})] = true
			seen[Address(1, 2, api.Addr{Ip: ip + ip[:k+1]})] = true
		}
		if len(seen) != 1+2*len(ip) {
			t.Errorf("%d bytes: %d codes", len(ip), len(seen))
		}
	}
}

// P8.4

// What an end computes with its own key first, the other one computes with the peer's first.
func TestOtherEnd(t *testing.T) {
	own, peer, mine, other := uint64(0x0123456789abcdef), uint64(1<<63), uint32(5), uint32(1<<32-1)
	x := api.Addr{Id: 3, Ip: "\xff\x00\x00\x01", HasPort: true, Port: 65535}
	type end struct {
		own, peer   uint64
		mine, other uint32
	}
	here, there := end{own, peer, mine, other}, end{peer, own, other, mine}
	if Mac(here.own, here.peer, here.mine, here.other) != Mac(there.peer, there.own, there.other, there.mine) {
		t.Error("Mac is another one at the other end")
	}
	if Short(here.own, here.peer, here.mine, here.other) != Short(there.peer, there.own, there.other, there.mine) {
		t.Error("Short is another one at the other end")
	}
	if Long(here.own, here.peer, here.mine, here.other) != Long(there.peer, there.own, there.other, there.mine) {
		t.Error("Long is another one at the other end")
	}
	if Address(here.own, here.peer, x) != Address(there.peer, there.own, x) {
		t.Error("Address is another one at the other end")
	}
}

// A code is that under the concatenation of the keys' bytes, wherever this is cut; two keys are at other places in the one where any other two are.
func TestConcatenation(t *testing.T) {
	x := api.Addr{Id: 7, Ip: "\x0a\x00\x00\x01"}
	for _, first := range keyList {
		for _, second := range keyList {
			whole := key64(first) + key64(second)
			if Mac(first, second, 3, 4) != hmac.Of(whole, text32(3, 4)) {
				t.Errorf("Mac under %d and %d is not that under their bytes", first, second)
			}
			if Address(first, second, x) != hmac.Right(hmac.Of(whole, addressText(x)), 8) {
				t.Errorf("Address under %d and %d is not that under their bytes", first, second)
			}
			c := cursor.Read(whole)
			if k, l := c.U64(), c.U64(); Mac(k, l, 3, 4) != Mac(first, second, 3, 4) {
				t.Errorf("Mac under %d and %d is not that under keys with the same bytes", first, second)
			}
		}
	}
	codes, texts := map[api.Digest]bool{}, map[string]bool{}
	for _, first := range keyList {
		for _, second := range keyList {
			codes[Mac(first, second, 3, 4)] = true
			texts[Bytes(first)+Bytes(second)] = true
		}
	}
	if len(codes) != len(texts) {
		t.Errorf("%d concatenations have %d codes", len(texts), len(codes))
	}
}

// Results depend on the arguments alone, whatever was computed before; a digest that was returned belongs to the caller.
func TestAgain(t *testing.T) {
	for _, key := range keyList {
		d := Mac(key, 2, 3, 4)
		clear(d[:])
		tryKey(t, key)
		tryMac(t, key, 2, 3, 4)
		tryAddress(t, key, 2, api.Addr{Id: 1, Ip: "abcd"})
		tryKey(t, key)
		tryMac(t, key, 2, 3, 4)
		tryAddress(t, key, 2, api.Addr{Id: 1, Ip: "abcd"})
	}
}

// The ways

func TestConcatenated(t *testing.T) {
	for _, x := range []struct {
		parts []string
		want  string
	}{
		{nil, ""}, {[]string{""}, ""}, {[]string{"a"}, "a"}, {[]string{"a", "", "\x00", "bc"}, "a\x00bc"},
	} {
		if got := concatenated(x.parts...); got != x.want {
			t.Errorf("%q are %q", x.parts, got)
		}
	}
}

// Numbers of all widths are encoded, each in as many bytes as it has.
func TestEncoded(t *testing.T) {
	for _, x := range []struct{ got, want string }{
		{encoded(255, cursor.Put8), "\xff"}, {encoded(258, cursor.Put16), "\x01\x02"},
		{encoded(258, cursor.Put32), "\x00\x00\x01\x02"}, {encoded(258, cursor.Put64), "\x00\x00\x00\x00\x00\x00\x01\x02"},
	} {
		if x.got != x.want {
			t.Errorf("%x, not %x", x.got, x.want)
		}
	}
}

// The code of both keys is bound to them, and may be passed on.
func TestCodeOfKeys(t *testing.T) {
	under := keys{1, 2}.code
	for _, text := range []string{"", "a", text32(3, 4), strings.Repeat("long ", 100)} {
		if got, want := under(text), codeUnder(key64(1)+key64(2), text); got != want {
			t.Errorf("the code of %q is %x, not %x", text, got, want)
		}
	}
}
