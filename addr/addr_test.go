package addr

import (
	"encoding/binary"
	"encoding/hex"
	"math"
	"math/rand"
	"slices"
	"strings"
	"testing"

	"plait/api"
)

// echoSizes and otherSizes are how many bytes the bodies of Adds have, with Echo and without it, as the document's table says.
var (
	echoSizes  = []int{6, 8, 18, 20}
	otherSizes = []int{14, 16, 26, 28}
)

// What the fields of options are, each in all of its ways; and ints that are neither identifiers nor ports.
var (
	idList   = []int{0, 1, 255}
	portList = []int{0, 1, 258, 65535}
	ipSizes  = []int{4, 16}
	bools    = []bool{false, true}
	noIds    = []int{math.MinInt, math.MinInt + 1, -1 << 32, -1<<32 + 1, -256, -255, -1, 256, 257, 511, 512, 1 << 16, 1<<31 - 1, 1 << 31, 1 << 32, 1<<32 + 1, 1<<32 + 255, math.MaxInt - 1, math.MaxInt}
	noPorts  = []int{math.MinInt, math.MinInt + 1, -1 << 32, -1<<32 + 1, -65536, -65535, -256, -1, 65536, 65537, 1<<17 - 1, 1 << 17, 1<<31 - 1, 1 << 31, 1 << 32, 1<<32 + 1, 1<<32 + 65535, math.MaxInt - 1, math.MaxInt}
)

// texts are n bytes: all of them 0, all of them 255, and mixed ones.
func texts(n int) []string {
	if n == 0 {
		return []string{""}
	}
	return []string{strings.Repeat("\x00", n), strings.Repeat("\xff", n), mixed(n)}
}

// mixed are n bytes that are unlike their neighbours.
func mixed(n int) string {
	b := make([]byte, n)
	for k := range b {
		b[k] = byte(0x81 + 7*k)
	}
	return string(b)
}

// anyText are n bytes.
func anyText(r *rand.Rand, n int) string {
	b := make([]byte, n)
	r.Read(b)
	return string(b)
}

// one is a byte as a text.
func one(b int) string { return string([]byte{byte(b)}) }

// macs are Macs of an Add with that Echo.
func macs(echo bool) []string {
	if echo {
		return texts(0)
	}
	return texts(8)
}

// shapes are Adds of which all fields are zero, in all ways of what they have.
func shapes() []api.Add {
	var all []api.Add
	for _, echo := range bools {
		for _, size := range ipSizes {
			for _, hasPort := range bools {
				all = append(all, api.Add{Echo: echo, Ip: texts(size)[0], HasPort: hasPort, Mac: macs(echo)[0]})
			}
		}
	}
	return all
}

// full is a shape of which no field is zero.
func full(x api.Add) api.Add {
	x.Id, x.Ip = 7, mixed(len(x.Ip))
	if x.HasPort {
		x.Port = 0x0a0b
	}
	x.Mac = "ABCDEFGH"[:len(x.Mac)]
	return x
}

// bases are shapes, and full ones.
func bases() []api.Add {
	var all []api.Add
	for _, x := range shapes() {
		all = append(all, x, full(x))
	}
	return all
}

// valids are Adds in all ways; each once.
func valids() []api.Add {
	var all []api.Add
	for _, x := range shapes() {
		ports := portList
		if !x.HasPort {
			ports = []int{0}
		}
		for _, x.Id = range idList {
			for _, x.Ip = range texts(len(x.Ip)) {
				for _, x.Port = range ports {
					for _, x.Mac = range macs(x.Echo) {
						all = append(all, x)
					}
				}
			}
		}
	}
	return all
}

// anyAdd is a valid one.
func anyAdd(r *rand.Rand) api.Add {
	x := shapes()[r.Intn(8)]
	x.Id, x.Ip, x.Mac = r.Intn(256), anyText(r, len(x.Ip)), anyText(r, len(x.Mac))
	if x.HasPort {
		x.Port = r.Intn(65536)
	}
	return x
}

// validRemoves are Removes of all numbers of Ids that may be.
func validRemoves() []api.Remove {
	var all []api.Remove
	for n := 1; n <= 37; n++ {
		for _, s := range texts(n) {
			all = append(all, api.Remove{Ids: s})
		}
	}
	return all
}

// addBody is the body of a valid Add, by the library.
func addBody(x api.Add) string {
	b := []byte{0x30, byte(x.Id)}
	if x.Echo {
		b[0] = 0x31
	}
	b = append(b, x.Ip...)
	if x.HasPort {
		b = binary.BigEndian.AppendUint16(b, uint16(x.Port))
	}
	return string(append(b, x.Mac...))
}

// addOf is what DecodeAdd must return, by the words of the document.
func addOf(s string) (api.Add, api.Errno) {
	if len(s) == 0 {
		return api.Add{}, api.ErrShort
	}
	if s[0]&0xf0 != 0x30 {
		return api.Add{}, api.ErrKind
	}
	x := api.Add{Echo: s[0]&1 != 0}
	sizes, ip := otherSizes, 4
	if x.Echo {
		sizes = echoSizes
	}
	at := slices.Index(sizes, len(s))
	if at < 0 {
		return api.Add{}, api.ErrForm
	}
	if at >= 2 {
		ip = 16
	}
	x.Id, x.Ip = int(s[1]), s[2:2+ip]
	rest := s[2+ip:]
	if at%2 != 0 {
		x.HasPort, x.Port = true, int(binary.BigEndian.Uint16([]byte(rest)))
		rest = rest[2:]
	}
	x.Mac = rest
	return x, api.OK
}

// removeOf is what DecodeRemove must return.
func removeOf(s string) (api.Remove, api.Errno) {
	switch {
	case len(s) == 0:
		return api.Remove{}, api.ErrShort
	case s[0]&0xf0 != 0x40:
		return api.Remove{}, api.ErrKind
	case len(s) < 2 || len(s) > 38:
		return api.Remove{}, api.ErrForm
	}
	return api.Remove{Ids: s[1:]}, api.OK
}

// digits are the bytes of hexadecimal digits, which may be told apart by spaces.
func digits(t *testing.T, s string) string {
	t.Helper()
	b, err := hex.DecodeString(strings.ReplaceAll(s, " ", ""))
	if err != nil {
		t.Fatal(err)
	}
	return string(b)
}

// encodesAdd checks that EncodeAdd returns this body.
func encodesAdd(t *testing.T, x api.Add, want string) {
	t.Helper()
	if got, e := EncodeAdd(x); got != want || e != api.OK {
		t.Fatalf("EncodeAdd(%#v) = %x, %d, not %x", x, got, e, want)
	}
}

// refusesAdd checks that EncodeAdd returns nothing, and ErrArg.
func refusesAdd(t *testing.T, x api.Add) {
	t.Helper()
	if got, e := EncodeAdd(x); got != "" || e != api.ErrArg {
		t.Fatalf("EncodeAdd(%#v) = %x, %d, not ErrArg", x, got, e)
	}
}

// decodesAdd checks what DecodeAdd returns.
func decodesAdd(t *testing.T, s string, want api.Add, code api.Errno) {
	t.Helper()
	if got, e := DecodeAdd(s); got != want || e != code {
		t.Fatalf("DecodeAdd(%x) = %#v, %d, not %#v, %d", s, got, e, want, code)
	}
}

// encodesRemove checks that EncodeRemove returns this body.
func encodesRemove(t *testing.T, x api.Remove, want string) {
	t.Helper()
	if got, e := EncodeRemove(x); got != want || e != api.OK {
		t.Fatalf("EncodeRemove(%#v) = %x, %d, not %x", x, got, e, want)
	}
}

// refusesRemove checks that EncodeRemove returns nothing, and ErrArg.
func refusesRemove(t *testing.T, x api.Remove) {
	t.Helper()
	if got, e := EncodeRemove(x); got != "" || e != api.ErrArg {
		t.Fatalf("EncodeRemove(%#v) = %x, %d, not ErrArg", x, got, e)
	}
}

// decodesRemove checks what DecodeRemove returns.
func decodesRemove(t *testing.T, s string, want api.Remove, code api.Errno) {
	t.Helper()
	if got, e := DecodeRemove(s); got != want || e != code {
		t.Fatalf("DecodeRemove(%x) = %#v, %d, not %#v, %d", s, got, e, want, code)
	}
}

// decodesBoth checks what both return of one text.
func decodesBoth(t *testing.T, s string) {
	t.Helper()
	x, e := addOf(s)
	decodesAdd(t, s, x, e)
	y, f := removeOf(s)
	decodesRemove(t, s, y, f)
}

// The chapter's examples

func TestExamples(t *testing.T) {
	for _, x := range []struct {
		option api.Add
		body   string
	}{
		{api.Add{Echo: true, Id: 5, Ip: "\x0a\x00\x00\x01"}, "31 05 0a 00 00 01"},
		{api.Add{Id: 1, Ip: "\x0a\x00\x00\x01", HasPort: true, Port: 443, Mac: "12345678"}, "30 01 0a 00 00 01 01 bb 31 32 33 34 35 36 37 38"},
	} {
		encodesAdd(t, x.option, digits(t, x.body))
		decodesAdd(t, digits(t, x.body), x.option, api.OK)
	}
	encodesRemove(t, api.Remove{Ids: "\x01\x09"}, "\x40\x01\x09")
	decodesRemove(t, "\x40\x01\x09", api.Remove{Ids: "\x01\x09"}, api.OK)
	decodesAdd(t, "", api.Add{}, api.ErrShort)
	decodesAdd(t, digits(t, "40"), api.Add{}, api.ErrKind)
	decodesAdd(t, digits(t, "31 05"), api.Add{}, api.ErrForm)
	decodesAdd(t, digits(t, "30 05 0a 00 00 01"), api.Add{}, api.ErrForm)
	decodesRemove(t, digits(t, "40"), api.Remove{}, api.ErrForm)
	decodesRemove(t, digits(t, "4f 07"), api.Remove{Ids: "\x07"}, api.OK)
}

// P12.1

// Bodies of each size, written out.
func TestEncodeAddSizes(t *testing.T) {
	const long, longDigits = "\x20\x01\x0d\xb8\x00\x00\x00\x00\x00\x00\x00\x00\xff\xfe\x00\x01", "20 01 0d b8 00 00 00 00 00 00 00 00 ff fe 00 01"
	for _, x := range []struct {
		option api.Add
		body   string
	}{
		{api.Add{Echo: true, Ip: "\x00\x00\x00\x00"}, "31 00 00 00 00 00"},
		{api.Add{Echo: true, Id: 255, Ip: "\xff\xff\xff\xff"}, "31 ff ff ff ff ff"},
		{api.Add{Echo: true, Id: 2, Ip: "\x01\x02\x03\x04", HasPort: true, Port: 258}, "31 02 01 02 03 04 01 02"},
		{api.Add{Echo: true, Id: 2, Ip: "\x01\x02\x03\x04", HasPort: true}, "31 02 01 02 03 04 00 00"},
		{api.Add{Echo: true, Id: 3, Ip: long}, "31 03" + longDigits},
		{api.Add{Echo: true, Id: 3, Ip: long, HasPort: true, Port: 65535}, "31 03" + longDigits + "ff ff"},
		{api.Add{Id: 4, Ip: "\x01\x02\x03\x04", Mac: "abcdefgh"}, "30 04 01 02 03 04 61 62 63 64 65 66 67 68"},
		{api.Add{Id: 4, Ip: "\x01\x02\x03\x04", HasPort: true, Port: 1, Mac: "abcdefgh"}, "30 04 01 02 03 04 00 01 61 62 63 64 65 66 67 68"},
		{api.Add{Id: 4, Ip: "\x01\x02\x03\x04", HasPort: true, Mac: "\x00\x00\x00\x00\x00\x00\x00\x00"}, "30 04 01 02 03 04 00 00 00 00 00 00 00 00 00 00"},
		{api.Add{Id: 16, Ip: long, Mac: "\xf1\x02\xf3\x04\xf5\x06\xf7\x08"}, "30 10" + longDigits + "f1 02 f3 04 f5 06 f7 08"},
		{api.Add{Id: 128, Ip: long, HasPort: true, Port: 32768, Mac: "\xff\xff\xff\xff\xff\xff\xff\xff"}, "30 80" + longDigits + "80 00 ff ff ff ff ff ff ff ff"},
	} {
		encodesAdd(t, x.option, digits(t, x.body))
		decodesAdd(t, digits(t, x.body), x.option, api.OK)
	}
}

func TestEncodeAdd(t *testing.T) {
	all := valids()
	if want := 3 * 2 * 3 * (1 + 4) * (1 + 3); len(all) != want {
		t.Fatalf("%d options, not %d", len(all), want)
	}
	for _, x := range all {
		encodesAdd(t, x, addBody(x))
	}
	r := rand.New(rand.NewSource(121))
	for range 5000 {
		x := anyAdd(r)
		encodesAdd(t, x, addBody(x))
	}
}

// A body has as many bytes as the table says.
func TestEncodeAddHasSizes(t *testing.T) {
	for _, x := range valids() {
		sizes, at := otherSizes, 0
		if x.Echo {
			sizes = echoSizes
		}
		if len(x.Ip) == 16 {
			at = 2
		}
		if x.HasPort {
			at++
		}
		if s, _ := EncodeAdd(x); len(s) != sizes[at] {
			t.Fatalf("EncodeAdd(%#v) has %d bytes, not %d", x, len(s), sizes[at])
		}
	}
}

// All identifiers, and all ports, have a body.
func TestEncodeAddAllNumbers(t *testing.T) {
	for _, x := range bases() {
		y := x
		for id := range 256 {
			y.Id = id
			encodesAdd(t, y, addBody(y))
		}
		for port := 0; port < 65536 && x.HasPort; port++ {
			x.Port = port
			encodesAdd(t, x, addBody(x))
		}
	}
}

// Adds that are not valid, each for one reason alone.

func TestEncodeAddId(t *testing.T) {
	for _, x := range bases() {
		encodesAdd(t, x, addBody(x))
		for _, id := range noIds {
			x.Id = id
			refusesAdd(t, x)
		}
	}
}

// An Ip has 4 bytes, or 16: also where a body with another one would be as long as that of another Add.
func TestEncodeAddIp(t *testing.T) {
	for _, x := range bases() {
		encodesAdd(t, x, addBody(x))
		for n := range 65 {
			for _, ip := range texts(n) {
				x.Ip = ip
				if n == 4 || n == 16 {
					encodesAdd(t, x, addBody(x))
				} else {
					refusesAdd(t, x)
				}
			}
		}
		for _, n := range []int{256 + 4, 256 + 16, 65536 + 4, 65536 + 16} {
			x.Ip = mixed(n)
			refusesAdd(t, x)
		}
	}
}

func TestEncodeAddPort(t *testing.T) {
	for _, x := range bases() {
		x.HasPort = true
		encodesAdd(t, x, addBody(x))
		for _, port := range noPorts {
			x.Port = port
			refusesAdd(t, x)
		}
	}
}

// A Port is 0 where there is none.
func TestEncodeAddPortWithout(t *testing.T) {
	for _, x := range bases() {
		x.HasPort = false
		for port := range 65536 {
			x.Port = port
			if port == 0 {
				encodesAdd(t, x, addBody(x))
			} else {
				refusesAdd(t, x)
			}
		}
	}
}

// A Mac has 8 bytes, or none with Echo: also where a body with another one would be as long as that of another Add.
func TestEncodeAddMac(t *testing.T) {
	for _, x := range bases() {
		size := len(x.Mac)
		if x.Echo != (size == 0) {
			t.Fatalf("%#v", x)
		}
		encodesAdd(t, x, addBody(x))
		for n := range 65 {
			for _, mac := range texts(n) {
				x.Mac = mac
				if n == size {
					encodesAdd(t, x, addBody(x))
				} else {
					refusesAdd(t, x)
				}
			}
		}
		for _, n := range []int{256 + size, 65536 + size} {
			x.Mac = mixed(n)
			refusesAdd(t, x)
		}
	}
}

// Adds that are not valid, written out.
func TestEncodeAddWrittenOut(t *testing.T) {
	const ip, long, mac = "\x0a\x00\x00\x01", "0123456789abcdef", "12345678"
	for _, x := range []api.Add{
		{}, {Echo: true}, {Mac: mac}, {HasPort: true, Port: 80, Mac: mac}, {Ip: ip}, {Ip: long}, {Ip: ip, HasPort: true, Port: 80},
		{Ip: ip, Mac: mac, Id: -1}, {Ip: ip, Mac: mac, Id: 256}, {Ip: ip, Mac: mac, Id: math.MinInt}, {Ip: ip, Mac: mac, Id: math.MaxInt},
		{Echo: true, Ip: long, Id: -1}, {Echo: true, Ip: long, Id: 256}, {Echo: true, Ip: long, Id: math.MinInt}, {Echo: true, Ip: long, Id: math.MaxInt},
		{Ip: ip[:3], Mac: mac}, {Ip: ip + "a", Mac: mac}, {Ip: long[:15], Mac: mac}, {Ip: long + "g", Mac: mac},
		{Echo: true, Ip: ip[:3]}, {Echo: true, Ip: ip + "a"}, {Echo: true, Ip: long[:15]}, {Echo: true, Ip: long + "g"},
		{Ip: ip, Mac: mac, HasPort: true, Port: -1}, {Ip: ip, Mac: mac, HasPort: true, Port: 65536}, {Ip: ip, Mac: mac, HasPort: true, Port: math.MinInt}, {Ip: ip, Mac: mac, HasPort: true, Port: math.MaxInt},
		{Ip: ip, Mac: mac, Port: 1}, {Ip: long, Mac: mac, Port: 65535}, {Echo: true, Ip: ip, Port: 1}, {Echo: true, Ip: long, Port: 65535},
		{Ip: ip, Mac: mac[:7]}, {Ip: ip, Mac: mac + "9"}, {Ip: long, Mac: mac[:7]}, {Ip: long, Mac: mac + "9"},
		{Echo: true, Ip: ip, Mac: "1"}, {Echo: true, Ip: ip, Mac: mac[:7]}, {Echo: true, Ip: ip, Mac: mac}, {Echo: true, Ip: ip, Mac: mac + "9"},
		{Echo: true, Ip: ip, Mac: "\x00"}, {Echo: true, Ip: long, HasPort: true, Port: 80, Mac: mac},
		{Ip: "10.0.0.1", Mac: mac}, {Ip: ip + long[:2], Mac: mac}, {Ip: ip, Mac: mac + "9a"}, {Echo: true, Ip: ip + "ab"}, {Echo: true, Ip: ip, Mac: "ab"}, {Echo: true, Mac: ip}, {Mac: ip + mac},
	} {
		refusesAdd(t, x)
	}
}

func TestEncodeRemove(t *testing.T) {
	for _, x := range validRemoves() {
		encodesRemove(t, x, "\x40"+x.Ids)
	}
	for id := range 256 {
		encodesRemove(t, api.Remove{Ids: one(id)}, "\x40"+one(id))
		encodesRemove(t, api.Remove{Ids: one(id) + one(255-id)}, "\x40"+one(id)+one(255-id))
		encodesRemove(t, api.Remove{Ids: one(id) + one(id)}, "\x40"+one(id)+one(id))
	}
}

func TestEncodeRemoveIds(t *testing.T) {
	refusesRemove(t, api.Remove{})
	for n := range 301 {
		for _, ids := range texts(n) {
			if n >= 1 && n <= 37 {
				encodesRemove(t, api.Remove{Ids: ids}, "\x40"+ids)
			} else {
				refusesRemove(t, api.Remove{Ids: ids})
			}
		}
	}
	for _, n := range []int{512 + 1, 65536, 65536 + 1, 65536 + 37, 1 << 20} {
		refusesRemove(t, api.Remove{Ids: mixed(n)})
	}
}

// P12.2

func TestDecodeSizes(t *testing.T) {
	r := rand.New(rand.NewSource(122))
	for n := range 46 {
		for _, fill := range append(texts(n+1), anyText(r, n+1)) {
			for first := range 256 {
				decodesBoth(t, (one(first) + fill)[:n])
			}
		}
	}
}

// Which sizes are bodies, written out.
func TestDecodeSizesWrittenOut(t *testing.T) {
	for n := 1; n < 46; n++ {
		echoed, other, remove := api.ErrForm, api.ErrForm, api.ErrForm
		switch n {
		case 6, 8, 18, 20:
			echoed = api.OK
		case 14, 16, 26, 28:
			other = api.OK
		}
		if n >= 2 && n <= 38 {
			remove = api.OK
		}
		rest := mixed(n)[1:]
		if _, e := DecodeAdd("\x31" + rest); e != echoed {
			t.Fatalf("an Add of %d bytes, with Echo: %d, not %d", n, e, echoed)
		}
		if _, e := DecodeAdd("\x30" + rest); e != other {
			t.Fatalf("an Add of %d bytes: %d, not %d", n, e, other)
		}
		if _, e := DecodeRemove("\x40" + rest); e != remove {
			t.Fatalf("a Remove of %d bytes: %d, not %d", n, e, remove)
		}
	}
}

// Of one byte alone: the subtype is looked at before the size is.
func TestDecodeOne(t *testing.T) {
	for first := range 256 {
		add, remove := api.ErrKind, api.ErrKind
		switch first / 16 {
		case 3:
			add = api.ErrForm
		case 4:
			remove = api.ErrForm
		}
		decodesAdd(t, one(first), api.Add{}, add)
		decodesRemove(t, one(first), api.Remove{}, remove)
	}
}

// The upper half of the first byte is the subtype; of the lower one an Add has the lowest bit, and the others are ignored.
func TestDecodeAddFirst(t *testing.T) {
	for _, x := range bases() {
		rest := addBody(x)[1:]
		for first := range 256 {
			switch {
			case first/16 != 3:
				decodesAdd(t, one(first)+rest, api.Add{}, api.ErrKind)
			case first%2 == 1 != x.Echo:
				decodesAdd(t, one(first)+rest, api.Add{}, api.ErrForm)
			default:
				decodesAdd(t, one(first)+rest, x, api.OK)
			}
		}
	}
}

func TestDecodeRemoveFirst(t *testing.T) {
	for _, x := range validRemoves() {
		for first := range 256 {
			if first/16 == 4 {
				decodesRemove(t, one(first)+x.Ids, x, api.OK)
			} else {
				decodesRemove(t, one(first)+x.Ids, api.Remove{}, api.ErrKind)
			}
		}
	}
}

// Where several errors hold, the first one counts.
func TestDecodeOrder(t *testing.T) {
	decodesAdd(t, "", api.Add{}, api.ErrShort)
	decodesRemove(t, "", api.Remove{}, api.ErrShort)
	for n := range 46 {
		for _, fill := range texts(n) {
			for first := range 256 {
				if first/16 != 3 {
					decodesAdd(t, one(first)+fill, api.Add{}, api.ErrKind)
				}
				if first/16 != 4 {
					decodesRemove(t, one(first)+fill, api.Remove{}, api.ErrKind)
				}
			}
		}
	}
	for _, x := range []struct {
		body        string
		add, remove api.Errno
	}{
		{"00", api.ErrKind, api.ErrKind}, {"03", api.ErrKind, api.ErrKind}, {"04", api.ErrKind, api.ErrKind}, {"13", api.ErrKind, api.ErrKind}, {"24", api.ErrKind, api.ErrKind},
		{"b1", api.ErrKind, api.ErrKind}, {"c0", api.ErrKind, api.ErrKind}, {"30", api.ErrForm, api.ErrKind}, {"31", api.ErrForm, api.ErrKind}, {"40", api.ErrKind, api.ErrForm}, {"4f", api.ErrKind, api.ErrForm},
		{"50 01", api.ErrKind, api.ErrKind}, {"41 05 0a 00 00 01", api.ErrKind, api.OK}, {"31 05 0a 00 00 01", api.OK, api.ErrKind}, {"30 05 0a 00 00 01", api.ErrForm, api.ErrKind}, {"21 05 0a 00 00 01", api.ErrKind, api.ErrKind},
		{"31 05 0a 00 00", api.ErrForm, api.ErrKind}, {"31 05 0a 00 00 01 00", api.ErrForm, api.ErrKind}, {"3f 05 0a 00 00 01", api.OK, api.ErrKind}, {"3e 05 0a 00 00 01", api.ErrForm, api.ErrKind},
		{"40" + strings.Repeat("01", 37), api.ErrKind, api.OK}, {"40" + strings.Repeat("01", 38), api.ErrKind, api.ErrForm}, {"30" + strings.Repeat("01", 38), api.ErrForm, api.ErrKind}, {"50" + strings.Repeat("01", 38), api.ErrKind, api.ErrKind},
	} {
		s := digits(t, x.body)
		if got, e := DecodeAdd(s); e != x.add || e != api.OK && got != (api.Add{}) {
			t.Fatalf("DecodeAdd(%x) = %#v, %d, not %d", s, got, e, x.add)
		}
		if got, e := DecodeRemove(s); e != x.remove || e != api.OK && got != (api.Remove{}) {
			t.Fatalf("DecodeRemove(%x) = %#v, %d, not %d", s, got, e, x.remove)
		}
	}
}

// Texts that are far too long, also where their sizes have the lowest bits of others.
func TestDecodeLong(t *testing.T) {
	for _, more := range []int{32, 64, 128, 256, 512, 65536, 1 << 20} {
		for _, x := range shapes() {
			s := addBody(full(x)) + strings.Repeat("\x01", more)
			decodesAdd(t, s, api.Add{}, api.ErrForm)
			decodesAdd(t, "\x41"+s[1:], api.Add{}, api.ErrKind)
		}
		s := "\x40" + strings.Repeat("\x01", 37+more)
		decodesRemove(t, s, api.Remove{}, api.ErrForm)
		decodesRemove(t, "\x30"+s[1:], api.Remove{}, api.ErrKind)
	}
}

// The ignored bits, written out.
func TestIgnoredBits(t *testing.T) {
	echoed := api.Add{Echo: true, Id: 5, Ip: "\x0a\x00\x00\x01"}
	other := api.Add{Id: 5, Ip: "\x0a\x00\x00\x01", Mac: "12345678"}
	for _, first := range []string{"\x31", "\x33", "\x35", "\x39", "\x37", "\x3b", "\x3d", "\x3f"} {
		decodesAdd(t, first+"\x05\x0a\x00\x00\x01", echoed, api.OK)
	}
	for _, first := range []string{"\x30", "\x32", "\x34", "\x38", "\x36", "\x3a", "\x3c", "\x3e"} {
		decodesAdd(t, first+"\x05\x0a\x00\x00\x0112345678", other, api.OK)
	}
	for _, first := range []string{"\x40", "\x41", "\x42", "\x44", "\x48", "\x4f"} {
		decodesRemove(t, first+"\x01\x09", api.Remove{Ids: "\x01\x09"}, api.OK)
	}
}

// Random bytes, of all sizes.
func TestDecodeAny(t *testing.T) {
	r := rand.New(rand.NewSource(123))
	for range 50000 {
		s := anyText(r, r.Intn(46))
		if len(s) > 0 && r.Intn(4) != 0 {
			s = one(48+r.Intn(32)) + s[1:]
		}
		decodesBoth(t, s)
	}
}

// P12.3

func TestDecodeInvertsEncode(t *testing.T) {
	r := rand.New(rand.NewSource(124))
	all := valids()
	for range 5000 {
		all = append(all, anyAdd(r))
	}
	for _, x := range all {
		s, e := EncodeAdd(x)
		if e != api.OK {
			t.Fatalf("EncodeAdd(%#v) = %x, %d", x, s, e)
		}
		decodesAdd(t, s, x, api.OK)
	}
	for _, x := range validRemoves() {
		s, e := EncodeRemove(x)
		if e != api.OK {
			t.Fatalf("EncodeRemove(%#v) = %x, %d", x, s, e)
		}
		decodesRemove(t, s, x, api.OK)
	}
}

// What was decoded has the same bytes again, but for the ignored bits, which are 0 then.
func TestEncodeInvertsDecode(t *testing.T) {
	r := rand.New(rand.NewSource(125))
	for n := 1; n < 39; n++ {
		for low := range 16 {
			for _, rest := range append(texts(n), anyText(r, n)) {
				rest = rest[1:]
				if x, e := DecodeAdd(one(48+low) + rest); e == api.OK {
					again := one(48+low%2) + rest
					encodesAdd(t, x, again)
					decodesAdd(t, again, x, api.OK)
				} else {
					refusesAdd(t, x)
				}
				if x, e := DecodeRemove(one(64+low) + rest); e == api.OK {
					encodesRemove(t, x, "\x40"+rest)
					decodesRemove(t, "\x40"+rest, x, api.OK)
				} else {
					refusesRemove(t, x)
				}
			}
		}
	}
}

// No body of one is read as one of the other.
func TestNoBodyIsBoth(t *testing.T) {
	for _, x := range valids() {
		s, _ := EncodeAdd(x)
		decodesRemove(t, s, api.Remove{}, api.ErrKind)
	}
	for _, x := range validRemoves() {
		s, _ := EncodeRemove(x)
		decodesAdd(t, s, api.Add{}, api.ErrKind)
	}
	for first := range 256 {
		for n := range 45 {
			s := one(first) + mixed(n)
			_, e := DecodeAdd(s)
			_, f := DecodeRemove(s)
			if e == api.OK && f == api.OK {
				t.Fatalf("%x is both", s)
			}
		}
	}
}

// Bodies are equal just if their options are: each two of many, and each one and those that have one field, or one bit, changed.
func TestBodiesAreEqualAsOptions(t *testing.T) {
	adds := append(valids(), bases()...)
	var bodies []string
	for _, x := range adds {
		s, _ := EncodeAdd(x)
		bodies = append(bodies, s)
	}
	for k := range adds {
		for m := range adds {
			if (adds[k] == adds[m]) != (bodies[k] == bodies[m]) {
				t.Fatalf("%#v and %#v have the bodies %x and %x", adds[k], adds[m], bodies[k], bodies[m])
			}
		}
	}
	removes := validRemoves()
	for _, x := range removes {
		for _, y := range removes {
			s, _ := EncodeRemove(x)
			again, _ := EncodeRemove(y)
			if (x == y) != (s == again) {
				t.Fatalf("%#v and %#v have the bodies %x and %x", x, y, s, again)
			}
		}
	}
}

// A body of which a bit was changed, that is not ignored, is another option's, or none's.
func TestEachBitCounts(t *testing.T) {
	for _, x := range bases() {
		s, _ := EncodeAdd(x)
		for bit := range 8 * len(s) {
			b := []byte(s)
			b[bit/8] ^= 1 << (bit % 8)
			y, e := DecodeAdd(string(b))
			ignored := bit == 1 || bit == 2 || bit == 3
			if ignored != (e == api.OK && y == x) {
				t.Fatalf("DecodeAdd(%x) = %#v, %d, and DecodeAdd(%x) = %#v", b, y, e, s, x)
			}
		}
	}
	for _, x := range validRemoves() {
		s, _ := EncodeRemove(x)
		for bit := range 8 * len(s) {
			b := []byte(s)
			b[bit/8] ^= 1 << (bit % 8)
			y, e := DecodeRemove(string(b))
			if (bit < 4) != (e == api.OK && y == x) {
				t.Fatalf("DecodeRemove(%x) = %#v, %d, and DecodeRemove(%x) = %#v", b, y, e, s, x)
			}
		}
	}
}

// Results depend on the arguments alone, whatever was computed before.
func TestAgain(t *testing.T) {
	for range 3 {
		for _, x := range bases() {
			encodesAdd(t, x, addBody(x))
			refusesAdd(t, api.Add{Ip: x.Ip, Mac: "1"})
			decodesAdd(t, addBody(x), x, api.OK)
			decodesAdd(t, addBody(x)[:5], api.Add{}, api.ErrForm)
			decodesAdd(t, "", api.Add{}, api.ErrShort)
			encodesRemove(t, api.Remove{Ids: x.Ip}, "\x40"+x.Ip)
			refusesRemove(t, api.Remove{})
			decodesRemove(t, "\x40"+x.Ip, api.Remove{Ids: x.Ip}, api.OK)
			decodesRemove(t, "\x40", api.Remove{}, api.ErrForm)
		}
	}
}

// The ways

// The sizes of the parts are those that the table says, and together with the first byte and the Id they are the body's.
func TestPartsBySize(t *testing.T) {
	all := partsBySize()
	if len(all) != len(echoSizes)+len(otherSizes) {
		t.Fatalf("%d sizes", len(all))
	}
	for _, sizes := range [][]int{echoSizes, otherSizes} {
		for _, size := range sizes {
			p, known := all[size]
			if !known || 2+p.ip+p.port+p.mac != size {
				t.Fatalf("the parts of %d bytes are %#v", size, p)
			}
		}
	}
}

func TestTaker(t *testing.T) {
	const s = "abcdefg"
	take, other := taker(s), taker(s)
	for _, x := range []struct {
		size int
		want string
	}{{1, "a"}, {0, ""}, {4, "bcde"}, {0, ""}, {2, "fg"}, {0, ""}} {
		if got := take(x.size); got != x.want {
			t.Fatalf("%d bytes are %q, not %q", x.size, got, x.want)
		}
	}
	if got := other(3); got != "abc" {
		t.Fatalf("what one takes is taken from the other one, too: %q", got)
	}
}

func TestConcat(t *testing.T) {
	if got := concat(); got != "" {
		t.Fatalf("no part is %q", got)
	}
	if got := concat("", "a", "", "\x00\xff", "b"); got != "a\x00\xffb" {
		t.Fatalf("%q", got)
	}
}
