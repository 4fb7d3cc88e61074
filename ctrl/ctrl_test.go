package ctrl

import (
	"encoding/binary"
	"encoding/hex"
	"math"
	"math/rand"
	"strings"
	"testing"

	"plait/api"
	"plait/cursor"
)

// numbers are those of Fails and Fasts: the first ones, the last ones, each byte alone, and ones whose bytes all differ.
func numbers() []uint64 {
	all := []uint64{0, 1, 2, 255, 256, 258, 65535, 65536, 1<<31 - 1, 1 << 31, 1<<32 - 1, 1 << 32, 1<<32 + 1, 1<<63 - 1, 1 << 63, 1<<63 + 1, math.MaxUint64 - 1, math.MaxUint64,
		0x0102030405060708, 0xf1e2d3c4b5a69788, 0x8070605040302010, 0x00ff01fe02fd03fc}
	for shift := range 8 {
		all = append(all, 0xff<<(8*shift), 0x81<<(8*shift), 1<<(8*shift))
	}
	return all
}

// reasons are those of Rsts, and noFlags and noReasons ints that are none.
var (
	reasons   = []int{0, 1, 5, 255}
	noFlags   = []int{math.MinInt, math.MinInt + 1, math.MinInt + 15, -1 << 32, -1<<32 + 1, -65536, -256, -255, -128, -16, -15, -1, 16, 17, 31, 32, 127, 128, 255, 256, 257, 271, 272, 65536, 65536 + 1, 1<<31 - 1, 1 << 31, 1 << 32, 1<<32 + 1, 1<<32 + 15, math.MaxInt - 1, math.MaxInt}
	noReasons = []int{math.MinInt, math.MinInt + 1, math.MinInt + 255, -1 << 32, -1<<32 + 1, -65536, -257, -256, -255, -128, -16, -1, 256, 257, 511, 512, 65535, 65536, 65536 + 255, 1<<31 - 1, 1 << 31, 1 << 32, 1<<32 + 1, 1<<32 + 255, math.MaxInt - 1, math.MaxInt}
)

// texts are n bytes: all of them 0, all of them 255, and mixed ones.
func texts(n int) []string {
	if n == 0 {
		return []string{""}
	}
	return []string{strings.Repeat("\x00", n), strings.Repeat("\xff", n), mixed(n)}
}

// mixed are n bytes that are unlike their neighbours.
func mixed(n int) string {
	b := make([]byte, n)
	for k := range b {
		b[k] = byte(0x81 + 7*k)
	}
	return string(b)
}

// anyText are n bytes.
func anyText(r *rand.Rand, n int) string {
	b := make([]byte, n)
	r.Read(b)
	return string(b)
}

// one is a byte as a text.
func one(b int) string { return string([]byte{byte(b)}) }

// digits are the bytes of hexadecimal digits, which may be told apart by spaces.
func digits(t *testing.T, s string) string {
	t.Helper()
	b, err := hex.DecodeString(strings.ReplaceAll(s, " ", ""))
	if err != nil {
		t.Fatal(err)
	}
	return string(b)
}

// numberBody is the body of a Fail, or a Fast, by the library.
func numberBody(first byte, n uint64) string {
	return string(binary.BigEndian.AppendUint64([]byte{first, 0}, n))
}

// prioBody is the body of a Prio.
func prioBody(x api.Prio) string {
	if x.Backup {
		return "\x51"
	}
	return "\x50"
}

func failBody(x api.Fail) string { return numberBody(0x60, x.Dsn) }

func fastBody(x api.Fast) string { return numberBody(0x70, x.Key) }

// rstBody is the body of a valid Rst.
func rstBody(x api.Rst) string { return one(0x80+x.Flags) + one(x.Reason) }

// codeOf is what a decoder must return for a text, where bodies of its subtype have so many bytes.
func codeOf(s string, subtype, size int) api.Errno {
	switch {
	case len(s) == 0:
		return api.ErrShort
	case int(s[0]>>4) != subtype:
		return api.ErrKind
	case len(s) < size:
		return api.ErrShort
	case len(s) > size:
		return api.ErrForm
	}
	return api.OK
}

// prioOf, failOf, fastOf and rstOf are what the decoders must return, by the words of the document.
func prioOf(s string) (x api.Prio, e api.Errno) {
	if e = codeOf(s, 5, 1); e == api.OK {
		x.Backup = s[0]%2 == 1
	}
	return x, e
}

func failOf(s string) (x api.Fail, e api.Errno) {
	if e = codeOf(s, 6, 10); e == api.OK {
		x.Dsn = binary.BigEndian.Uint64([]byte(s[2:]))
	}
	return x, e
}

func fastOf(s string) (x api.Fast, e api.Errno) {
	if e = codeOf(s, 7, 10); e == api.OK {
		x.Key = binary.BigEndian.Uint64([]byte(s[2:]))
	}
	return x, e
}

func rstOf(s string) (x api.Rst, e api.Errno) {
	if e = codeOf(s, 8, 2); e == api.OK {
		x.Flags, x.Reason = int(s[0])&15, int(s[1])
	}
	return x, e
}

// encodes checks that this body is returned.
func encodes[X any](t *testing.T, encode func(X) (string, api.Errno), x X, want string) {
	t.Helper()
	if got, e := encode(x); got != want || e != api.OK {
		t.Fatalf("%#v is encoded as %x, %d, not %x", x, got, e, want)
	}
}

// decodes checks what is returned for a text.
func decodes[X comparable](t *testing.T, decode func(string) (X, api.Errno), s string, want X, code api.Errno) {
	t.Helper()
	if got, e := decode(s); got != want || e != code {
		t.Fatalf("%x is decoded as %#v, %d, not %#v, %d", s, got, e, want, code)
	}
}

// fits checks that an option and a body belong to each other.
func fits[X comparable](t *testing.T, encode func(X) (string, api.Errno), decode func(string) (X, api.Errno), x X, body string) {
	t.Helper()
	encodes(t, encode, x, body)
	decodes(t, decode, body, x, api.OK)
}

// refusesRst checks that EncodeRst returns nothing, and ErrArg.
func refusesRst(t *testing.T, x api.Rst) {
	t.Helper()
	if got, e := EncodeRst(x); got != "" || e != api.ErrArg {
		t.Fatalf("EncodeRst(%#v) = %x, %d, not ErrArg", x, got, e)
	}
}

// decodesAll checks what the four decoders return for one text.
func decodesAll(t *testing.T, s string) {
	t.Helper()
	prio, e := prioOf(s)
	decodes(t, DecodePrio, s, prio, e)
	fail, e := failOf(s)
	decodes(t, DecodeFail, s, fail, e)
	fast, e := fastOf(s)
	decodes(t, DecodeFast, s, fast, e)
	rst, e := rstOf(s)
	decodes(t, DecodeRst, s, rst, e)
}

// codesAll checks with which error each decoder refuses a text.
func codesAll(t *testing.T, s string, prio, fail, fast, rst api.Errno) {
	t.Helper()
	x, e := DecodePrio(s)
	y, f := DecodeFail(s)
	z, g := DecodeFast(s)
	w, h := DecodeRst(s)
	if e != prio || f != fail || g != fast || h != rst {
		t.Fatalf("%x is refused with %d, %d, %d, %d, not %d, %d, %d, %d", s, e, f, g, h, prio, fail, fast, rst)
	}
	if e != api.OK && x != (api.Prio{}) || f != api.OK && y != (api.Fail{}) || g != api.OK && z != (api.Fast{}) || h != api.OK && w != (api.Rst{}) {
		t.Fatalf("%x is refused, but decoded as %#v, %#v, %#v, %#v", s, x, y, z, w)
	}
}

// bodies are bodies of all four.
func bodies(t *testing.T) []string {
	t.Helper()
	all := []string{"\x50", "\x51"}
	for _, n := range numbers() {
		all = append(all, failBody(api.Fail{Dsn: n}), fastBody(api.Fast{Key: n}))
	}
	for flags := range 16 {
		for reason := range 256 {
			all = append(all, rstBody(api.Rst{Flags: flags, Reason: reason}))
		}
	}
	return all
}

// The chapter's examples

func TestExamples(t *testing.T) {
	fits(t, EncodePrio, DecodePrio, api.Prio{Backup: true}, digits(t, "51"))
	fits(t, EncodeFail, DecodeFail, api.Fail{Dsn: 258}, digits(t, "60 00 00 00 00 00 00 00 01 02"))
	fits(t, EncodeFast, DecodeFast, api.Fast{Key: 1}, digits(t, "70 00 00 00 00 00 00 00 00 01"))
	fits(t, EncodeRst, DecodeRst, api.Rst{Flags: 9, Reason: 5}, digits(t, "89 05"))
	decodes(t, DecodePrio, digits(t, "5e"), api.Prio{}, api.OK)
	decodes(t, DecodePrio, "", api.Prio{}, api.ErrShort)
	decodes(t, DecodePrio, digits(t, "60"), api.Prio{}, api.ErrKind)
	decodes(t, DecodePrio, digits(t, "50 00"), api.Prio{}, api.ErrForm)
	decodes(t, DecodeFail, digits(t, "60 00"), api.Fail{}, api.ErrShort)
	refusesRst(t, api.Rst{Flags: 16})
}

// P13.1

func TestEncodePrio(t *testing.T) {
	encodes(t, EncodePrio, api.Prio{}, "\x50")
	encodes(t, EncodePrio, api.Prio{Backup: true}, "\x51")
}

// Numbers, written out.
func TestEncodeNumbersWrittenOut(t *testing.T) {
	for _, x := range []struct {
		n    uint64
		rest string
	}{
		{0, "00 00 00 00 00 00 00 00 00"},
		{1, "00 00 00 00 00 00 00 00 01"},
		{258, "00 00 00 00 00 00 00 01 02"},
		{1 << 32, "00 00 00 00 01 00 00 00 00"},
		{1 << 63, "00 80 00 00 00 00 00 00 00"},
		{math.MaxUint64, "00 ff ff ff ff ff ff ff ff"},
		{0x0102030405060708, "00 01 02 03 04 05 06 07 08"},
		{0xf1e2d3c4b5a69788, "00 f1 e2 d3 c4 b5 a6 97 88"},
	} {
		fits(t, EncodeFail, DecodeFail, api.Fail{Dsn: x.n}, digits(t, "60"+x.rest))
		fits(t, EncodeFast, DecodeFast, api.Fast{Key: x.n}, digits(t, "70"+x.rest))
	}
}

func TestEncodeNumbers(t *testing.T) {
	for _, n := range numbers() {
		encodes(t, EncodeFail, api.Fail{Dsn: n}, failBody(api.Fail{Dsn: n}))
		encodes(t, EncodeFast, api.Fast{Key: n}, fastBody(api.Fast{Key: n}))
	}
	r := rand.New(rand.NewSource(131))
	for range 5000 {
		n := r.Uint64() >> r.Intn(64)
		encodes(t, EncodeFail, api.Fail{Dsn: n}, failBody(api.Fail{Dsn: n}))
		encodes(t, EncodeFast, api.Fast{Key: n}, fastBody(api.Fast{Key: n}))
	}
}

// Rsts, written out.
func TestEncodeRstWrittenOut(t *testing.T) {
	for _, x := range []struct {
		option api.Rst
		body   string
	}{
		{api.Rst{}, "80 00"},
		{api.Rst{Reason: 1}, "80 01"},
		{api.Rst{Reason: 255}, "80 ff"},
		{api.Rst{Flags: 1}, "81 00"},
		{api.Rst{Flags: 8, Reason: 128}, "88 80"},
		{api.Rst{Flags: 15}, "8f 00"},
		{api.Rst{Flags: 15, Reason: 1}, "8f 01"},
		{api.Rst{Flags: 15, Reason: 255}, "8f ff"},
	} {
		fits(t, EncodeRst, DecodeRst, x.option, digits(t, x.body))
	}
}

func TestEncodeRst(t *testing.T) {
	for flags := range 16 {
		for reason := range 256 {
			x := api.Rst{Flags: flags, Reason: reason}
			encodes(t, EncodeRst, x, rstBody(x))
		}
	}
}

// Rsts that are not valid, each for one reason alone, and then for both.

func TestEncodeRstFlags(t *testing.T) {
	for _, reason := range reasons {
		for flags := -1000; flags <= 1000; flags++ {
			x := api.Rst{Flags: flags, Reason: reason}
			if flags >= 0 && flags <= 15 {
				encodes(t, EncodeRst, x, rstBody(x))
			} else {
				refusesRst(t, x)
			}
		}
		for _, flags := range noFlags {
			refusesRst(t, api.Rst{Flags: flags, Reason: reason})
		}
	}
}

func TestEncodeRstReason(t *testing.T) {
	for flags := range 16 {
		for reason := -1000; reason <= 1000; reason++ {
			x := api.Rst{Flags: flags, Reason: reason}
			if reason >= 0 && reason <= 255 {
				encodes(t, EncodeRst, x, rstBody(x))
			} else {
				refusesRst(t, x)
			}
		}
		for _, reason := range noReasons {
			refusesRst(t, api.Rst{Flags: flags, Reason: reason})
		}
	}
}

func TestEncodeRstBoth(t *testing.T) {
	for _, flags := range noFlags {
		for _, reason := range noReasons {
			refusesRst(t, api.Rst{Flags: flags, Reason: reason})
		}
	}
}

// P13.2

func TestDecodeSizes(t *testing.T) {
	r := rand.New(rand.NewSource(132))
	for n := range 25 {
		for _, fill := range append(texts(n+1), anyText(r, n+1)) {
			for first := range 256 {
				decodesAll(t, (one(first) + fill)[:n])
			}
		}
	}
	for _, n := range []int{40, 255, 256, 256 + 1, 256 + 2, 256 + 10, 1 << 16, 1<<16 + 1, 1<<16 + 2, 1<<16 + 10} {
		for _, first := range []int{0x50, 0x60, 0x70, 0x80, 0x90} {
			decodesAll(t, one(first)+mixed(n-1))
		}
	}
}

// Which sizes are bodies, written out.
func TestDecodeSizesWrittenOut(t *testing.T) {
	codesAll(t, "", api.ErrShort, api.ErrShort, api.ErrShort, api.ErrShort)
	for n := 1; n <= 12; n++ {
		prio, number, rst := api.ErrForm, api.ErrShort, api.ErrForm
		switch n {
		case 1:
			prio, rst = api.OK, api.ErrShort
		case 2:
			rst = api.OK
		case 10:
			number = api.OK
		case 11, 12:
			number = api.ErrForm
		}
		for _, rest := range texts(n - 1) {
			codesAll(t, "\x50"+rest, prio, api.ErrKind, api.ErrKind, api.ErrKind)
			codesAll(t, "\x60"+rest, api.ErrKind, number, api.ErrKind, api.ErrKind)
			codesAll(t, "\x70"+rest, api.ErrKind, api.ErrKind, number, api.ErrKind)
			codesAll(t, "\x80"+rest, api.ErrKind, api.ErrKind, api.ErrKind, rst)
			codesAll(t, "\x40"+rest, api.ErrKind, api.ErrKind, api.ErrKind, api.ErrKind)
			codesAll(t, "\x90"+rest, api.ErrKind, api.ErrKind, api.ErrKind, api.ErrKind)
		}
	}
}

// First bytes of all values, with as many bytes as a body has, one fewer, and one more.
func TestDecodeFirst(t *testing.T) {
	for first := range 256 {
		for _, size := range []int{1, 2, 10} {
			for n := max(size-1, 1); n <= size+1; n++ {
				for _, rest := range texts(n - 1) {
					decodesAll(t, one(first)+rest)
				}
			}
		}
	}
}

// All Rsts' bodies, with all second bytes.
func TestDecodeTwo(t *testing.T) {
	for first := range 256 {
		for second := range 256 {
			decodesAll(t, one(first)+one(second))
		}
	}
}

// The subtype is looked at before the size, and a body that has no byte has no subtype.
func TestDecodeOrder(t *testing.T) {
	codesAll(t, "", api.ErrShort, api.ErrShort, api.ErrShort, api.ErrShort)
	for first := range 256 {
		prio, fail, fast, rst := api.ErrKind, api.ErrKind, api.ErrKind, api.ErrKind
		switch first / 16 {
		case 5:
			prio = api.ErrForm
		case 6:
			fail = api.ErrShort
		case 7:
			fast = api.ErrShort
		case 8:
			rst = api.ErrForm
		}
		codesAll(t, one(first)+"\xff\xff", prio, fail, fast, rst)
		if rst != api.ErrKind {
			rst = api.ErrShort
		}
		if prio != api.ErrKind {
			prio = api.OK
		}
		codesAll(t, one(first), prio, fail, fast, rst)
	}
}

// With each error the option is a zero one, also where the bytes that there are say something.
func TestDecodeZero(t *testing.T) {
	const full = "\xff\xff\xff\xff\xff\xff\xff\xff\xff\xff\xff\xff"
	decodes(t, DecodePrio, "\x51\x00", api.Prio{}, api.ErrForm)
	decodes(t, DecodePrio, "\x5f"+full, api.Prio{}, api.ErrForm)
	decodes(t, DecodePrio, "\x61", api.Prio{}, api.ErrKind)
	for n := range 12 {
		code := api.ErrShort
		if n == 10 || n == 11 {
			code = api.ErrForm
		}
		if n != 9 {
			decodes(t, DecodeFail, "\x6f"+full[:n], api.Fail{}, code)
			decodes(t, DecodeFast, "\x7f"+full[:n], api.Fast{}, code)
		}
		decodes(t, DecodeFail, "\x7f"+full[:n], api.Fail{}, api.ErrKind)
		decodes(t, DecodeFast, "\x6f"+full[:n], api.Fast{}, api.ErrKind)
		decodes(t, DecodeRst, "\x7f"+full[:n], api.Rst{}, api.ErrKind)
		if n > 1 {
			decodes(t, DecodeRst, "\x8f"+full[:n], api.Rst{}, api.ErrForm)
		}
	}
	decodes(t, DecodeRst, "\x8f", api.Rst{}, api.ErrShort)
}

// Bits that are ignored: all of them, alone and together.

func TestDecodePrioIgnores(t *testing.T) {
	for low := range 16 {
		decodes(t, DecodePrio, one(0x50+low), api.Prio{Backup: low%2 == 1}, api.OK)
	}
}

func TestDecodeNumberIgnores(t *testing.T) {
	for low := range 16 {
		for second := range 256 {
			for _, n := range []uint64{0, 258, 0x0102030405060708, math.MaxUint64} {
				ignored := one(second) + numberBody(0, n)[2:]
				decodes(t, DecodeFail, one(0x60+low)+ignored, api.Fail{Dsn: n}, api.OK)
				decodes(t, DecodeFast, one(0x70+low)+ignored, api.Fast{Key: n}, api.OK)
			}
		}
	}
}

func TestDecodeRandomly(t *testing.T) {
	r := rand.New(rand.NewSource(133))
	for range 50000 {
		s := one(r.Intn(256)) + anyText(r, r.Intn(14))
		if r.Intn(2) == 0 {
			s = one(0x50+r.Intn(0x40)) + anyText(r, []int{0, 1, 9}[r.Intn(3)])
		}
		decodesAll(t, s)
		decodesAll(t, s[:r.Intn(len(s))])
	}
}

// P13.3

func TestRoundTrip(t *testing.T) {
	for _, backup := range []bool{false, true} {
		x := api.Prio{Backup: backup}
		fits(t, EncodePrio, DecodePrio, x, prioBody(x))
	}
	r := rand.New(rand.NewSource(134))
	all := numbers()
	for range 5000 {
		all = append(all, r.Uint64()>>r.Intn(64))
	}
	for _, n := range all {
		fits(t, EncodeFail, DecodeFail, api.Fail{Dsn: n}, failBody(api.Fail{Dsn: n}))
		fits(t, EncodeFast, DecodeFast, api.Fast{Key: n}, fastBody(api.Fast{Key: n}))
	}
	for flags := range 16 {
		for reason := range 256 {
			x := api.Rst{Flags: flags, Reason: reason}
			fits(t, EncodeRst, DecodeRst, x, rstBody(x))
		}
	}
}

// What was decoded is encoded as the same bytes, with the ignored bits 0.
func TestRoundTripOfBytes(t *testing.T) {
	for low := range 16 {
		x, _ := DecodePrio(one(0x50 + low))
		encodes(t, EncodePrio, x, one(0x50+low%2))
		for second := range 256 {
			for _, rest := range texts(8) {
				fail, _ := DecodeFail(one(0x60+low) + one(second) + rest)
				encodes(t, EncodeFail, fail, "\x60\x00"+rest)
				fast, _ := DecodeFast(one(0x70+low) + one(second) + rest)
				encodes(t, EncodeFast, fast, "\x70\x00"+rest)
			}
			rst, _ := DecodeRst(one(0x80+low) + one(second))
			encodes(t, EncodeRst, rst, one(0x80+low)+one(second))
		}
	}
	r := rand.New(rand.NewSource(135))
	for range 5000 {
		rest := anyText(r, 8)
		fail, _ := DecodeFail(one(0x60+r.Intn(16)) + anyText(r, 1) + rest)
		encodes(t, EncodeFail, fail, "\x60\x00"+rest)
		fast, _ := DecodeFast(one(0x70+r.Intn(16)) + anyText(r, 1) + rest)
		encodes(t, EncodeFast, fast, "\x70\x00"+rest)
	}
}

// Each body is read by one decoder, and refused by the three others as one of another kind.
func TestNoBodyIsTwo(t *testing.T) {
	for _, s := range bodies(t) {
		want := [4]api.Errno{api.ErrKind, api.ErrKind, api.ErrKind, api.ErrKind}
		want[s[0]/16-5] = api.OK
		codesAll(t, s, want[0], want[1], want[2], want[3])
	}
	for first := range 256 {
		for n := range 13 {
			for _, rest := range texts(n) {
				s, read := one(first)+rest, 0
				_, e := DecodePrio(s)
				_, f := DecodeFail(s)
				_, g := DecodeFast(s)
				_, h := DecodeRst(s)
				for _, code := range []api.Errno{e, f, g, h} {
					if code == api.OK {
						read++
					}
				}
				if read > 1 {
					t.Fatalf("%x is read by %d decoders", s, read)
				}
			}
		}
	}
}

// Unlike options have unlike bodies.
func TestBodiesAreUnlike(t *testing.T) {
	seen := map[string]any{}
	note := func(x any, s string, e api.Errno) {
		if other, ok := seen[s]; e != api.OK || ok && other != x {
			t.Fatalf("%#v and %#v have the body %x, %d", x, other, s, e)
		}
		seen[s] = x
	}
	for _, backup := range []bool{false, true} {
		s, e := EncodePrio(api.Prio{Backup: backup})
		note(api.Prio{Backup: backup}, s, e)
	}
	for _, n := range numbers() {
		s, e := EncodeFail(api.Fail{Dsn: n})
		note(api.Fail{Dsn: n}, s, e)
		s, e = EncodeFast(api.Fast{Key: n})
		note(api.Fast{Key: n}, s, e)
	}
	for flags := range 16 {
		for reason := range 256 {
			x := api.Rst{Flags: flags, Reason: reason}
			s, e := EncodeRst(x)
			note(x, s, e)
		}
	}
}

// A body of which a bit was changed, that is not ignored, is another option's, or none's.
func TestEachBitCounts(t *testing.T) {
	changes(t, DecodePrio, "\x50", 1, 2, 3)
	changes(t, DecodePrio, "\x51", 1, 2, 3)
	for _, n := range numbers() {
		changes(t, DecodeFail, failBody(api.Fail{Dsn: n}), 0, 1, 2, 3, 8, 9, 10, 11, 12, 13, 14, 15)
		changes(t, DecodeFast, fastBody(api.Fast{Key: n}), 0, 1, 2, 3, 8, 9, 10, 11, 12, 13, 14, 15)
	}
	for flags := range 16 {
		for reason := range 256 {
			changes(t, DecodeRst, rstBody(api.Rst{Flags: flags, Reason: reason}))
		}
	}
}

// changes checks that each bit of a body counts, except those that are ignored.
func changes[X comparable](t *testing.T, decode func(string) (X, api.Errno), s string, ignored ...int) {
	t.Helper()
	without := map[int]bool{}
	for _, bit := range ignored {
		without[bit] = true
	}
	x, _ := decode(s)
	for bit := range 8 * len(s) {
		b := []byte(s)
		b[bit/8] ^= 1 << (bit % 8)
		y, e := decode(string(b))
		if without[bit] != (e == api.OK && y == x) {
			t.Fatalf("%x is decoded as %#v, %d, and %x as %#v", b, y, e, s, x)
		}
	}
}

// Results depend on the arguments alone, whatever was computed before, and whatever was raised.
func TestAgain(t *testing.T) {
	for range 3 {
		for _, n := range numbers() {
			fail, fast := api.Fail{Dsn: n}, api.Fast{Key: n}
			fits(t, EncodeFail, DecodeFail, fail, failBody(fail))
			decodes(t, DecodeFail, failBody(fail)[:9], api.Fail{}, api.ErrShort)
			fits(t, EncodeFast, DecodeFast, fast, fastBody(fast))
			decodes(t, DecodeFast, fastBody(fast)+"\x00", api.Fast{}, api.ErrForm)
			fits(t, EncodeRst, DecodeRst, api.Rst{Flags: int(n % 16)}, one(0x80+int(n%16))+"\x00")
			refusesRst(t, api.Rst{Flags: 16})
			decodes(t, DecodeRst, failBody(fail), api.Rst{}, api.ErrKind)
			fits(t, EncodePrio, DecodePrio, api.Prio{Backup: n%2 == 1}, one(0x50+int(n%2)))
			decodes(t, DecodePrio, "", api.Prio{}, api.ErrShort)
		}
	}
}

// The ways

// What reads the rest is passed the first byte, once, and only where that one fits; whatever it returns, and however much it reads, an error is caught, and makes the option a zero one.
func TestDecode(t *testing.T) {
	for _, x := range []struct {
		s     string
		take  int // how many bytes the rest reads
		code  api.Errno
		calls int
	}{
		{"", 0, api.ErrShort, 0},
		{"", 2, api.ErrShort, 0},
		{"\x30", 0, api.ErrKind, 0},
		{"\x30ab", 5, api.ErrKind, 0},
		{"\x4a", 0, api.OK, 1},
		{"\x4a", 1, api.ErrShort, 1},
		{"\x4aab", 3, api.ErrShort, 1},
		{"\x4aab", 2, api.OK, 1},
		{"\x4aab", 1, api.ErrForm, 1},
		{"\x4aab", -1, api.ErrShort, 1},
	} {
		c, calls, want := cursor.Read(x.s), 0, ""
		got, e := decode(c, 4, func(first uint8) string {
			calls++
			if first != 0x4a {
				t.Errorf("the rest of %x is read behind %x", x.s, first)
			}
			return "read " + c.Take(x.take)
		})
		if x.code == api.OK {
			want = "read " + x.s[1:]
		}
		if got != want || e != x.code || calls != x.calls {
			t.Fatalf("%x is decoded as %q, %d, with %d calls, not as %q, %d, with %d", x.s, got, e, calls, want, x.code, x.calls)
		}
	}
}
