package capable

import (
	"encoding/binary"
	"encoding/hex"
	"math"
	"math/rand"
	"slices"
	"strings"
	"testing"

	"plait/api"
	"plait/cursor"
)

// sizes are how many bytes the bodies of the forms have, as the document's table says.
var sizes = []int{api.CapSyn: 2, api.CapAnswer: 10, api.CapFirst: 18, api.CapData: 20, api.CapDataSum: 22}

// What the fields of options are, each in all of its ways.
var (
	versionList = []int{0, 1, 15}
	numberList  = []uint64{0, 1, 258, 1 << 63, 1<<64 - 1}
	lenList     = []int{0, 255, 256, 65535}
	sumList     = []uint16{0, 65535}
	bools       = []bool{false, true}
)

// only is x with the fields that its form has, by the document's table, and nothing else.
func only(x api.Capable) api.Capable {
	size := sizes[x.Form]
	if size < 10 {
		x.Own = 0
	}
	if size < 18 {
		x.Peer = 0
	}
	if size < 20 {
		x.Len = 0
	}
	if size < 22 {
		x.Sum = 0
	}
	return x
}

// bodyOf is the body of a valid option, by the library: all fields, of which the form has as many bytes as its body does.
func bodyOf(x api.Capable) string {
	b := []byte{byte(x.Version), 1}
	if x.Sums {
		b[1] += 128
	}
	if x.Alone {
		b[1] += 32
	}
	b = binary.BigEndian.AppendUint64(b, x.Own)
	b = binary.BigEndian.AppendUint64(b, x.Peer)
	b = binary.BigEndian.AppendUint16(b, uint16(x.Len))
	b = binary.BigEndian.AppendUint16(b, x.Sum)
	return string(b[:sizes[x.Form]])
}

// decoded is what Decode must return, by the words of the document.
func decoded(s string) (api.Capable, api.Errno) {
	switch {
	case len(s) == 0:
		return api.Capable{}, api.ErrShort
	case s[0]&0xf0 != 0:
		return api.Capable{}, api.ErrKind
	case !slices.Contains(sizes, len(s)):
		return api.Capable{}, api.ErrForm
	case s[1]&1 == 0:
		return api.Capable{}, api.ErrArg
	}
	b := append([]byte(s), make([]byte, 20)...)
	return only(api.Capable{
		Form: slices.Index(sizes, len(s)), Version: int(s[0]), Sums: s[1]&128 != 0, Alone: s[1]&32 != 0,
		Own: binary.BigEndian.Uint64(b[2:]), Peer: binary.BigEndian.Uint64(b[10:]),
		Len: int(binary.BigEndian.Uint16(b[18:])), Sum: binary.BigEndian.Uint16(b[20:]),
	}), api.OK
}

// valids are options of all forms, with their fields in all ways; each once.
func valids() []api.Capable {
	var all []api.Capable
	seen := map[api.Capable]bool{}
	note := func(x api.Capable) {
		if !seen[x] {
			seen[x] = true
			all = append(all, x)
		}
	}
	for form := range sizes {
		for _, version := range versionList {
			for flags := range 4 {
				for _, own := range numberList {
					for _, peer := range numberList {
						for _, n := range lenList {
							for _, sum := range sumList {
								note(only(api.Capable{Form: form, Version: version, Sums: flags&1 != 0, Alone: flags&2 != 0, Own: own, Peer: peer, Len: n, Sum: sum}))
							}
						}
					}
				}
			}
		}
	}
	return all
}

// anyOption is a valid one.
func anyOption(r *rand.Rand) api.Capable {
	return only(api.Capable{
		Form: r.Intn(api.CapForms), Version: r.Intn(16), Sums: r.Intn(2) == 0, Alone: r.Intn(2) == 0,
		Own: r.Uint64() >> r.Intn(64), Peer: r.Uint64() >> r.Intn(64), Len: r.Intn(65536), Sum: uint16(r.Uint32()),
	})
}

// anyText are n bytes.
func anyText(r *rand.Rand, n int) string {
	b := make([]byte, n)
	r.Read(b)
	return string(b)
}

// digits are the bytes of hexadecimal digits, which may be told apart by spaces.
func digits(t *testing.T, s string) string {
	t.Helper()
	b, err := hex.DecodeString(strings.ReplaceAll(s, " ", ""))
	if err != nil {
		t.Fatal(err)
	}
	return string(b)
}

// encodes checks that Encode returns this body.
func encodes(t *testing.T, x api.Capable, want string) {
	t.Helper()
	if got, e := Encode(x); got != want || e != api.OK {
		t.Errorf("Encode(%+v) = %x, %d, not %x", x, got, e, want)
	}
}

// refuses checks that Encode returns nothing, and ErrArg.
func refuses(t *testing.T, x api.Capable) {
	t.Helper()
	if got, e := Encode(x); got != "" || e != api.ErrArg {
		t.Errorf("Encode(%+v) = %x, %d, not ErrArg", x, got, e)
	}
}

// decodes checks what Decode returns.
func decodes(t *testing.T, s string, want api.Capable, code api.Errno) {
	t.Helper()
	if got, e := Decode(s); got != want || e != code {
		t.Errorf("Decode(%x) = %+v, %d, not %+v, %d", s, got, e, want, code)
	}
}

// The chapter's examples

func TestExamples(t *testing.T) {
	for _, x := range []struct {
		option api.Capable
		body   string
	}{
		{api.Capable{Form: api.CapSyn, Version: 1, Sums: true}, "01 81"},
		{api.Capable{Form: api.CapAnswer, Version: 1, Own: 258}, "01 01 00 00 00 00 00 00 01 02"},
		{api.Capable{Form: api.CapDataSum, Version: 1, Alone: true, Own: 1, Peer: 2, Len: 3, Sum: 4}, "01 21" + strings.Repeat("00", 7) + "01" + strings.Repeat("00", 7) + "02 00 03 00 04"},
	} {
		encodes(t, x.option, digits(t, x.body))
		decodes(t, digits(t, x.body), x.option, api.OK)
	}
	ignored := api.Capable{Form: api.CapSyn, Version: 1, Sums: true}
	decodes(t, digits(t, "01 df"), ignored, api.OK)
	encodes(t, ignored, digits(t, "01 81"))
	decodes(t, "", api.Capable{}, api.ErrShort)
	decodes(t, digits(t, "11 01"), api.Capable{}, api.ErrKind)
	decodes(t, digits(t, "01 01 00"), api.Capable{}, api.ErrForm)
	decodes(t, digits(t, "01 80"), api.Capable{}, api.ErrArg)
}

// P9.1

// Bodies of all forms, written out.
func TestEncodeForms(t *testing.T) {
	const own, peer = 0x0102030405060708, 0xf1f2f3f4f5f6f7f8
	for _, x := range []struct {
		option api.Capable
		body   string
	}{
		{api.Capable{}, "00 01"},
		{api.Capable{Version: 15}, "0f 01"},
		{api.Capable{Version: 15, Alone: true}, "0f 21"},
		{api.Capable{Version: 15, Sums: true, Alone: true}, "0f a1"},
		{api.Capable{Form: api.CapAnswer, Version: 2, Own: own}, "02 01 01 02 03 04 05 06 07 08"},
		{api.Capable{Form: api.CapFirst, Version: 3, Sums: true, Own: own, Peer: peer}, "03 81 01 02 03 04 05 06 07 08 f1 f2 f3 f4 f5 f6 f7 f8"},
		{api.Capable{Form: api.CapData, Version: 4, Alone: true, Own: own, Peer: peer, Len: 0x0a0b}, "04 21 01 02 03 04 05 06 07 08 f1 f2 f3 f4 f5 f6 f7 f8 0a 0b"},
		{api.Capable{Form: api.CapDataSum, Version: 5, Sums: true, Alone: true, Own: own, Peer: peer, Len: 0x0a0b, Sum: 0x0c0d}, "05 a1 01 02 03 04 05 06 07 08 f1 f2 f3 f4 f5 f6 f7 f8 0a 0b 0c 0d"},
	} {
		encodes(t, x.option, digits(t, x.body))
		decodes(t, digits(t, x.body), x.option, api.OK)
	}
}

func TestEncode(t *testing.T) {
	all := valids()
	if want := 3 * 4 * (1 + 5 + 25 + 25*4 + 25*4*2); len(all) != want {
		t.Fatalf("%d options, not %d", len(all), want)
	}
	for _, x := range all {
		encodes(t, x, bodyOf(x))
	}
	r := rand.New(rand.NewSource(91))
	for range 5000 {
		x := anyOption(r)
		encodes(t, x, bodyOf(x))
	}
}

// All versions, all lengths and all sums have a body.
func TestEncodeAllNumbers(t *testing.T) {
	for form := range sizes {
		for version := range 16 {
			x := api.Capable{Form: form, Version: version}
			encodes(t, x, bodyOf(x))
		}
	}
	for n := range 65536 {
		data := api.Capable{Form: api.CapData, Version: 1, Len: n}
		encodes(t, data, bodyOf(data))
		both := api.Capable{Form: api.CapDataSum, Version: 1, Len: n, Sum: uint16(65535 - n)}
		encodes(t, both, bodyOf(both))
	}
}

// Options that are not valid, each for one reason alone.

func TestEncodeForm(t *testing.T) {
	for _, form := range []int{math.MinInt, math.MinInt + 1, -1 << 32, -5, -1, 5, 6, 255, 256, 1 << 32, 1<<32 + 1, math.MaxInt - 1, math.MaxInt} {
		refuses(t, api.Capable{Form: form})
		refuses(t, api.Capable{Form: form, Version: 1, Sums: true, Alone: true})
	}
}

func TestEncodeVersion(t *testing.T) {
	for form := range sizes {
		for _, version := range []int{math.MinInt, math.MinInt + 1, -1 << 32, -16, -15, -1, 16, 17, 255, 256, 257, 1 << 32, 1<<32 + 1, math.MaxInt - 1, math.MaxInt} {
			refuses(t, api.Capable{Form: form, Version: version})
			refuses(t, only(api.Capable{Form: form, Version: version, Sums: true, Own: 1, Peer: 2, Len: 3, Sum: 4}))
		}
	}
}

func TestEncodeLen(t *testing.T) {
	for form := range sizes {
		for _, n := range []int{math.MinInt, math.MinInt + 1, -1 << 32, -65536, -65535, -1, 65536, 65537, 1 << 31, 1 << 32, 1<<32 + 1, math.MaxInt - 1, math.MaxInt} {
			refuses(t, api.Capable{Form: form, Version: 1, Len: n})
			x := only(api.Capable{Form: form, Version: 1, Alone: true, Own: 1, Peer: 2, Sum: 4})
			x.Len = n
			refuses(t, x)
		}
	}
}

// A field that a form does not have is 0; the others, each alone and all together, may be anything.
func TestEncodeFields(t *testing.T) {
	for form := range sizes {
		for _, full := range bools {
			base := api.Capable{Form: form, Version: 1}
			if full {
				base = only(api.Capable{Form: form, Version: 1, Sums: true, Alone: true, Own: 1, Peer: 2, Len: 3, Sum: 4})
			}
			encodes(t, base, bodyOf(base))
			var changed []api.Capable
			for _, n := range numberList {
				own, peer := base, base
				own.Own, peer.Peer = n, n
				changed = append(changed, own, peer)
			}
			for k := range 64 {
				own, peer := base, base
				own.Own, peer.Peer = 1<<k, 1<<k
				changed = append(changed, own, peer)
			}
			for _, n := range append(lenList, 1, 32768) {
				x := base
				x.Len = n
				changed = append(changed, x)
			}
			for _, n := range append(sumList, 1, 256, 32768) {
				x := base
				x.Sum = n
				changed = append(changed, x)
			}
			for _, x := range changed {
				if only(x) == x {
					encodes(t, x, bodyOf(x))
				} else {
					refuses(t, x)
				}
			}
		}
	}
}

// Each such field, written out.
func TestEncodeFieldsWrittenOut(t *testing.T) {
	for _, x := range []api.Capable{
		{Form: api.CapSyn, Own: 1}, {Form: api.CapSyn, Own: 1 << 63}, {Form: api.CapSyn, Peer: 1}, {Form: api.CapSyn, Peer: 1<<64 - 1}, {Form: api.CapSyn, Len: 1}, {Form: api.CapSyn, Len: 65535}, {Form: api.CapSyn, Sum: 1}, {Form: api.CapSyn, Sum: 65535},
		{Form: api.CapAnswer, Own: 1, Peer: 1}, {Form: api.CapAnswer, Own: 1, Peer: 1 << 63}, {Form: api.CapAnswer, Own: 1, Len: 1}, {Form: api.CapAnswer, Own: 1, Len: 65535}, {Form: api.CapAnswer, Own: 1, Sum: 1}, {Form: api.CapAnswer, Own: 1, Sum: 65535},
		{Form: api.CapFirst, Own: 1, Peer: 2, Len: 1}, {Form: api.CapFirst, Own: 1, Peer: 2, Len: 65535}, {Form: api.CapFirst, Own: 1, Peer: 2, Sum: 1}, {Form: api.CapFirst, Own: 1, Peer: 2, Sum: 65535},
		{Form: api.CapData, Own: 1, Peer: 2, Len: 3, Sum: 1}, {Form: api.CapData, Own: 1, Peer: 2, Len: 3, Sum: 65535},
	} {
		refuses(t, x)
	}
}

// P9.2

func TestDecodeSizes(t *testing.T) {
	r := rand.New(rand.NewSource(92))
	for n := range 31 {
		want := api.ErrForm
		switch n {
		case 0:
			want = api.ErrShort
		case 2, 10, 18, 20, 22:
			want = api.OK
		}
		for _, fill := range []string{strings.Repeat("\x00", n), strings.Repeat("\x01", n), strings.Repeat("\xff", n), anyText(r, n)} {
			s := ("\x01\x81" + fill)[:n]
			if got, e := Decode(s); e != want || e != api.OK && got != (api.Capable{}) {
				t.Errorf("Decode(%x), %d bytes: %+v, %d, not %d", s, n, got, e, want)
			}
			option, code := decoded(s)
			decodes(t, s, option, code)
		}
	}
}

// Texts that are far too long, also where their sizes have the lowest bits of others.
func TestDecodeLong(t *testing.T) {
	for _, more := range []int{32, 64, 128, 256, 512, 65536, 1 << 20} {
		for _, size := range append([]int{0, 1}, sizes...) {
			s := "\x01\x81" + strings.Repeat("\x01", more+size-2)
			decodes(t, s, api.Capable{}, api.ErrForm)
			decodes(t, "\x11"+s[1:], api.Capable{}, api.ErrKind)
		}
	}
}

// All first bytes, and all second ones, with each number of bytes: also where several errors hold at once.
func TestDecodeAllBytes(t *testing.T) {
	rest := "\x01\x02\x03\x04\x05\x06\x07\x08\xf1\xf2\xf3\xf4\xf5\xf6\xf7\xf8\x0a\x0b\x0c\x0d\x0e\x0f\x10\x11\x12\x13\x14\x15"
	for n := range 31 {
		for first := range 256 {
			for second := range 256 {
				s := (string([]byte{byte(first), byte(second)}) + rest)[:n]
				want, code := decoded(s)
				if got, e := Decode(s); got != want || e != code {
					t.Fatalf("Decode(%x) = %+v, %d, not %+v, %d", s, got, e, want, code)
				}
			}
		}
	}
}

// The upper half of the first byte is the subtype, the lower one the version, whichever it is.
func TestDecodeFirst(t *testing.T) {
	for form, size := range sizes {
		for n := range 256 {
			s := string([]byte{byte(n), 1}) + strings.Repeat("\x00", size-2)
			if n < 16 {
				decodes(t, s, api.Capable{Form: form, Version: n}, api.OK)
			} else {
				decodes(t, s, api.Capable{}, api.ErrKind)
			}
		}
	}
}

// Of the second byte, the bits 128 and 32 count, and the lowest one is set.
func TestDecodeSecond(t *testing.T) {
	for form, size := range sizes {
		for n := range 256 {
			s := string([]byte{1, byte(n)}) + strings.Repeat("\x00", size-2)
			if n%2 == 1 {
				decodes(t, s, api.Capable{Form: form, Version: 1, Sums: n >= 128, Alone: n/32%2 == 1}, api.OK)
			} else {
				decodes(t, s, api.Capable{}, api.ErrArg)
			}
		}
	}
}

// Where several errors hold, the first one counts.
func TestDecodeOrder(t *testing.T) {
	for _, x := range []struct {
		body string
		want api.Errno
	}{
		{"10", api.ErrKind}, {"f1", api.ErrKind}, {"00", api.ErrForm}, {"01", api.ErrForm}, {"0f", api.ErrForm},
		{"10 00", api.ErrKind}, {"80 fe", api.ErrKind}, {"f0 01", api.ErrKind}, {"1f 80", api.ErrKind},
		{"10 00 00", api.ErrKind}, {"10 01 00", api.ErrKind}, {"00 00 00", api.ErrForm}, {"01 80 00", api.ErrForm}, {"01 01 00", api.ErrForm},
		{"20" + strings.Repeat("00", 9), api.ErrKind}, {"01" + strings.Repeat("00", 9), api.ErrArg}, {"01" + strings.Repeat("00", 10), api.ErrForm},
		{"20" + strings.Repeat("00", 21), api.ErrKind}, {"01 fe" + strings.Repeat("ff", 20), api.ErrArg}, {"01 fe" + strings.Repeat("ff", 21), api.ErrForm}, {"41 fe" + strings.Repeat("ff", 21), api.ErrKind},
	} {
		decodes(t, digits(t, x.body), api.Capable{}, x.want)
	}
}

// Fields of random bytes, of all forms and of none.
func TestDecodeAny(t *testing.T) {
	r := rand.New(rand.NewSource(93))
	for range 20000 {
		s := anyText(r, r.Intn(31))
		if r.Intn(4) != 0 {
			s = (string([]byte{byte(r.Intn(16)), byte(r.Intn(256)) | 1}) + anyText(r, 28))[:sizes[r.Intn(len(sizes))]]
		}
		want, code := decoded(s)
		decodes(t, s, want, code)
	}
}

// P9.3

func TestDecodeInvertsEncode(t *testing.T) {
	r := rand.New(rand.NewSource(94))
	all := valids()
	for range 5000 {
		all = append(all, anyOption(r))
	}
	bodies := map[string]api.Capable{}
	for _, x := range all {
		s, e := Encode(x)
		if e != api.OK || len(s) != sizes[x.Form] {
			t.Fatalf("Encode(%+v) = %x, %d", x, s, e)
		}
		decodes(t, s, x, api.OK)
		if y, twice := bodies[s]; twice && y != x {
			t.Errorf("%+v and %+v have the same body", x, y)
		}
		bodies[s] = x
	}
}

// What was decoded has the same bytes again, but for the bits 64, 16, 8, 4 and 2 of the second one, which are 0 then.
func TestEncodeInvertsDecode(t *testing.T) {
	r := rand.New(rand.NewSource(95))
	for _, size := range sizes {
		for version := range 16 {
			for n := 1; n < 256; n += 2 {
				s := string([]byte{byte(version), byte(n)}) + anyText(r, size-2)
				x, e := Decode(s)
				if e != api.OK {
					t.Fatalf("Decode(%x): %d", s, e)
				}
				again := s[:1] + string([]byte{byte(n) & 0b10100001}) + s[2:]
				encodes(t, x, again)
				decodes(t, again, x, api.OK)
			}
		}
	}
}

// Results depend on the arguments alone, whatever was computed before.
func TestAgain(t *testing.T) {
	x := api.Capable{Form: api.CapDataSum, Version: 1, Alone: true, Own: 1, Peer: 2, Len: 3, Sum: 4}
	for range 3 {
		encodes(t, x, bodyOf(x))
		refuses(t, api.Capable{Form: api.CapSyn, Own: 1})
		decodes(t, bodyOf(x), x, api.OK)
		decodes(t, bodyOf(x)[:21], api.Capable{}, api.ErrForm)
		decodes(t, "\x01\x01", api.Capable{Version: 1}, api.OK)
	}
}

// The ways

// Each form has the fields of the one before it, and one more.
func TestWidths(t *testing.T) {
	for form, want := range []widths{{}, {own: 8}, {own: 8, peer: 8}, {own: 8, peer: 8, length: 2}, {own: 8, peer: 8, length: 2, sum: 2}} {
		if got := widthsOf(form); got != want {
			t.Errorf("the form %d has the widths %+v, not %+v", form, got, want)
		}
	}
	for _, form := range []int{math.MinInt, -1, 5, math.MaxInt} {
		if got := widthsOf(form); got != (widths{}) {
			t.Errorf("the form %d, which is none, has the widths %+v", form, got)
		}
	}
}

// A reader reads one number after the other; none where there is no field.
func TestReader(t *testing.T) {
	next := reader(cursor.Put64(cursor.Put16(cursor.Put8("", 7), 258), 1<<63) + "\x05")
	for k, x := range []struct {
		width int
		want  uint64
	}{{0, 0}, {1, 7}, {0, 0}, {2, 258}, {8, 1 << 63}, {0, 0}, {1, 5}, {1, 0}, {8, 0}} {
		if got := next(x.width); got != x.want {
			t.Errorf("the number %d, of %d bytes, is %d, not %d", k, x.width, got, x.want)
		}
	}
}
