package dss

import (
	"encoding/binary"
	"encoding/hex"
	"math"
	"math/rand"
	"strings"
	"testing"

	"plait/api"
	"plait/cursor"
)

// What the fields of signals are, each in all of its ways; and ints that are no lengths.
var (
	shortList = []uint64{0, 1, 258, 1<<32 - 1}
	longList  = []uint64{0, 1, 258, 1<<32 - 1, 1 << 32, 1<<64 - 1}
	tooLong   = []uint64{1 << 32, 1<<32 + 1, 1<<33 - 1, 1 << 40, 1 << 48, 1 << 63, 1<<63 + 5, 1<<64 - 1<<32, 1<<64 - 1}
	ssnList   = []uint32{0, 1<<32 - 1}
	lenList   = []int{0, 1, 65535}
	sumList   = []uint16{0, 65535}
	bools     = []bool{false, true}
	noLens    = []int{math.MinInt, math.MinInt + 1, -1 << 32, -1<<32 + 1, -65536, -65535, -256, -1, 65536, 65537, 1<<17 + 1, 1 << 31, 1 << 32, 1<<32 + 1, math.MaxInt - 1, math.MaxInt}
)

// acks are signals with an Ack alone, in all ways; the first one has none.
func acks() []api.Dss {
	all := []api.Dss{{}}
	for _, n := range shortList {
		all = append(all, api.Dss{HasAck: true, Ack: n})
	}
	for _, n := range longList {
		all = append(all, api.Dss{HasAck: true, LongAck: true, Ack: n})
	}
	return all
}

// maps are signals with a mapping alone, in all ways; the first one has none.
func maps() []api.Dss {
	var dsns []api.Dss
	for _, n := range shortList {
		dsns = append(dsns, api.Dss{HasMap: true, Dsn: n})
	}
	for _, n := range longList {
		dsns = append(dsns, api.Dss{HasMap: true, LongDsn: true, Dsn: n})
	}
	all := []api.Dss{{}}
	for _, x := range dsns {
		for _, x.Fin = range bools {
			for _, x.Ssn = range ssnList {
				for _, x.Len = range lenList {
					x.HasSum, x.Sum = false, 0
					all = append(all, x)
					for _, sum := range sumList {
						x.HasSum, x.Sum = true, sum
						all = append(all, x)
					}
				}
			}
		}
	}
	return all
}

// with is the mapping x with the Ack of y.
func with(x, y api.Dss) api.Dss {
	x.HasAck, x.LongAck, x.Ack = y.HasAck, y.LongAck, y.Ack
	return x
}

// valids are signals in all ways; each once.
func valids() []api.Dss {
	var all []api.Dss
	for _, x := range maps() {
		for _, y := range acks() {
			if x.HasMap || y.HasAck {
				all = append(all, with(x, y))
			}
		}
	}
	return all
}

// shapes are signals of which all fields are zero, in all ways of what they have.
func shapes() []api.Dss {
	var all []api.Dss
	for second := range 32 {
		x := api.Dss{HasAck: second&1 != 0, LongAck: second&2 != 0, HasMap: second&4 != 0, LongDsn: second&8 != 0, Fin: second&16 != 0}
		if x.LongAck && !x.HasAck || (x.LongDsn || x.Fin) && !x.HasMap || !x.HasAck && !x.HasMap {
			continue
		}
		all = append(all, x)
		if x.HasMap {
			x.HasSum = true
			all = append(all, x)
		}
	}
	return all
}

// full is a shape of which no field is zero.
func full(x api.Dss) api.Dss {
	if x.HasAck {
		x.Ack = 0x81828384
	}
	if x.LongAck {
		x.Ack = 0x0102030405060708
	}
	if x.HasMap {
		x.Dsn, x.Ssn, x.Len = 0x91929394, 0xa1a2a3a4, 0xb1b2
	}
	if x.LongDsn {
		x.Dsn = 0xf1f2f3f4f5f6f7f8
	}
	if x.HasSum {
		x.Sum = 0xc1c2
	}
	return x
}

// anySignal is a valid one.
func anySignal(r *rand.Rand) api.Dss {
	all := shapes()
	x := all[r.Intn(len(all))]
	if x.HasAck {
		x.Ack = r.Uint64() >> r.Intn(64)
	}
	if x.HasMap {
		x.Dsn, x.Ssn, x.Len = r.Uint64()>>r.Intn(64), r.Uint32()>>r.Intn(32), r.Intn(65536)
	}
	if x.HasSum {
		x.Sum = uint16(r.Uint32())
	}
	if !x.LongAck {
		x.Ack &= 1<<32 - 1
	}
	if !x.LongDsn {
		x.Dsn &= 1<<32 - 1
	}
	return x
}

// anyText are n bytes.
func anyText(r *rand.Rand, n int) string {
	b := make([]byte, n)
	r.Read(b)
	return string(b)
}

// digits are the bytes of hexadecimal digits, which may be told apart by spaces.
func digits(t *testing.T, s string) string {
	t.Helper()
	b, err := hex.DecodeString(strings.ReplaceAll(s, " ", ""))
	if err != nil {
		t.Fatal(err)
	}
	return string(b)
}

// bodyOf is the body of a valid signal, by the library.
func bodyOf(x api.Dss) string {
	b := []byte{0x20, 0}
	number := func(n uint64, long bool) {
		if long {
			b = binary.BigEndian.AppendUint64(b, n)
		} else {
			b = binary.BigEndian.AppendUint32(b, uint32(n))
		}
	}
	if x.HasAck {
		b[1] += 1
		number(x.Ack, x.LongAck)
	}
	if x.LongAck {
		b[1] += 2
	}
	if x.HasMap {
		b[1] += 4
		number(x.Dsn, x.LongDsn)
		b = binary.BigEndian.AppendUint32(b, x.Ssn)
		b = binary.BigEndian.AppendUint16(b, uint16(x.Len))
	}
	if x.LongDsn {
		b[1] += 8
	}
	if x.Fin {
		b[1] += 16
	}
	if x.HasSum {
		b = binary.BigEndian.AppendUint16(b, x.Sum)
	}
	return string(b)
}

// need is how many bytes a second byte says that there are, in all, without a Sum.
func need(second byte) int {
	n := 2
	if second&1 != 0 {
		n += 4
		if second&2 != 0 {
			n += 4
		}
	}
	if second&4 != 0 {
		n += 4 + 4 + 2
		if second&8 != 0 {
			n += 4
		}
	}
	return n
}

// decoded is what Decode must return, by the words of the document.
func decoded(s string) (api.Dss, api.Errno) {
	switch {
	case len(s) == 0:
		return api.Dss{}, api.ErrShort
	case s[0]&0xf0 != 0x20:
		return api.Dss{}, api.ErrKind
	case len(s) == 1:
		return api.Dss{}, api.ErrShort
	case s[1]&5 == 0:
		return api.Dss{}, api.ErrForm
	case len(s) < need(s[1]):
		return api.Dss{}, api.ErrShort
	case len(s) > need(s[1]) && (len(s) != need(s[1])+2 || s[1]&4 == 0):
		return api.Dss{}, api.ErrForm
	}
	x, rest := api.Dss{}, []byte(s[2:])
	number := func(n int) (u uint64) {
		for _, c := range rest[:n] {
			u = u*256 + uint64(c)
		}
		rest = rest[n:]
		return u
	}
	width := map[bool]int{false: 4, true: 8}
	if x.HasAck = s[1]&1 != 0; x.HasAck {
		x.LongAck = s[1]&2 != 0
		x.Ack = number(width[x.LongAck])
	}
	if x.HasMap = s[1]&4 != 0; x.HasMap {
		x.LongDsn, x.Fin = s[1]&8 != 0, s[1]&16 != 0
		x.Dsn, x.Ssn, x.Len = number(width[x.LongDsn]), uint32(number(4)), int(number(2))
	}
	if x.HasSum = len(rest) > 0; x.HasSum {
		x.Sum = uint16(number(2))
	}
	return x, api.OK
}

// cleared is a body of ours with the ignored bits 0.
func cleared(s string) string {
	keep := byte(5)
	if s[1]&1 != 0 {
		keep += 2
	}
	if s[1]&4 != 0 {
		keep += 8 + 16
	}
	return string([]byte{s[0] & 0xf0, s[1] & keep}) + s[2:]
}

// encodes checks that Encode returns this body.
func encodes(t *testing.T, x api.Dss, want string) {
	t.Helper()
	if got, e := Encode(x); got != want || e != api.OK {
		t.Errorf("Encode(%+v) = %x, %d, not %x", x, got, e, want)
	}
}

// refuses checks that Encode returns nothing, and ErrArg.
func refuses(t *testing.T, x api.Dss) {
	t.Helper()
	if got, e := Encode(x); got != "" || e != api.ErrArg {
		t.Errorf("Encode(%+v) = %x, %d, not ErrArg", x, got, e)
	}
}

// decodes checks what Decode returns.
func decodes(t *testing.T, s string, want api.Dss, code api.Errno) {
	t.Helper()
	if got, e := Decode(s); got != want || e != code {
		t.Errorf("Decode(%x) = %+v, %d, not %+v, %d", s, got, e, want, code)
	}
}

// The chapter's examples

func TestExamples(t *testing.T) {
	for _, x := range []struct {
		signal api.Dss
		body   string
	}{
		{api.Dss{HasAck: true, Ack: 258}, "20 01 00 00 01 02"},
		{api.Dss{HasAck: true, LongAck: true, Ack: 1, HasMap: true, Dsn: 2, Ssn: 3, Len: 4}, "20 07 00 00 00 00 00 00 00 01 00 00 00 02 00 00 00 03 00 04"},
		{api.Dss{Fin: true, HasMap: true, LongDsn: true, Dsn: 5, Ssn: 0, Len: 1, HasSum: true, Sum: 6}, "20 1c 00 00 00 00 00 00 00 05 00 00 00 00 00 01 00 06"},
	} {
		encodes(t, x.signal, digits(t, x.body))
		decodes(t, digits(t, x.body), x.signal, api.OK)
	}
	decodes(t, digits(t, "20"), api.Dss{}, api.ErrShort)
	decodes(t, digits(t, "30 01"), api.Dss{}, api.ErrKind)
	decodes(t, digits(t, "20 00"), api.Dss{}, api.ErrForm)
	decodes(t, digits(t, "20 01 00"), api.Dss{}, api.ErrShort)
	for _, five := range []string{"00 00 00 00 00", "01 02 03 04 05", "ff ff ff ff ff"} {
		decodes(t, digits(t, "20 01"+five), api.Dss{}, api.ErrForm)
	}
}

// P11.1

// Bodies of all shapes, written out.
func TestEncodeShapes(t *testing.T) {
	const (
		ack, longAck = 0x81828384, 0x0102030405060708
		dsn, longDsn = 0x91929394, 0xf1f2f3f4f5f6f7f8
		ssn, n, sum  = 0xa1a2a3a4, 0xb1b2, 0xc1c2
	)
	for _, x := range []struct {
		signal api.Dss
		body   string
	}{
		{api.Dss{HasAck: true}, "20 01 00 00 00 00"},
		{api.Dss{HasAck: true, Ack: ack}, "20 01 81 82 83 84"},
		{api.Dss{HasAck: true, LongAck: true}, "20 03 00 00 00 00 00 00 00 00"},
		{api.Dss{HasAck: true, LongAck: true, Ack: longAck}, "20 03 01 02 03 04 05 06 07 08"},
		{api.Dss{HasMap: true}, "20 04 00 00 00 00 00 00 00 00 00 00"},
		{api.Dss{HasMap: true, HasSum: true}, "20 04 00 00 00 00 00 00 00 00 00 00 00 00"},
		{api.Dss{HasMap: true, Dsn: dsn, Ssn: ssn, Len: n}, "20 04 91 92 93 94 a1 a2 a3 a4 b1 b2"},
		{api.Dss{HasMap: true, Dsn: dsn, Ssn: ssn, Len: n, HasSum: true, Sum: sum}, "20 04 91 92 93 94 a1 a2 a3 a4 b1 b2 c1 c2"},
		{api.Dss{HasMap: true, LongDsn: true, Dsn: longDsn, Ssn: ssn, Len: n}, "20 0c f1 f2 f3 f4 f5 f6 f7 f8 a1 a2 a3 a4 b1 b2"},
		{api.Dss{HasMap: true, LongDsn: true, Dsn: longDsn, Ssn: ssn, Len: n, HasSum: true, Sum: sum}, "20 0c f1 f2 f3 f4 f5 f6 f7 f8 a1 a2 a3 a4 b1 b2 c1 c2"},
		{api.Dss{HasMap: true, Fin: true, Dsn: dsn, Ssn: ssn, Len: n}, "20 14 91 92 93 94 a1 a2 a3 a4 b1 b2"},
		{api.Dss{HasMap: true, Fin: true, Dsn: dsn, Ssn: ssn, Len: n, HasSum: true, Sum: sum}, "20 14 91 92 93 94 a1 a2 a3 a4 b1 b2 c1 c2"},
		{api.Dss{HasAck: true, Ack: ack, HasMap: true, Dsn: dsn, Ssn: ssn, Len: n}, "20 05 81 82 83 84 91 92 93 94 a1 a2 a3 a4 b1 b2"},
		{api.Dss{HasAck: true, Ack: ack, HasMap: true, LongDsn: true, Dsn: longDsn, Ssn: ssn, Len: n}, "20 0d 81 82 83 84 f1 f2 f3 f4 f5 f6 f7 f8 a1 a2 a3 a4 b1 b2"},
		{api.Dss{HasAck: true, LongAck: true, Ack: longAck, HasMap: true, Dsn: dsn, Ssn: ssn, Len: n, HasSum: true, Sum: sum}, "20 07 01 02 03 04 05 06 07 08 91 92 93 94 a1 a2 a3 a4 b1 b2 c1 c2"},
		{api.Dss{HasAck: true, LongAck: true, Ack: longAck, HasMap: true, LongDsn: true, Fin: true, Dsn: longDsn, Ssn: ssn, Len: n, HasSum: true, Sum: sum}, "20 1f 01 02 03 04 05 06 07 08 f1 f2 f3 f4 f5 f6 f7 f8 a1 a2 a3 a4 b1 b2 c1 c2"},
	} {
		encodes(t, x.signal, digits(t, x.body))
		decodes(t, digits(t, x.body), x.signal, api.OK)
	}
}

func TestEncode(t *testing.T) {
	all := valids()
	if want := (1+4+6)*(1+(4+6)*2*2*3*3) - 1; len(all) != want {
		t.Fatalf("%d signals, not %d", len(all), want)
	}
	for _, x := range all {
		encodes(t, x, bodyOf(x))
	}
	r := rand.New(rand.NewSource(111))
	for range 5000 {
		x := anySignal(r)
		encodes(t, x, bodyOf(x))
	}
}

// Each bit of a number alone, and all lengths and sums.
func TestEncodeAllNumbers(t *testing.T) {
	for _, base := range shapes() {
		for k := range 64 {
			if base.HasAck && (k < 32 || base.LongAck) {
				x := full(base)
				x.Ack = 1 << k
				encodes(t, x, bodyOf(x))
			}
			if base.HasMap && (k < 32 || base.LongDsn) {
				x := full(base)
				x.Dsn = 1 << k
				encodes(t, x, bodyOf(x))
			}
			if base.HasMap && k < 32 {
				x := full(base)
				x.Ssn = 1 << k
				encodes(t, x, bodyOf(x))
			}
		}
	}
	for n := range 65536 {
		x := api.Dss{HasMap: true, Len: n}
		encodes(t, x, bodyOf(x))
		x.HasSum, x.Sum = true, uint16(65535-n)
		encodes(t, x, bodyOf(x))
	}
}

// Signals that are not valid, each for one reason alone.

func TestEncodeNeither(t *testing.T) {
	refuses(t, api.Dss{})
}

func TestEncodeLen(t *testing.T) {
	for _, base := range shapes() {
		if !base.HasMap {
			continue
		}
		for _, x := range []api.Dss{base, full(base)} {
			encodes(t, x, bodyOf(x))
			for _, n := range noLens {
				x.Len = n
				refuses(t, x)
			}
		}
	}
}

// A number of 4 bytes that has more than these is refused, and is valid if it is long.
func TestEncodeTooLong(t *testing.T) {
	for _, base := range shapes() {
		for _, x := range []api.Dss{base, full(base)} {
			for _, n := range tooLong {
				if x.HasAck && !x.LongAck {
					y := x
					y.Ack = n
					refuses(t, y)
					y.LongAck = true
					encodes(t, y, bodyOf(y))
				}
				if x.HasMap && !x.LongDsn {
					y := x
					y.Dsn = n
					refuses(t, y)
					y.LongDsn = true
					encodes(t, y, bodyOf(y))
				}
			}
		}
	}
}

// Each of both numbers is long for itself: that the other one is does not help.
func TestEncodeLongIsNotTheOther(t *testing.T) {
	for _, n := range tooLong {
		refuses(t, api.Dss{HasAck: true, Ack: n, HasMap: true, LongDsn: true, Dsn: n})
		refuses(t, api.Dss{HasAck: true, LongAck: true, Ack: n, HasMap: true, Dsn: n})
		refuses(t, api.Dss{HasAck: true, Ack: n, HasMap: true, Dsn: n})
	}
}

// foreign are all signals that x becomes by one field that belongs to an absent Ack, an absent mapping, or an absent Sum.
func foreign(x api.Dss) []api.Dss {
	var all []api.Dss
	note := func(change func(y *api.Dss)) {
		y := x
		change(&y)
		all = append(all, y)
	}
	for k := range 64 {
		if !x.HasAck {
			note(func(y *api.Dss) { y.Ack = 1 << k })
		}
		if !x.HasMap {
			note(func(y *api.Dss) { y.Dsn = 1 << k })
			note(func(y *api.Dss) { y.Ssn = 1 << (k % 32) })
			note(func(y *api.Dss) { y.Len = 1 << k })
		}
		if !x.HasSum {
			note(func(y *api.Dss) { y.Sum = 1 << (k % 16) })
		}
	}
	if !x.HasAck {
		note(func(y *api.Dss) { y.LongAck = true })
		note(func(y *api.Dss) { y.Ack = 1<<64 - 1 })
	}
	if !x.HasMap {
		note(func(y *api.Dss) { y.Fin = true })
		note(func(y *api.Dss) { y.LongDsn = true })
		note(func(y *api.Dss) { y.Dsn = 1<<64 - 1 })
		note(func(y *api.Dss) { y.Ssn = 1<<32 - 1 })
		note(func(y *api.Dss) { y.Len = 65535 })
		note(func(y *api.Dss) { y.HasSum = true })
	}
	if !x.HasSum {
		note(func(y *api.Dss) { y.Sum = 65535 })
	}
	return all
}

func TestEncodeForeign(t *testing.T) {
	for _, base := range shapes() {
		for _, x := range []api.Dss{base, full(base)} {
			encodes(t, x, bodyOf(x))
			for _, y := range foreign(x) {
				refuses(t, y)
			}
		}
	}
}

// Each such field, written out.
func TestEncodeForeignWrittenOut(t *testing.T) {
	for _, x := range []api.Dss{
		{HasMap: true, LongAck: true}, {HasMap: true, Ack: 1}, {HasMap: true, Ack: 1<<64 - 1}, {HasMap: true, Dsn: 1, Ssn: 2, Len: 3, HasSum: true, Sum: 4, Ack: 1 << 32},
		{HasAck: true, Fin: true}, {HasAck: true, LongDsn: true}, {HasAck: true, Dsn: 1}, {HasAck: true, Dsn: 1 << 32}, {HasAck: true, Dsn: 1<<64 - 1},
		{HasAck: true, Ssn: 1}, {HasAck: true, Ssn: 1<<32 - 1}, {HasAck: true, Len: 1}, {HasAck: true, Len: 65535}, {HasAck: true, Len: -1}, {HasAck: true, HasSum: true},
		{HasAck: true, Sum: 1}, {HasAck: true, Sum: 65535}, {HasMap: true, Sum: 1}, {HasMap: true, Sum: 65535}, {HasAck: true, HasMap: true, Len: 1, Sum: 256},
	} {
		refuses(t, x)
	}
}

// What is all there but for HasAck and HasMap is not valid either.
func TestEncodeNothingHad(t *testing.T) {
	for _, base := range shapes() {
		x := full(base)
		x.HasAck, x.HasMap = false, false
		refuses(t, x)
		x.HasSum, x.Sum = false, 0
		refuses(t, x)
	}
}

// P11.2

// Of no byte and of one: all first bytes.
func TestDecodeNoneAndOne(t *testing.T) {
	decodes(t, "", api.Dss{}, api.ErrShort)
	for first := range 256 {
		want := api.ErrKind
		if first/16 == 2 {
			want = api.ErrShort
		}
		decodes(t, string([]byte{byte(first)}), api.Dss{}, want)
	}
}

// The upper half of the first byte is the subtype; the lower one is ignored.
func TestDecodeFirst(t *testing.T) {
	for _, base := range shapes() {
		x := full(base)
		rest := bodyOf(x)[1:]
		for first := range 256 {
			s := string([]byte{byte(first)}) + rest
			if first/16 == 2 {
				decodes(t, s, x, api.OK)
			} else {
				decodes(t, s, api.Dss{}, api.ErrKind)
			}
		}
	}
}

// All second bytes, each with as many bytes as it says, one fewer, and more.
func TestDecodeSecond(t *testing.T) {
	r := rand.New(rand.NewSource(112))
	for second := range 256 {
		for _, fill := range []string{strings.Repeat("\x00", 40), strings.Repeat("\xff", 40), anyText(r, 40)} {
			whole := "\x20" + string([]byte{byte(second)}) + fill
			n := need(byte(second))
			if second&5 == 0 {
				for size := 2; size < 40; size++ {
					decodes(t, whole[:size], api.Dss{}, api.ErrForm)
				}
				continue
			}
			for size := 2; size < n; size++ {
				decodes(t, whole[:size], api.Dss{}, api.ErrShort)
			}
			for _, more := range []int{1, 3, 4, 5, 6, 7, 8, 10} {
				decodes(t, whole[:n+more], api.Dss{}, api.ErrForm)
			}
			want, code := decoded(whole[:n])
			if code != api.OK || want.HasSum {
				t.Fatalf("%x: %+v, %d", whole[:n], want, code)
			}
			decodes(t, whole[:n], want, api.OK)
			if second&4 == 0 {
				decodes(t, whole[:n+2], api.Dss{}, api.ErrForm)
				continue
			}
			want.HasSum, want.Sum = true, binary.BigEndian.Uint16([]byte(whole[n:]))
			decodes(t, whole[:n+2], want, api.OK)
		}
	}
}

// All first bytes, and all second ones, with each number of bytes: also where several errors hold at once.
func TestDecodeAllBytes(t *testing.T) {
	rest := "\x01\x02\x03\x04\x05\x06\x07\x08\xf1\xf2\xf3\xf4\xf5\xf6\xf7\xf8\x0a\x0b\x0c\x0d\x0e\x0f\x10\x11\x12\x13\x14\x15\x16\x17"
	for n := range 33 {
		for first := range 256 {
			for second := range 256 {
				s := (string([]byte{byte(first), byte(second)}) + rest)[:n]
				want, code := decoded(s)
				if got, e := Decode(s); got != want || e != code {
					t.Fatalf("Decode(%x) = %+v, %d, not %+v, %d", s, got, e, want, code)
				}
			}
		}
	}
}

// Texts that are far too long, also where their sizes have the lowest bits of others.
func TestDecodeLong(t *testing.T) {
	for _, more := range []int{32, 64, 128, 256, 512, 65536, 1 << 20} {
		for _, x := range shapes() {
			s := bodyOf(full(x)) + strings.Repeat("\x01", more)
			decodes(t, s, api.Dss{}, api.ErrForm)
			decodes(t, "\x10"+s[1:], api.Dss{}, api.ErrKind)
		}
	}
}

// Where several errors hold, the first one counts.
func TestDecodeOrder(t *testing.T) {
	for _, x := range []struct {
		body string
		want api.Errno
	}{
		{"00", api.ErrKind}, {"10", api.ErrKind}, {"12", api.ErrKind}, {"02", api.ErrKind}, {"30", api.ErrKind}, {"f2", api.ErrKind}, {"21", api.ErrShort}, {"2f", api.ErrShort},
		{"10 00", api.ErrKind}, {"30 20", api.ErrKind}, {"02 01", api.ErrKind}, {"a0 05", api.ErrKind}, {"60 1f", api.ErrKind},
		{"20 02", api.ErrForm}, {"20 08", api.ErrForm}, {"20 10", api.ErrForm}, {"20 1a", api.ErrForm}, {"20 20", api.ErrForm}, {"2f fa", api.ErrForm},
		{"20 01", api.ErrShort}, {"20 04", api.ErrShort}, {"20 05", api.ErrShort}, {"20 1f", api.ErrShort},
		{"10 00 00 00 00 00 00 00 00", api.ErrKind}, {"20 00 01 01 01 01", api.ErrForm}, {"20 1a 01 01 01 01 01 01 01 01 01 01", api.ErrForm},
		{"30 01 00 00 00", api.ErrKind}, {"30 01 00 00 00 00 00", api.ErrKind}, {"30 00 00 00 00 00 00", api.ErrKind},
		{"20 03 00 00 00 00", api.ErrShort}, {"20 03 00 00 00 00 00 00 00", api.ErrShort}, {"20 03 00 00 00 00 00 00 00 00 00", api.ErrForm},
		{"20 01 00 00 00 00 00 00", api.ErrForm}, {"20 03 00 00 00 00 00 00 00 00 00 00", api.ErrForm}, {"20 09 00 00 00 00 00 00", api.ErrForm}, {"20 11 00 00 00 00 00 00", api.ErrForm},
		{"20 04 00 00 00 00 00 00 00 00", api.ErrShort}, {"20 04 00 00 00 00 00 00 00 00 00", api.ErrShort}, {"20 04 00 00 00 00 00 00 00 00 00 00 00", api.ErrForm}, {"20 04 00 00 00 00 00 00 00 00 00 00 00 00 00", api.ErrForm},
		{"20 0c 00 00 00 00 00 00 00 00 00 00", api.ErrShort}, {"20 0c 00 00 00 00 00 00 00 00 00 00 00 00", api.ErrShort}, {"20 05 00 00 00 00 00 00 00 00 00 00", api.ErrShort}, {"20 05 00 00 00 00 00 00 00 00 00 00 00 00", api.ErrShort},
	} {
		decodes(t, digits(t, x.body), api.Dss{}, x.want)
	}
}

// The ignored bits, written out: those of an absent Ack, those of an absent mapping, and those that mean nothing.
func TestIgnoredBits(t *testing.T) {
	const ack, mapping = "\x01\x02\x03\x04", "\x05\x06\x07\x08\x09\x0a\x0b\x0c\x0d\x0e"
	onlyAck := api.Dss{HasAck: true, Ack: 0x01020304}
	onlyMap := api.Dss{HasMap: true, Dsn: 0x05060708, Ssn: 0x090a0b0c, Len: 0x0d0e}
	both := with(onlyMap, onlyAck)
	withFin := both
	withFin.Fin = true
	for _, x := range []struct {
		body, again string
		signal      api.Dss
	}{
		{"\x21\x01" + ack, "\x20\x01" + ack, onlyAck}, {"\x22\x01" + ack, "\x20\x01" + ack, onlyAck}, {"\x24\x01" + ack, "\x20\x01" + ack, onlyAck}, {"\x28\x01" + ack, "\x20\x01" + ack, onlyAck}, {"\x2f\x01" + ack, "\x20\x01" + ack, onlyAck},
		{"\x20\x09" + ack, "\x20\x01" + ack, onlyAck}, {"\x20\x11" + ack, "\x20\x01" + ack, onlyAck}, {"\x20\x19" + ack, "\x20\x01" + ack, onlyAck},
		{"\x20\x21" + ack, "\x20\x01" + ack, onlyAck}, {"\x20\x41" + ack, "\x20\x01" + ack, onlyAck}, {"\x20\x81" + ack, "\x20\x01" + ack, onlyAck}, {"\x2f\xf9" + ack, "\x20\x01" + ack, onlyAck},
		{"\x20\x06" + mapping, "\x20\x04" + mapping, onlyMap}, {"\x20\x24" + mapping, "\x20\x04" + mapping, onlyMap}, {"\x20\x44" + mapping, "\x20\x04" + mapping, onlyMap}, {"\x20\x84" + mapping, "\x20\x04" + mapping, onlyMap}, {"\x2f\xe6" + mapping, "\x20\x04" + mapping, onlyMap},
		{"\x2a\xe5" + ack + mapping, "\x20\x05" + ack + mapping, both}, {"\x25\xf5" + ack + mapping, "\x20\x15" + ack + mapping, withFin},
	} {
		decodes(t, x.body, x.signal, api.OK)
		encodes(t, x.signal, x.again)
	}
}

// Random bytes, of all shapes and of none.
func TestDecodeAny(t *testing.T) {
	r := rand.New(rand.NewSource(113))
	for range 20000 {
		s := anyText(r, r.Intn(33))
		if r.Intn(4) != 0 {
			second := byte(r.Intn(256))
			s = (string([]byte{byte(32 + r.Intn(16)), second}) + anyText(r, 40))[:need(second)+r.Intn(5)-1]
		}
		want, code := decoded(s)
		decodes(t, s, want, code)
	}
}

// P11.3

func TestDecodeInvertsEncode(t *testing.T) {
	r := rand.New(rand.NewSource(114))
	all := valids()
	for range 5000 {
		all = append(all, anySignal(r))
	}
	bodies := map[string]api.Dss{}
	for _, x := range all {
		s, e := Encode(x)
		if e != api.OK {
			t.Fatalf("Encode(%+v) = %x, %d", x, s, e)
		}
		decodes(t, s, x, api.OK)
		if y, twice := bodies[s]; twice && y != x {
			t.Errorf("%+v and %+v have the same body", x, y)
		}
		bodies[s] = x
	}
}

// What was decoded has the same bytes again, but for the ignored bits, which are 0 then.
func TestEncodeInvertsDecode(t *testing.T) {
	r := rand.New(rand.NewSource(115))
	for first := range 16 {
		for second := range 256 {
			if second&5 == 0 {
				continue
			}
			n := need(byte(second))
			s := string([]byte{byte(32 + first), byte(second)}) + anyText(r, n)
			for _, size := range []int{n, n + 2} {
				x, e := Decode(s[:size])
				if size > n && second&4 == 0 {
					if e != api.ErrForm {
						t.Errorf("Decode(%x): %d", s[:size], e)
					}
					continue
				}
				if e != api.OK {
					t.Fatalf("Decode(%x): %d", s[:size], e)
				}
				again := cleared(s[:size])
				encodes(t, x, again)
				decodes(t, again, x, api.OK)
			}
		}
	}
}

// A number that would fit into 4 bytes has 8 again, if it had 8.
func TestLongStaysLong(t *testing.T) {
	for _, body := range []string{
		"20 03 00 00 00 00 00 00 00 01",
		"20 0c 00 00 00 00 00 00 00 02 00 00 00 03 00 04",
		"20 0f 00 00 00 00 00 00 00 01 00 00 00 00 00 00 00 02 00 00 00 03 00 04 00 00",
	} {
		s := digits(t, body)
		x, e := Decode(s)
		if e != api.OK {
			t.Errorf("Decode(%x): %d", s, e)
		}
		encodes(t, x, s)
	}
}

// Results depend on the arguments alone, whatever was computed before.
func TestAgain(t *testing.T) {
	for range 3 {
		for _, base := range shapes() {
			x := full(base)
			encodes(t, x, bodyOf(x))
			refuses(t, api.Dss{HasAck: true, Sum: 1})
			decodes(t, bodyOf(x), x, api.OK)
			decodes(t, bodyOf(x)[:5], api.Dss{}, api.ErrShort)
			decodes(t, "", api.Dss{}, api.ErrShort)
		}
	}
}

// The ways

// A body's methods read what its cursor has next, and write behind what was written.
func TestBody(t *testing.T) {
	b := &body{Cursor: cursor.Read("\x01\x02\x03\x04\x05\x06\x07\x08\x09\x0a\x0b\x0c\x0d")}
	next := reader(b.U32, b.U64)
	if got := next(false); got != 0x01020304 {
		t.Errorf("a number of 4 bytes is %x", got)
	}
	if got := next(true); got != 0x05060708090a0b0c {
		t.Errorf("a number of 8 bytes is %x", got)
	}
	if got := next(false); got != 0 || b.End() != api.ErrShort {
		t.Errorf("a number that is not there is %x", got)
	}
	put := writer(b.put32, b.put64)
	put(258, false)
	b.put8(7)
	put(258, true)
	b.put16(9)
	if want := "\x00\x00\x01\x02\x07\x00\x00\x00\x00\x00\x00\x01\x02\x00\x09"; b.text != want {
		t.Errorf("%x, not %x", b.text, want)
	}
}

// Of a valid signal everything is its own; of one that has nothing, nothing is.
func TestOwned(t *testing.T) {
	for _, base := range shapes() {
		x := full(base)
		if got := owned(x); got != x {
			t.Errorf("of %+v its own is %+v", x, got)
		}
		x.HasAck, x.HasMap = false, false
		if got := owned(x); got != (api.Dss{}) {
			t.Errorf("of %+v its own is %+v", x, got)
		}
	}
}
