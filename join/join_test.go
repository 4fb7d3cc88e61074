package join

import (
	"encoding/binary"
	"encoding/hex"
	"math"
	"math/rand"
	"slices"
	"strings"
	"testing"

	"plait/api"
)

// bodySizes and macSizes are how many bytes the bodies of the forms, and their Macs, have, as the document's table says.
var (
	bodySizes = []int{api.JoinSyn: 10, api.JoinAnswer: 14, api.JoinThird: 22}
	macSizes  = []int{api.JoinSyn: 0, api.JoinAnswer: 8, api.JoinThird: 20}
)

// What the fields of options are, each in all of its ways; and ints that are neither forms nor identifiers.
var (
	idList     = []int{0, 1, 255}
	numberList = []uint32{0, 1, 258, 1<<32 - 1}
	bools      = []bool{false, true}
	noInts     = []int{math.MinInt, math.MinInt + 1, -1 << 32, -1<<32 + 1, -256, -255, -1, 256, 257, 258, 1 << 16, 1 << 32, 1<<32 + 1, 1<<32 + 2, math.MaxInt - 1, math.MaxInt}
)

// macList are Macs of n bytes: of all bytes 0, of all bytes 255, and of mixed ones.
func macList(n int) []string {
	if n == 0 {
		return []string{""}
	}
	return []string{strings.Repeat("\x00", n), strings.Repeat("\xff", n), mixed(n)}
}

// mixed are n bytes that are unlike.
func mixed(n int) string {
	b := make([]byte, n)
	for k := range b {
		b[k] = byte(0x81 + 7*k)
	}
	return string(b)
}

// only is x with the fields that its form has, by the document's table, and nothing else; its Mac is filled with zeros, or cut.
func only(x api.Join) api.Join {
	x.Mac = (x.Mac + strings.Repeat("\x00", 20))[:macSizes[x.Form]]
	switch x.Form {
	case api.JoinAnswer:
		x.Token = 0
	case api.JoinThird:
		x.Backup, x.Id, x.Token, x.Nonce = false, 0, 0, 0
	}
	return x
}

// plain is the option of a form of which all fields are zero.
func plain(form int) api.Join { return only(api.Join{Form: form}) }

// full is one of which none is.
func full(form int) api.Join {
	return only(api.Join{Form: form, Backup: true, Id: 2, Token: 0x01020304, Nonce: 0xf1f2f3f4, Mac: mixed(20)})
}

// bodyOf is the body of a valid option, by the library.
func bodyOf(x api.Join) string {
	b := []byte{16, byte(x.Id)}
	if x.Backup {
		b[0] = 17
	}
	if x.Form == api.JoinSyn {
		b = binary.BigEndian.AppendUint32(b, x.Token)
	}
	b = append(b, x.Mac...)
	if x.Form != api.JoinThird {
		b = binary.BigEndian.AppendUint32(b, x.Nonce)
	}
	return string(b)
}

// decoded is what Decode must return, by the words of the document.
func decoded(s string) (api.Join, api.Errno) {
	switch {
	case len(s) == 0:
		return api.Join{}, api.ErrShort
	case s[0]&0xf0 != 0x10:
		return api.Join{}, api.ErrKind
	case !slices.Contains(bodySizes, len(s)):
		return api.Join{}, api.ErrForm
	}
	x := api.Join{Form: slices.Index(bodySizes, len(s)), Backup: s[0]&1 != 0, Id: int(s[1])}
	switch x.Form {
	case api.JoinSyn:
		x.Token, x.Nonce = binary.BigEndian.Uint32([]byte(s[2:6])), binary.BigEndian.Uint32([]byte(s[6:]))
	case api.JoinAnswer:
		x.Mac, x.Nonce = s[2:10], binary.BigEndian.Uint32([]byte(s[10:]))
	case api.JoinThird:
		x = api.Join{Form: api.JoinThird, Mac: s[2:]}
	}
	return x, api.OK
}

// cleared is a body of ours with the ignored bits 0.
func cleared(s string) string {
	b := []byte(s)
	b[0] &= 0xf1
	if len(b) == 22 {
		b[0], b[1] = b[0]&0xf0, 0
	}
	return string(b)
}

// valids are options of all forms, with their fields in all ways; each once.
func valids() []api.Join {
	var all []api.Join
	seen := map[api.Join]bool{}
	for form, n := range macSizes {
		for _, backup := range bools {
			for _, id := range idList {
				for _, token := range numberList {
					for _, nonce := range numberList {
						for _, mac := range macList(n) {
							x := only(api.Join{Form: form, Backup: backup, Id: id, Token: token, Nonce: nonce, Mac: mac})
							if !seen[x] {
								seen[x] = true
								all = append(all, x)
							}
						}
					}
				}
			}
		}
	}
	return all
}

// anyOption is a valid one.
func anyOption(r *rand.Rand) api.Join {
	return only(api.Join{
		Form: r.Intn(api.JoinForms), Backup: r.Intn(2) == 0, Id: r.Intn(256),
		Token: r.Uint32() >> r.Intn(32), Nonce: r.Uint32() >> r.Intn(32), Mac: anyText(r, 20),
	})
}

// anyText are n bytes.
func anyText(r *rand.Rand, n int) string {
	b := make([]byte, n)
	r.Read(b)
	return string(b)
}

// digits are the bytes of hexadecimal digits, which may be told apart by spaces.
func digits(t *testing.T, s string) string {
	t.Helper()
	b, err := hex.DecodeString(strings.ReplaceAll(s, " ", ""))
	if err != nil {
		t.Fatal(err)
	}
	return string(b)
}

// encodes checks that Encode returns this body.
func encodes(t *testing.T, x api.Join, want string) {
	t.Helper()
	if got, e := Encode(x); got != want || e != api.OK {
		t.Errorf("Encode(%+v) = %x, %d, not %x", x, got, e, want)
	}
}

// refuses checks that Encode returns nothing, and ErrArg.
func refuses(t *testing.T, x api.Join) {
	t.Helper()
	if got, e := Encode(x); got != "" || e != api.ErrArg {
		t.Errorf("Encode(%+v) = %x, %d, not ErrArg", x, got, e)
	}
}

// decodes checks what Decode returns.
func decodes(t *testing.T, s string, want api.Join, code api.Errno) {
	t.Helper()
	if got, e := Decode(s); got != want || e != code {
		t.Errorf("Decode(%x) = %+v, %d, not %+v, %d", s, got, e, want, code)
	}
}

// The chapter's examples

func TestExamples(t *testing.T) {
	for _, x := range []struct {
		option api.Join
		body   string
	}{
		{api.Join{Form: api.JoinSyn, Backup: true, Id: 2, Token: 258, Nonce: 5}, "11 02 00 00 01 02 00 00 00 05"},
		{api.Join{Form: api.JoinAnswer, Id: 3, Mac: "abcdefgh", Nonce: 1}, "10 03 61 62 63 64 65 66 67 68 00 00 00 01"},
		{api.Join{Form: api.JoinThird, Mac: strings.Repeat("z", 20)}, "10 00" + strings.Repeat("7a", 20)},
	} {
		encodes(t, x.option, digits(t, x.body))
		decodes(t, digits(t, x.body), x.option, api.OK)
	}
	decodes(t, "", api.Join{}, api.ErrShort)
	decodes(t, digits(t, "20"), api.Join{}, api.ErrKind)
	decodes(t, digits(t, "10 02"), api.Join{}, api.ErrForm)
	decodes(t, digits(t, "1f 02"+strings.Repeat("00", 8)), api.Join{Form: api.JoinSyn, Backup: true, Id: 2}, api.OK)
}

// P10.1

func TestBytes(t *testing.T) {
	for form, want := range bodySizes {
		if got := Bytes(form); got != want {
			t.Errorf("Bytes(%d) = %d, not %d", form, got, want)
		}
	}
	for _, form := range append([]int{-3, -2, 3, 4, 8, 10, 14, 20, 22, 255}, noInts...) {
		if got := Bytes(form); got != 0 {
			t.Errorf("Bytes(%d) = %d, not 0", form, got)
		}
	}
}

// Bodies of all forms, written out.
func TestEncodeForms(t *testing.T) {
	for _, x := range []struct {
		option api.Join
		body   string
	}{
		{api.Join{}, "10 00 00 00 00 00 00 00 00 00"},
		{api.Join{Form: api.JoinSyn, Backup: true}, "11 00 00 00 00 00 00 00 00 00"},
		{api.Join{Form: api.JoinSyn, Id: 255, Token: 0x01020304, Nonce: 0xf1f2f3f4}, "10 ff 01 02 03 04 f1 f2 f3 f4"},
		{api.Join{Form: api.JoinSyn, Backup: true, Id: 16, Token: 1<<32 - 1}, "11 10 ff ff ff ff 00 00 00 00"},
		{api.Join{Form: api.JoinSyn, Id: 1, Nonce: 1<<32 - 1}, "10 01 00 00 00 00 ff ff ff ff"},
		{api.Join{Form: api.JoinAnswer, Backup: true, Id: 255, Mac: "\x00\x00\x00\x00\x00\x00\x00\x00"}, "11 ff 00 00 00 00 00 00 00 00 00 00 00 00"},
		{api.Join{Form: api.JoinAnswer, Mac: "\xf1\x02\xf3\x04\xf5\x06\xf7\x08", Nonce: 0x0a0b0c0d}, "10 00 f1 02 f3 04 f5 06 f7 08 0a 0b 0c 0d"},
		{api.Join{Form: api.JoinAnswer, Backup: true, Id: 1, Mac: "\xff\xff\xff\xff\xff\xff\xff\xff", Nonce: 258}, "11 01 ff ff ff ff ff ff ff ff 00 00 01 02"},
		{api.Join{Form: api.JoinThird, Mac: strings.Repeat("\x00", 20)}, "10 00" + strings.Repeat("00", 20)},
		{api.Join{Form: api.JoinThird, Mac: strings.Repeat("\xff", 20)}, "10 00" + strings.Repeat("ff", 20)},
		{api.Join{Form: api.JoinThird, Mac: "abcdefghijklmnopqrst"}, "10 00 61 62 63 64 65 66 67 68 69 6a 6b 6c 6d 6e 6f 70 71 72 73 74"},
	} {
		encodes(t, x.option, digits(t, x.body))
		decodes(t, digits(t, x.body), x.option, api.OK)
	}
}

func TestEncode(t *testing.T) {
	all := valids()
	if want := 2*3*4*4 + 2*3*4*3 + 3; len(all) != want {
		t.Fatalf("%d options, not %d", len(all), want)
	}
	for _, x := range all {
		encodes(t, x, bodyOf(x))
	}
	r := rand.New(rand.NewSource(101))
	for range 5000 {
		x := anyOption(r)
		encodes(t, x, bodyOf(x))
	}
}

// A body has as many bytes as Bytes says.
func TestEncodeHasBytes(t *testing.T) {
	for _, x := range valids() {
		if s, _ := Encode(x); len(s) != Bytes(x.Form) {
			t.Errorf("Encode(%+v) has %d bytes, not %d", x, len(s), Bytes(x.Form))
		}
	}
}

// All identifiers have a body, and so has each bit of a number alone.
func TestEncodeAllNumbers(t *testing.T) {
	for _, form := range []int{api.JoinSyn, api.JoinAnswer} {
		for _, base := range []api.Join{plain(form), full(form)} {
			for id := range 256 {
				x := base
				x.Id = id
				encodes(t, x, bodyOf(x))
			}
			for k := range 32 {
				x, y := base, base
				x.Nonce, y.Token = 1<<k, 1<<k
				encodes(t, x, bodyOf(x))
				if form == api.JoinSyn {
					encodes(t, y, bodyOf(y))
				}
			}
		}
	}
}

// Options that are not valid, each for one reason alone.

func TestEncodeForm(t *testing.T) {
	for _, form := range append([]int{-3, -2, 3, 4, 255}, noInts...) {
		for k := range bodySizes {
			for _, x := range []api.Join{plain(k), full(k)} {
				x.Form = form
				refuses(t, x)
			}
		}
	}
}

func TestEncodeId(t *testing.T) {
	for form := range bodySizes {
		for _, x := range []api.Join{plain(form), full(form)} {
			encodes(t, x, bodyOf(x))
			for _, id := range noInts {
				x.Id = id
				refuses(t, x)
			}
		}
	}
}

// A Mac has just as many bytes as its form's has: also where a body with another one would be as long as that of another form.
func TestEncodeMac(t *testing.T) {
	for form, size := range macSizes {
		for _, x := range []api.Join{plain(form), full(form)} {
			encodes(t, x, bodyOf(x))
			for n := range 65 {
				for _, mac := range macList(n) {
					x.Mac = mac
					if n == size {
						encodes(t, x, bodyOf(x))
					} else {
						refuses(t, x)
					}
				}
			}
			for _, n := range []int{256 + size, 65536 + size} {
				x.Mac = mixed(n)
				refuses(t, x)
			}
		}
	}
}

// Each Mac that is a byte too short, a byte too long, empty, or another form's, written out.
func TestEncodeMacWrittenOut(t *testing.T) {
	for _, x := range []api.Join{
		{Form: api.JoinSyn, Mac: "a"}, {Form: api.JoinSyn, Mac: "\x00"}, {Form: api.JoinSyn, Mac: "abcdefgh"}, {Form: api.JoinSyn, Mac: "abcdefghijklmnopqrst"},
		{Form: api.JoinAnswer}, {Form: api.JoinAnswer, Mac: "abcdefg"}, {Form: api.JoinAnswer, Mac: "abcdefghi"}, {Form: api.JoinAnswer, Mac: "abcdefghijklmnopqrst"},
		{Form: api.JoinThird}, {Form: api.JoinThird, Mac: "abcdefghijklmnopqrs"}, {Form: api.JoinThird, Mac: "abcdefghijklmnopqrstu"}, {Form: api.JoinThird, Mac: "abcdefgh"},
	} {
		refuses(t, x)
	}
}

// A field that a form does not have is 0, or false.
func TestEncodeFields(t *testing.T) {
	for form := range bodySizes {
		for _, base := range []api.Join{plain(form), full(form)} {
			changed := []api.Join{base}
			for k := range 32 {
				token, nonce := base, base
				token.Token, nonce.Nonce = 1<<k, 1<<k
				changed = append(changed, token, nonce)
			}
			for _, n := range numberList {
				token, nonce := base, base
				token.Token, nonce.Nonce = n, n
				changed = append(changed, token, nonce)
			}
			for id := range 256 {
				x := base
				x.Id = id
				changed = append(changed, x)
			}
			for _, backup := range bools {
				x := base
				x.Backup = backup
				changed = append(changed, x)
			}
			for _, x := range changed {
				if only(x) == x {
					encodes(t, x, bodyOf(x))
				} else {
					refuses(t, x)
				}
			}
		}
	}
}

// Each such field, written out.
func TestEncodeFieldsWrittenOut(t *testing.T) {
	const answer, third = "abcdefgh", "abcdefghijklmnopqrst"
	for _, x := range []api.Join{
		{Form: api.JoinAnswer, Mac: answer, Token: 1}, {Form: api.JoinAnswer, Mac: answer, Token: 1<<32 - 1}, {Form: api.JoinAnswer, Backup: true, Id: 1, Mac: answer, Nonce: 2, Token: 258},
		{Form: api.JoinThird, Mac: third, Backup: true},
		{Form: api.JoinThird, Mac: third, Id: 1}, {Form: api.JoinThird, Mac: third, Id: 255},
		{Form: api.JoinThird, Mac: third, Token: 1}, {Form: api.JoinThird, Mac: third, Token: 1<<32 - 1},
		{Form: api.JoinThird, Mac: third, Nonce: 1}, {Form: api.JoinThird, Mac: third, Nonce: 1<<32 - 1},
	} {
		refuses(t, x)
	}
}

// P10.2

func TestDecodeSizes(t *testing.T) {
	r := rand.New(rand.NewSource(102))
	for n := range 31 {
		want := api.ErrForm
		switch n {
		case 0:
			want = api.ErrShort
		case 10, 14, 22:
			want = api.OK
		}
		for _, fill := range []string{strings.Repeat("\x00", n), strings.Repeat("\x10", n), strings.Repeat("\xff", n), anyText(r, n)} {
			for _, first := range []string{"\x10", "\x11", "\x1f"} {
				s := (first + fill)[:n]
				if got, e := Decode(s); e != want || e != api.OK && got != (api.Join{}) {
					t.Errorf("Decode(%x), %d bytes: %+v, %d, not %d", s, n, got, e, want)
				}
				option, code := decoded(s)
				decodes(t, s, option, code)
			}
		}
	}
}

// Texts that are far too long, also where their sizes have the lowest bits of others.
func TestDecodeLong(t *testing.T) {
	for _, more := range []int{32, 64, 128, 256, 512, 65536, 1 << 20} {
		for _, size := range append([]int{0, 1}, bodySizes...) {
			s := "\x11" + strings.Repeat("\x01", more+size-1)
			decodes(t, s, api.Join{}, api.ErrForm)
			decodes(t, "\x21"+s[1:], api.Join{}, api.ErrKind)
		}
	}
}

// All first bytes, and all second ones, with each number of bytes: also where several errors hold at once.
func TestDecodeAllBytes(t *testing.T) {
	rest := "\x01\x02\x03\x04\x05\x06\x07\x08\xf1\xf2\xf3\xf4\xf5\xf6\xf7\xf8\x0a\x0b\x0c\x0d\x0e\x0f\x10\x11\x12\x13\x14\x15"
	for n := range 31 {
		for first := range 256 {
			for second := range 256 {
				s := (string([]byte{byte(first), byte(second)}) + rest)[:n]
				want, code := decoded(s)
				if got, e := Decode(s); got != want || e != code {
					t.Fatalf("Decode(%x) = %+v, %d, not %+v, %d", s, got, e, want, code)
				}
			}
		}
	}
}

// The upper half of the first byte is the subtype; of the lower one its lowest bit counts, and for JoinThird none.
func TestDecodeFirst(t *testing.T) {
	for form, size := range bodySizes {
		for n := range 256 {
			s := string([]byte{byte(n), 0}) + strings.Repeat("\x00", size-2)
			want := plain(form)
			want.Backup = n%2 == 1 && form != api.JoinThird
			if n/16 == 1 {
				decodes(t, s, want, api.OK)
			} else {
				decodes(t, s, api.Join{}, api.ErrKind)
			}
		}
	}
}

// The second byte is the identifier, whatever it is; for JoinThird it is ignored.
func TestDecodeSecond(t *testing.T) {
	for n := range 256 {
		two := string([]byte{0x10, byte(n)})
		decodes(t, two+"\x01\x02\x03\x04\x05\x06\x07\x08", api.Join{Form: api.JoinSyn, Id: n, Token: 0x01020304, Nonce: 0x05060708}, api.OK)
		decodes(t, two+"abcdefgh\x05\x06\x07\x08", api.Join{Form: api.JoinAnswer, Id: n, Mac: "abcdefgh", Nonce: 0x05060708}, api.OK)
		decodes(t, two+"abcdefghijklmnopqrst", api.Join{Form: api.JoinThird, Mac: "abcdefghijklmnopqrst"}, api.OK)
	}
}

// An option of which all fields are 0 is one, too.
func TestDecodeZero(t *testing.T) {
	for form, size := range bodySizes {
		decodes(t, "\x10"+strings.Repeat("\x00", size-1), plain(form), api.OK)
	}
	decodes(t, strings.Repeat("\x00", 10), api.Join{}, api.ErrKind)
}

// Where several errors hold, the first one counts.
func TestDecodeOrder(t *testing.T) {
	for _, x := range []struct {
		body string
		want api.Errno
	}{
		{"00", api.ErrKind}, {"01", api.ErrKind}, {"0f", api.ErrKind}, {"20", api.ErrKind}, {"f1", api.ErrKind},
		{"10", api.ErrForm}, {"11", api.ErrForm}, {"1f", api.ErrForm},
		{"00 10", api.ErrKind}, {"30 02", api.ErrKind}, {"90 00", api.ErrKind}, {"1e 20", api.ErrForm},
		{"00" + strings.Repeat("10", 8), api.ErrKind}, {"11" + strings.Repeat("20", 8), api.ErrForm},
		{"20" + strings.Repeat("10", 9), api.ErrKind}, {"20" + strings.Repeat("10", 10), api.ErrKind}, {"11" + strings.Repeat("20", 10), api.ErrForm},
		{"21" + strings.Repeat("10", 12), api.ErrKind}, {"10" + strings.Repeat("20", 12), api.ErrForm},
		{"51" + strings.Repeat("10", 13), api.ErrKind}, {"51" + strings.Repeat("10", 14), api.ErrKind}, {"10" + strings.Repeat("20", 14), api.ErrForm},
		{"01" + strings.Repeat("10", 21), api.ErrKind}, {"81" + strings.Repeat("10", 22), api.ErrKind}, {"10" + strings.Repeat("20", 22), api.ErrForm}, {"10" + strings.Repeat("20", 20), api.ErrForm},
	} {
		decodes(t, digits(t, x.body), api.Join{}, x.want)
	}
}

// Random bytes, of all forms and of none.
func TestDecodeAny(t *testing.T) {
	r := rand.New(rand.NewSource(103))
	for range 20000 {
		s := anyText(r, r.Intn(31))
		if r.Intn(4) != 0 {
			s = (string([]byte{byte(16 + r.Intn(16))}) + anyText(r, 29))[:bodySizes[r.Intn(len(bodySizes))]]
		}
		want, code := decoded(s)
		decodes(t, s, want, code)
	}
}

// P10.3

func TestDecodeInvertsEncode(t *testing.T) {
	r := rand.New(rand.NewSource(104))
	all := valids()
	for range 5000 {
		all = append(all, anyOption(r))
	}
	for _, x := range all {
		s, e := Encode(x)
		if e != api.OK {
			t.Fatalf("Encode(%+v) = %x, %d", x, s, e)
		}
		decodes(t, s, x, api.OK)
	}
}

// What was decoded has the same bytes again, but for the ignored bits, which are 0 then.
func TestEncodeInvertsDecode(t *testing.T) {
	r := rand.New(rand.NewSource(105))
	for _, size := range bodySizes {
		for first := range 16 {
			for second := range 256 {
				s := string([]byte{byte(16 + first), byte(second)}) + anyText(r, size-2)
				x, e := Decode(s)
				if e != api.OK {
					t.Fatalf("Decode(%x): %d", s, e)
				}
				again := cleared(s)
				encodes(t, x, again)
				decodes(t, again, x, api.OK)
			}
		}
	}
}

// The ignored bits, written out.
func TestIgnoredBits(t *testing.T) {
	const numbers, mac = "\x01\x02\x03\x04\x05\x06\x07\x08", "abcdefghijklmnopqrst"
	for _, x := range []struct{ body, again string }{
		{"\x1e\x07" + numbers, "\x10\x07" + numbers},
		{"\x1f\x07" + numbers, "\x11\x07" + numbers},
		{"\x1e\xff" + numbers + "abcd", "\x10\xff" + numbers + "abcd"},
		{"\x13\xff" + numbers + "abcd", "\x11\xff" + numbers + "abcd"},
		{"\x1f\xff" + mac, "\x10\x00" + mac},
		{"\x11\x00" + mac, "\x10\x00" + mac},
		{"\x10\x01" + mac, "\x10\x00" + mac},
	} {
		option, e := Decode(x.body)
		if e != api.OK {
			t.Errorf("Decode(%x): %d", x.body, e)
		}
		encodes(t, option, x.again)
	}
}

// The bodies of two options are equal exactly if the options are.
func TestEqualBodies(t *testing.T) {
	all := valids()
	r := rand.New(rand.NewSource(106))
	for range 300 {
		x := anyOption(r)
		all = append(all, x, x)
	}
	bodies := make([]string, len(all))
	for k, x := range all {
		bodies[k], _ = Encode(x)
	}
	for k, x := range all {
		for j, y := range all {
			if (x == y) != (bodies[k] == bodies[j]) {
				t.Errorf("%+v and %+v have the bodies %x and %x", x, y, bodies[k], bodies[j])
			}
		}
	}
}

// Options that differ in one field alone, by one bit, have bodies that differ.
func TestUnlikeBodies(t *testing.T) {
	for form := range bodySizes {
		x := full(form)
		var near []api.Join
		for k := range 32 {
			id, token, nonce := x, x, x
			id.Id, token.Token, nonce.Nonce = x.Id^1<<(k%8), x.Token^1<<k, x.Nonce^1<<k
			near = append(near, only(id), only(token), only(nonce))
		}
		for k := range 8 * len(x.Mac) {
			b := []byte(x.Mac)
			b[k/8] ^= 1 << (k % 8)
			mac := x
			mac.Mac = string(b)
			near = append(near, mac)
		}
		backup := x
		backup.Backup = !x.Backup
		near = append(near, only(backup))
		s, _ := Encode(x)
		for _, y := range near {
			if u, e := Encode(y); e != api.OK || (u == s) != (x == y) {
				t.Errorf("%+v and %+v have the bodies %x and %x (%d)", x, y, s, u, e)
			}
		}
	}
}

// Results depend on the arguments alone, whatever was computed before.
func TestAgain(t *testing.T) {
	for range 3 {
		for form := range bodySizes {
			x := full(form)
			encodes(t, x, bodyOf(x))
			refuses(t, api.Join{Form: form, Mac: "a"})
			decodes(t, bodyOf(x), x, api.OK)
			decodes(t, bodyOf(x)[:9], api.Join{}, api.ErrForm)
			decodes(t, "", api.Join{}, api.ErrShort)
		}
	}
}

// The ways

// What is read of a body that has no form's number of bytes is zero; of any other it is not, even if the option is.
func TestRead(t *testing.T) {
	for n := range 31 {
		for _, s := range []string{strings.Repeat("\x00", n), strings.Repeat("\xff", n)} {
			if got := read(s); (got == content{}) == slices.Contains(bodySizes, n) {
				t.Errorf("of %d bytes, %x, is read %+v", n, s, got)
			}
		}
	}
}

// Of a valid option nothing is foreign to its form.
func TestForeign(t *testing.T) {
	for form := range bodySizes {
		if got := foreign(full(form)); got != (api.Join{}) {
			t.Errorf("of the form %d, %+v is foreign", form, got)
		}
	}
}
