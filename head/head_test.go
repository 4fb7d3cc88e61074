package head

import (
	"encoding/binary"
	"encoding/hex"
	"math"
	"math/rand"
	"strings"
	"testing"

	"plait/api"
)

// example is the segment of the chapter's examples; exampleHex are its bytes.
var example = api.Seg{Src: 1, Dst: 2, Seq: 3, Ack: 4, Syn: true, AckOn: true, Window: 5, Data: "a"}

const exampleHex = "000100020000000300000004501200054ede000061"

// bytesOf are the bytes that a text of hexadecimal digits says.
func bytesOf(digits string) string {
	b, err := hex.DecodeString(digits)
	if err != nil {
		panic(err)
	}
	return string(b)
}

// counted is the sum of the words of b in another way: whatever is beyond 16 bits is added again, word by word.
func counted(b []byte) uint16 {
	n := 0
	for k, x := range b {
		n += int(x) << (8 * (1 - k%2))
		n = n>>16 + n&0xffff
	}
	return uint16(n)
}

// sealed is b with the checksum in it that makes it whole.
func sealed(b []byte) string {
	b = append([]byte(nil), b...)
	b[16], b[17] = 0, 0
	binary.BigEndian.PutUint16(b[16:], 65535-counted(b))
	return string(b)
}

// built is what Lay should return, in another way: each field at its place, and the checksum at the end.
func built(x api.Seg) (string, api.Errno) {
	if len(x.Area) > 40 || len(x.Area)%4 != 0 || len(x.Data) > 1024 {
		return "", api.ErrRoom
	}
	b := make([]byte, 20)
	binary.BigEndian.PutUint16(b[0:], x.Src)
	binary.BigEndian.PutUint16(b[2:], x.Dst)
	binary.BigEndian.PutUint32(b[4:], x.Seq)
	binary.BigEndian.PutUint32(b[8:], x.Ack)
	b[12] = byte(80 + 4*len(x.Area))
	if x.Fin {
		b[13] += 1
	}
	if x.Syn {
		b[13] += 2
	}
	if x.Rst {
		b[13] += 4
	}
	if x.AckOn {
		b[13] += 16
	}
	binary.BigEndian.PutUint16(b[14:], x.Window)
	return sealed(append(append(b, x.Area...), x.Data...)), api.OK
}

// taken is what Parse should return, in another way: each condition by itself, in the document's order, and each field from its place.
func taken(s string) (api.Seg, api.Errno) {
	b := []byte(s)
	if len(b) < 20 {
		return api.Seg{}, api.ErrShort
	}
	if b[12] < 80 || b[12]%16 != 0 {
		return api.Seg{}, api.ErrForm
	}
	before := int(b[12]) / 4
	if len(b) < before {
		return api.Seg{}, api.ErrShort
	}
	if b[13]&(8+32+64+128) != 0 || b[18] != 0 || b[19] != 0 {
		return api.Seg{}, api.ErrForm
	}
	if len(b) > before+1024 {
		return api.Seg{}, api.ErrRoom
	}
	if counted(b) != 65535 {
		return api.Seg{}, api.ErrSum
	}
	return api.Seg{
		Src: binary.BigEndian.Uint16(b), Dst: binary.BigEndian.Uint16(b[2:]),
		Seq: binary.BigEndian.Uint32(b[4:]), Ack: binary.BigEndian.Uint32(b[8:]),
		Fin: b[13]&1 != 0, Syn: b[13]&2 != 0, Rst: b[13]&4 != 0, AckOn: b[13]&16 != 0,
		Window: binary.BigEndian.Uint16(b[14:]),
		Area:   string(b[20:before]), Data: string(b[before:]),
	}, api.OK
}

// short is a text as far as a message should tell it.
func short(s string) string {
	if len(s) > 80 {
		return hex.EncodeToString([]byte(s[:80])) + ".."
	}
	return hex.EncodeToString([]byte(s))
}

// tryLay checks Lay of x.
func tryLay(t *testing.T, x api.Seg, want string, code api.Errno) {
	t.Helper()
	if got, err := Lay(x); got != want || err != code {
		t.Errorf("Lay(%#v) = %s, %v, not %s, %v", x, short(got), err, short(want), code)
	}
}

// tryParse checks Parse of s.
func tryParse(t *testing.T, s string, want api.Seg, code api.Errno) {
	t.Helper()
	if got, err := Parse(s); got != want || err != code {
		t.Errorf("Parse(%s), %d bytes, = %#v, %v, not %#v, %v", short(s), len(s), got, err, want, code)
	}
}

// tryWrong checks that s is not a segment, for that reason, and that nothing is returned with it.
func tryWrong(t *testing.T, s string, code api.Errno) {
	t.Helper()
	tryParse(t, s, api.Seg{}, code)
}

// flagged is x with the flags of the set k, one bit for each.
func flagged(x api.Seg, k int) api.Seg {
	x.Fin, x.Syn, x.Rst, x.AckOn = k&1 != 0, k&2 != 0, k&4 != 0, k&8 != 0
	return x
}

// random is a text of n bytes; of the bytes 0 and 255 only, if edges is set.
func random(r *rand.Rand, n int, edges bool) string {
	b := make([]byte, n)
	r.Read(b)
	for k := range b {
		if edges {
			b[k] = -(b[k] & 1)
		}
	}
	return string(b)
}

// segs are segments that can be encoded: of all sets of flags, numbers at their ends and between them, and all sizes; always the same.
func segs() []api.Seg {
	all := []api.Seg{{}, example}
	ends := [][2]uint32{{0, 0}, {math.MaxUint16, math.MaxUint32}, {1, 1}, {256, 1 << 24}, {255, 0x0102_0304}, {0x8000, 1 << 31}}
	areas, datas := []int{0, 4, 36, 40}, []int{0, 1, 2, 3, 255, 1023, 1024}
	r := rand.New(rand.NewSource(1))
	for k := range 2000 {
		x := flagged(api.Seg{}, k)
		if k%2 == 0 {
			x.Src, x.Dst, x.Window = uint16(r.Uint32()), uint16(r.Uint32()), uint16(r.Uint32())
			x.Seq, x.Ack = r.Uint32(), r.Uint32()
			x.Area, x.Data = random(r, 4*r.Intn(11), false), random(r, r.Intn(60), false)
		} else {
			x.Src, x.Dst, x.Window = uint16(ends[r.Intn(6)][0]), uint16(ends[r.Intn(6)][0]), uint16(ends[r.Intn(6)][0])
			x.Seq, x.Ack = ends[r.Intn(6)][1], ends[r.Intn(6)][1]
			x.Area, x.Data = random(r, areas[r.Intn(4)], k%4 == 1), random(r, datas[r.Intn(7)], k%4 == 1)
		}
		all = append(all, x)
	}
	return all
}

// P5.1

func TestLayExamples(t *testing.T) {
	tryLay(t, example, bytesOf(exampleHex), api.OK)
	x := example
	x.Area = "abc"
	tryLay(t, x, "", api.ErrRoom)
}

// Each field is at its place, with the more significant byte first, and nowhere else.
func TestLayPlaces(t *testing.T) {
	for _, c := range []struct {
		x      api.Seg
		digits string
	}{
		{api.Seg{}, "0000000000000000000000005000000000000000"},
		{api.Seg{Src: 0x0102}, "0102000000000000000000005000000000000000"},
		{api.Seg{Dst: 0x0304}, "0000030400000000000000005000000000000000"},
		{api.Seg{Seq: 0x05060708}, "0000000005060708000000005000000000000000"},
		{api.Seg{Ack: 0x090a0b0c}, "0000000000000000090a0b0c5000000000000000"},
		{api.Seg{Fin: true}, "0000000000000000000000005001000000000000"},
		{api.Seg{Syn: true}, "0000000000000000000000005002000000000000"},
		{api.Seg{Rst: true}, "0000000000000000000000005004000000000000"},
		{api.Seg{AckOn: true}, "0000000000000000000000005010000000000000"},
		{api.Seg{Window: 0x0d0e}, "00000000000000000000000050000d0e00000000"},
		{api.Seg{Area: "\x01\x02\x03\x04"}, "000000000000000000000000600000000000000001020304"},
		{api.Seg{Data: "\x01\x02\x03"}, "0000000000000000000000005000000000000000010203"},
		{api.Seg{Area: "abcdefgh", Data: "ij"}, "0000000000000000000000007000000000000000" + "6162636465666768" + "696a"},
	} {
		tryLay(t, c.x, sealed([]byte(bytesOf(c.digits))), api.OK)
	}
}

// The checksums here were computed by hand.
func TestLayChecksums(t *testing.T) {
	tryLay(t, api.Seg{}, bytesOf("00000000000000000000000050000000afff0000"), api.OK)
	tryLay(t, api.Seg{AckOn: true, Syn: true, Fin: true, Rst: true}, bytesOf("00000000000000000000000050170000afe80000"), api.OK)
	tryLay(t, api.Seg{Data: "\x01"}, bytesOf("00000000000000000000000050000000aeff000001"), api.OK)
	tryLay(t, api.Seg{Data: "\x00\x01"}, bytesOf("00000000000000000000000050000000affe00000001"), api.OK)
	// 5000 and afff make ffff: its complement is 0
	tryLay(t, api.Seg{Src: 0xafff}, bytesOf("afff000000000000000000005000000000000000"), api.OK)
	// one more, and the sum is 1
	tryLay(t, api.Seg{Src: 0xb000}, bytesOf("b0000000000000000000000050000000fffe0000"), api.OK)
}

func TestLayFlags(t *testing.T) {
	seen := map[byte]bool{}
	for k := range 16 {
		for _, x := range []api.Seg{{}, example, {Area: "\x00\x00\x00\x00", Data: "xyz"}} {
			x = flagged(x, k)
			want, code := built(x)
			tryLay(t, x, want, code)
			tryParse(t, want, x, api.OK)
			seen[want[13]] = true
		}
	}
	for _, b := range []byte{0, 1, 2, 3, 4, 5, 6, 7, 16, 17, 18, 19, 20, 21, 22, 23} {
		if !seen[b] {
			t.Errorf("no set of flags has the byte %d", b)
		}
	}
}

func TestLayNumbers(t *testing.T) {
	numbers := []uint32{0, 1, 255, 256, 32767, 32768, 65534, 65535, 65536, 1<<24 - 1, 1 << 24, 1<<31 - 1, 1 << 31, 1<<32 - 2, 1<<32 - 1}
	for _, n := range numbers {
		for _, x := range []api.Seg{{Src: uint16(n)}, {Dst: uint16(n)}, {Window: uint16(n)}, {Seq: n}, {Ack: n}, {Src: uint16(n), Dst: uint16(n), Seq: n, Ack: n, Window: uint16(n), AckOn: true, Data: "d"}} {
			want, code := built(x)
			tryLay(t, x, want, code)
			tryParse(t, want, x, api.OK)
		}
	}
	top := api.Seg{Src: 65535, Dst: 65535, Seq: 1<<32 - 1, Ack: 1<<32 - 1, Window: 65535}
	tryLay(t, top, bytesOf("ffffffffffffffffffffffff5000ffffafff0000"), api.OK)
}

func TestLayPathDoesNotMatter(t *testing.T) {
	for _, path := range []int{1, 2, api.MaxPaths - 1, api.MaxPaths, -1, math.MaxInt, math.MinInt} {
		x := example
		x.Path = path
		tryLay(t, x, bytesOf(exampleHex), api.OK)
		tryParse(t, bytesOf(exampleHex), example, api.OK)
		if got := Long(x); got != 2 {
			t.Errorf("Long on path %d = %d", path, got)
		}
		x.Area = "a"
		tryLay(t, x, "", api.ErrRoom)
	}
}

func TestLayAreas(t *testing.T) {
	for _, n := range []int{0, 4, 8, 12, 16, 20, 24, 28, 32, 36, 40} {
		for _, data := range []string{"", "d", "da"} {
			x := example
			x.Area, x.Data = strings.Repeat("A", n), data
			want, _ := built(x)
			tryLay(t, x, want, api.OK)
			if got, _ := Lay(x); len(got) != 20+n+len(data) || int(got[12]) != 80+4*n || got[20:20+n] != x.Area || got[20+n:] != data {
				t.Errorf("an Area of %d bytes: %s", n, short(got))
			}
		}
	}
	for _, n := range []int{1, 2, 3, 5, 37, 38, 39, 41, 42, 43, 44, 45, 48, 60, 64, 256, 1024, 1 << 16} {
		tryLay(t, api.Seg{Area: strings.Repeat("\x00", n)}, "", api.ErrRoom)
		tryLay(t, api.Seg{Area: strings.Repeat("A", n), Data: "d", Syn: true, Seq: 7}, "", api.ErrRoom)
	}
}

func TestLayDatas(t *testing.T) {
	for _, area := range []string{"", "abcd", strings.Repeat("x", 40)} {
		for _, n := range []int{0, 1, 2, 3, 256, 1022, 1023, 1024} {
			x := api.Seg{Seq: 9, AckOn: true, Area: area, Data: strings.Repeat("D", n)}
			want, _ := built(x)
			tryLay(t, x, want, api.OK)
			if got, _ := Lay(x); len(got) != 20+len(area)+n {
				t.Errorf("Data of %d bytes: %d bytes in all", n, len(got))
			}
		}
		for _, n := range []int{1025, 1026, 1028, 2048, 1 << 16} {
			tryLay(t, api.Seg{Area: area, Data: strings.Repeat("D", n)}, "", api.ErrRoom)
		}
	}
	tryLay(t, api.Seg{Area: "abc", Data: strings.Repeat("D", 1025)}, "", api.ErrRoom)
}

func TestLayIsBuilt(t *testing.T) {
	for _, x := range segs() {
		want, code := built(x)
		if code != api.OK {
			t.Fatalf("%#v can not be encoded", x)
		}
		tryLay(t, x, want, code)
	}
}

func TestLong(t *testing.T) {
	if got := Long(example); got != 2 {
		t.Errorf("Long of the example = %d", got)
	}
	for k := range 16 {
		for _, n := range []int{0, 1, 2, 1023, 1024, 1025, 5000} {
			for _, area := range []string{"", "abcd", "abc"} {
				x := flagged(api.Seg{Src: 9, Dst: 9, Seq: 1<<32 - 1, Ack: 5, Window: 7, Area: area, Data: strings.Repeat("\x00", n)}, k)
				want := n + k&1 + k>>1&1
				if got := Long(x); got != want {
					t.Errorf("Long, flags %04b, %d bytes of data, = %d, not %d", k, n, got, want)
				}
			}
		}
	}
	for _, c := range []struct {
		x    api.Seg
		want int
	}{
		{api.Seg{}, 0}, {api.Seg{Syn: true}, 1}, {api.Seg{Fin: true}, 1}, {api.Seg{Syn: true, Fin: true}, 2},
		{api.Seg{Data: "abc"}, 3}, {api.Seg{Syn: true, Data: "abc"}, 4}, {api.Seg{Fin: true, Data: "abc"}, 4}, {api.Seg{Syn: true, Fin: true, Data: "abc"}, 5},
		{api.Seg{Rst: true}, 0}, {api.Seg{AckOn: true}, 0}, {api.Seg{Area: "abcd"}, 0},
	} {
		if got := Long(c.x); got != c.want {
			t.Errorf("Long(%#v) = %d, not %d", c.x, got, c.want)
		}
	}
}

// P5.2

func TestParseExamples(t *testing.T) {
	s := bytesOf(exampleHex)
	tryParse(t, s, example, api.OK)
	tryWrong(t, s[:20]+"\x62", api.ErrSum)
	tryWrong(t, s[:19], api.ErrShort)
}

func TestParseTooFewBytes(t *testing.T) {
	s, _ := Lay(api.Seg{Src: 7, Seq: 8, Syn: true})
	for n := range 20 {
		tryWrong(t, s[:n], api.ErrShort)
		tryWrong(t, strings.Repeat("\x00", n), api.ErrShort)
		tryWrong(t, strings.Repeat("\xff", n), api.ErrShort)
	}
	tryWrong(t, "", api.ErrShort)
	tryParse(t, s, api.Seg{Src: 7, Seq: 8, Syn: true}, api.OK)
	tryWrong(t, strings.Repeat("\x00", 20), api.ErrForm)
	tryWrong(t, strings.Repeat("\xff", 20), api.ErrForm)
}

// blank is a segment of size bytes with that byte 12, and no other field, not yet sealed.
func blank(units byte, size int) []byte {
	b := make([]byte, size)
	b[12] = units
	return b
}

// Every byte 12, with as many bytes as it says before the data, with one and with four fewer, and with data after them.
func TestParseUnits(t *testing.T) {
	for units := range 256 {
		before := max(20, units/4)
		for _, size := range []int{20, before - 4, before - 1, before, before + 1, before + 4} {
			if size < 20 {
				continue
			}
			s := sealed(blank(byte(units), size))
			switch {
			case units < 80 || units%16 != 0:
				tryWrong(t, s, api.ErrForm)
			case size < before:
				tryWrong(t, s, api.ErrShort)
			default:
				tryParse(t, s, api.Seg{Area: strings.Repeat("\x00", before-20), Data: strings.Repeat("\x00", size-before)}, api.OK)
			}
		}
	}
	for _, units := range []byte{0, 16, 64, 79, 81, 95, 97, 239, 241, 255} {
		tryWrong(t, sealed(blank(units, 20)), api.ErrForm)
		tryWrong(t, sealed(blank(units, 64)), api.ErrForm)
	}
	tryParse(t, sealed(blank(80, 20)), api.Seg{}, api.OK)
	tryWrong(t, sealed(blank(96, 20)), api.ErrShort)
	tryWrong(t, sealed(blank(96, 23)), api.ErrShort)
	tryParse(t, sealed(blank(96, 24)), api.Seg{Area: "\x00\x00\x00\x00"}, api.OK)
	tryWrong(t, sealed(blank(240, 59)), api.ErrShort)
	tryParse(t, sealed(blank(240, 60)), api.Seg{Area: strings.Repeat("\x00", 40)}, api.OK)
}

// What is before the data is the Area, whatever is in it; what is after it is the Data.
func TestParseAreaAndData(t *testing.T) {
	rest := "\x00\x01\x1e\xff\x05\x01\x1e\x00\x02\x03\x04\x05abcdefghijklmnopqrstuvwxyz0123456789ABCDEFGHIJKLMNOP"
	for n := 0; n <= 40; n += 4 {
		for size := n; size <= len(rest); size++ {
			s := sealed(append(blank(byte(80+4*n), 20), rest[:size]...))
			tryParse(t, s, api.Seg{Area: rest[:n], Data: rest[n:size]}, api.OK)
		}
	}
}

func TestParseFlags(t *testing.T) {
	for flags := range 256 {
		b := blank(80, 21)
		b[13] = byte(flags)
		if flags&^23 != 0 {
			tryWrong(t, sealed(b), api.ErrForm)
			tryWrong(t, string(b), api.ErrForm)
			continue
		}
		want := api.Seg{Fin: flags&1 != 0, Syn: flags&2 != 0, Rst: flags&4 != 0, AckOn: flags&16 != 0, Data: "\x00"}
		tryParse(t, sealed(b), want, api.OK)
	}
	for _, bit := range []byte{8, 32, 64, 128} {
		b := []byte(bytesOf(exampleHex))
		b[13] += bit
		tryWrong(t, sealed(b), api.ErrForm)
	}
}

func TestParseZeros(t *testing.T) {
	for n := 1; n < 256; n++ {
		for _, at := range []int{18, 19} {
			b := []byte(bytesOf(exampleHex))
			b[at] = byte(n)
			tryWrong(t, sealed(b), api.ErrForm)
			tryWrong(t, string(b), api.ErrForm)
		}
	}
	// a word that makes no difference to the sum counts all the same
	b := []byte(bytesOf(exampleHex))
	b[18], b[19] = 255, 255
	tryWrong(t, string(b), api.ErrForm)
}

func TestParseTooMuchData(t *testing.T) {
	for n := 0; n <= 40; n += 4 {
		for size, code := range map[int]api.Errno{1023: api.OK, 1024: api.OK, 1025: api.ErrRoom, 1026: api.ErrRoom, 5000: api.ErrRoom, 1 << 16: api.ErrRoom} {
			s := sealed(blank(byte(80+4*n), 20+n+size))
			want := api.Seg{}
			if code == api.OK {
				want = api.Seg{Area: strings.Repeat("\x00", n), Data: strings.Repeat("\x00", size)}
			}
			tryParse(t, s, want, code)
		}
	}
}

func TestParseSums(t *testing.T) {
	b := []byte(bytesOf(exampleHex))
	for n := range 65536 {
		binary.BigEndian.PutUint16(b[16:], uint16(n))
		if n == 0x4ede {
			tryParse(t, string(b), example, api.OK)
		} else {
			tryWrong(t, string(b), api.ErrSum)
		}
	}
	// of an odd number of bytes the last one is the more significant half of a word
	odd := append(blank(80, 20), 1)
	binary.BigEndian.PutUint16(odd[16:], 0xaeff)
	tryParse(t, string(odd), api.Seg{Data: "\x01"}, api.OK)
	binary.BigEndian.PutUint16(odd[16:], 0xaffe)
	tryWrong(t, string(odd), api.ErrSum)
}

// Several faults at once, each with each: the one that the document names first counts.
func TestParseFirstFaultCounts(t *testing.T) {
	counts := map[api.Errno]int{}
	for _, units := range []byte{0, 64, 79, 80, 81, 96, 240, 255} {
		for _, size := range []int{0, 12, 13, 19, 20, 21, 23, 24, 59, 60, 61, 1044, 1045, 1048, 1049, 1084, 1085} {
			for _, flags := range []byte{0, 18, 23, 8, 32, 64, 128, 255} {
				for _, zeros := range []string{"\x00\x00", "\x01\x00", "\x00\x01", "\xff\xff"} {
					b := make([]byte, max(size, 20))
					b[12], b[13] = units, flags
					copy(b[18:], zeros)
					whole := sealed(b)
					for _, s := range []string{whole[:size], (whole[:16] + string([]byte{whole[16] + 1}) + whole[17:])[:size]} {
						want, code := taken(s)
						counts[code]++
						tryParse(t, s, want, code)
					}
				}
			}
		}
	}
	for _, code := range []api.Errno{api.OK, api.ErrShort, api.ErrForm, api.ErrRoom, api.ErrSum} {
		if counts[code] < 20 {
			t.Errorf("only %d texts are %v", counts[code], code)
		}
	}
}

// The same by name: two faults with two errors.
func TestParseTwoFaults(t *testing.T) {
	change := func(size int, changes ...int) string {
		b := blank(80, size)
		for k := 0; k < len(changes); k += 2 {
			b[changes[k]] = byte(changes[k+1])
		}
		return sealed(b)
	}
	unsealed := func(s string) string { return s[:17] + string([]byte{s[17] ^ 1}) + s[18:] }
	tryWrong(t, change(20, 12, 0, 13, 8)[:19], api.ErrShort)
	tryWrong(t, change(20, 12, 255), api.ErrForm)                       // and fewer bytes than 63
	tryWrong(t, change(20, 12, 97), api.ErrForm)                        // and fewer bytes than 24
	tryWrong(t, change(2000, 12, 79), api.ErrForm)                      // and too much data
	tryWrong(t, unsealed(change(20, 12, 64)), api.ErrForm)              // and not whole
	tryWrong(t, change(20, 12, 96, 13, 8), api.ErrShort)                // and another bit
	tryWrong(t, change(23, 12, 96, 18, 1), api.ErrShort)                // and a byte that is not 0
	tryWrong(t, unsealed(change(59, 12, 240)), api.ErrShort)            // and not whole
	tryWrong(t, change(1045, 13, 128), api.ErrForm)                     // and too much data
	tryWrong(t, change(1045, 19, 1), api.ErrForm)                       // and too much data
	tryWrong(t, unsealed(change(20, 13, 32)), api.ErrForm)              // and not whole
	tryWrong(t, unsealed(change(20, 18, 255, 19, 255)), api.ErrForm)    // and not whole
	tryWrong(t, unsealed(change(1045)), api.ErrRoom)                    // and not whole
	tryWrong(t, unsealed(change(1085, 12, 240)), api.ErrRoom)           // and not whole
	tryWrong(t, unsealed(change(1084, 12, 240, 13, 23)), api.ErrSum)    // alone
	tryWrong(t, change(24, 12, 112, 13, 255, 18, 1), api.ErrShort)      // and two more
	tryWrong(t, unsealed(change(1045, 13, 255, 19, 1)), api.ErrForm)    // and three more
	tryWrong(t, unsealed(change(20, 12, 1, 13, 255))[:3], api.ErrShort) // too short for byte 12, even
}

func TestParseIsTaken(t *testing.T) {
	counts := map[api.Errno]int{}
	r := rand.New(rand.NewSource(2))
	for k := range 40000 {
		b := []byte(random(r, 20+r.Intn(80), k%5 == 0))
		if k%7 != 0 {
			b[12] = byte(64 + 16*r.Intn(12))
		}
		if k%3 != 0 {
			b[13], b[18], b[19] = b[13]&23, 0, 0
		}
		s := string(b)
		if k%11 != 0 {
			s = sealed(b)
		}
		want, code := taken(s)
		counts[code]++
		tryParse(t, s, want, code)
	}
	for _, code := range []api.Errno{api.OK, api.ErrShort, api.ErrForm, api.ErrSum} {
		if counts[code] < 500 {
			t.Errorf("only %d texts are %v", counts[code], code)
		}
	}
}

// P5.3

func TestEncodedIsDecoded(t *testing.T) {
	for k, x := range segs() {
		want := x
		x.Path = k % 5
		s, err := Lay(x)
		if err != api.OK {
			t.Fatalf("Lay(%#v): %v", x, err)
		}
		tryParse(t, s, want, api.OK)
	}
}

// Whatever is decoded, of any bytes, is encoded to the same ones.
func TestDecodedIsEncoded(t *testing.T) {
	decoded := 0
	r := rand.New(rand.NewSource(3))
	for k := range 20000 {
		n := r.Intn(11)
		size := 20 + 4*n + r.Intn(40)
		if k%100 == 0 {
			size = 20 + 4*n + 1022 + r.Intn(3)
		}
		b := []byte(random(r, size, k%4 == 0))
		b[12], b[13], b[18], b[19] = byte(80+16*n), b[13]&23, 0, 0
		s := sealed(b)
		x, err := Parse(s)
		if err != api.OK {
			t.Errorf("Parse(%s): %v", short(s), err)
			continue
		}
		decoded++
		tryLay(t, x, s, api.OK)
	}
	if decoded < 20000 {
		t.Errorf("only %d texts were decoded", decoded)
	}
}

// Bytes whose other words have the sum 65535 are whole with either checksum; 0 is the one that is written.
func TestChecksumOfZeroOrAllBits(t *testing.T) {
	r := rand.New(rand.NewSource(4))
	for k := range 500 {
		n := r.Intn(11)
		b := []byte(random(r, 20+4*n+r.Intn(30), k%2 == 0))
		b[0], b[1], b[12], b[13], b[16], b[17], b[18], b[19] = 0, 0, byte(80+16*n), b[13]&23, 0, 0, 0, 0
		binary.BigEndian.PutUint16(b, 65535-counted(b))
		zero := string(b)
		ones := zero[:16] + "\xff\xff" + zero[18:]
		want, code := taken(zero)
		if code != api.OK {
			t.Fatalf("%s is %v", short(zero), code)
		}
		tryParse(t, zero, want, api.OK)
		tryParse(t, ones, want, api.OK)
		tryLay(t, want, zero, api.OK)
	}
	zero := bytesOf("afff000000000000000000005000000000000000")
	ones := bytesOf("afff0000000000000000000050000000ffff0000")
	tryParse(t, zero, api.Seg{Src: 0xafff}, api.OK)
	tryParse(t, ones, api.Seg{Src: 0xafff}, api.OK)
	tryLay(t, api.Seg{Src: 0xafff}, zero, api.OK)
	// of others, neither is whole
	tryWrong(t, bytesOf("aff0000000000000000000005000000000000000"), api.ErrSum)
	tryWrong(t, bytesOf("aff00000000000000000000050000000ffff0000"), api.ErrSum)
}

// No checksum of 65535 is ever written.
func TestNeverAllBits(t *testing.T) {
	for _, x := range segs() {
		if s, _ := Lay(x); s[16:18] == "\xff\xff" {
			t.Errorf("Lay(%#v) = %s", x, short(s))
		}
	}
}

// One byte is changed, at each place, to each other one.
func TestOneOtherByte(t *testing.T) {
	long := strings.Repeat("\x00\xff\x01\x80 data ", 103)
	for _, x := range []api.Seg{{}, example, {Src: 0xafff}, {Src: 65535, Dst: 65535, Seq: 1<<32 - 1, Ack: 1<<32 - 1, Window: 65535, Fin: true, Rst: true}, {AckOn: true, Area: "\x1e\x04ab", Data: "c"}, {Syn: true, Area: strings.Repeat("\x01", 40)}, {Area: strings.Repeat("\x00", 36), Data: "even"}} {
		s, _ := Lay(x)
		tryChanges(t, s, 1)
	}
	for _, x := range []api.Seg{{Data: long[:1024]}, {Area: strings.Repeat("\xff", 40), Data: long[:1023]}} {
		s, _ := Lay(x)
		tryChanges(t, s, 37)
	}
	// and those with a checksum that Lay never writes
	tryChanges(t, bytesOf("afff0000000000000000000050000000ffff0000"), 1)
}

// tryChanges checks that s is parsed, and that it no longer is with one of its bytes changed, by each step-th number from 1 to 255, and by 255.
func tryChanges(t *testing.T, s string, step int) {
	t.Helper()
	if _, err := Parse(s); err != api.OK {
		t.Fatalf("Parse(%s): %v", short(s), err)
	}
	for at := range len(s) {
		for by := 1; by < 256; by++ {
			if by%step != 0 && by != 1 && by != 255 {
				continue
			}
			other := s[:at] + string([]byte{s[at] + byte(by)}) + s[at+1:]
			if x, err := Parse(other); err == api.OK || x != (api.Seg{}) {
				t.Errorf("Parse(%s), byte %d changed by %d, = %#v, %v", short(other), at, by, x, err)
			}
		}
	}
}

// A part of the fixed bytes ends where it does: what is appended to it goes elsewhere.
func TestPartsEnd(t *testing.T) {
	var f fixed
	part := f.part(atSrc, atDst)
	_ = append(part, 1, 2, 3)
	if f != (fixed{}) || len(part) != 2 {
		t.Errorf("%x", f)
	}
	part[1] = 9
	if f[1] != 9 {
		t.Error("a part is not one of the fixed bytes")
	}
}
