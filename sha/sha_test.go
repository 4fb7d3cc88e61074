package sha

import (
	"crypto/sha256"
	"encoding/binary"
	"encoding/hex"
	"math"
	"math/bits"
	"math/rand"
	"strings"
	"testing"

	"plait/api"
)

// sizes are those of texts around which the number of blocks of the padded text changes, or a block ends.
var sizes = []int{0, 1, 55, 56, 57, 63, 64, 65, 119, 120, 127, 128, 129}

// counting is a text of n bytes, none of which is at the place of an equal one within four blocks.
func counting(n int) string {
	b := make([]byte, n)
	for k := range b {
		b[k] = byte(k*7 + k/256)
	}
	return string(b)
}

// texts are texts of all sizes above: of bytes 0, of bytes 255, of both, and of others; always the same.
func texts() []string {
	r := rand.New(rand.NewSource(1))
	var all []string
	for _, n := range sizes {
		b := make([]byte, n)
		r.Read(b)
		all = append(all, strings.Repeat("\x00", n), strings.Repeat("\xff", n), strings.Repeat("\x00\xff", n)[:n], counting(n), string(b))
	}
	return all
}

// digestOf is what a text's digest should be, in another way.
func digestOf(text string) api.Digest { return sha256.Sum256([]byte(text)) }

// short is a text as far as a message should tell it.
func short(s string) string {
	if len(s) > 24 {
		return hex.EncodeToString([]byte(s[:24])) + ".."
	}
	return hex.EncodeToString([]byte(s))
}

// trySum checks Sum of a text.
func trySum(t *testing.T, text string) {
	t.Helper()
	if got, want := Sum(text), digestOf(text); got != want {
		t.Errorf("Sum(%s), %d bytes, = %x, not %x", short(text), len(text), got, want)
	}
}

// tryHash checks that a hash is one to which that text was written.
func tryHash(t *testing.T, h *Hash, text string) {
	t.Helper()
	if got, want := h.Digest(), digestOf(text); got != want {
		t.Errorf("Digest of %s, %d bytes, = %x, not %x", short(text), len(text), got, want)
	}
	if got := h.Len(); got != uint64(len(text)) {
		t.Errorf("Len = %d, not %d", got, len(text))
	}
}

// tryPieces writes a text in pieces, and checks the hash behind the last one; behind each one, too, if asked is set.
func tryPieces(t *testing.T, asked bool, pieces ...string) {
	t.Helper()
	h, text := New(), ""
	for _, piece := range pieces {
		h.Write(piece)
		text += piece
		if got := h.Len(); got != uint64(len(text)) {
			t.Errorf("Len = %d behind %d bytes", got, len(text))
		}
		if asked {
			tryHash(t, h, text)
			tryHash(t, h, text)
		}
	}
	tryHash(t, h, text)
}

// cut is a text in pieces of n bytes each, the last one excepted.
func cut(text string, n int) []string {
	var pieces []string
	for len(text) > n {
		pieces = append(pieces, text[:n])
		text = text[n:]
	}
	return append(pieces, text)
}

// hashOf is a hash to which these pieces were written.
func hashOf(pieces ...string) *Hash {
	h := New()
	for _, piece := range pieces {
		h.Write(piece)
	}
	return h
}

// P6.1

func TestSumExamples(t *testing.T) {
	for _, c := range []struct{ text, digits string }{
		{"", "e3b0c44298fc1c149afbf4c8996fb92427ae41e4649b934ca495991b7852b855"},
		{"abc", "ba7816bf8f01cfea414140de5dae2223b00361a396177a9cb410ff61f20015ad"},
		{"abcdbcdecdefdefgefghfghighijhijkijkljklmklmnlmnomnopnopq", "248d6a61d20638b8e5c026930c3e6039a33ce45964ff2167f6ecedd419db06c1"},
		{strings.Repeat("a", 1000000), "cdc76e5c9914fb9281a1c7e284d73e67f1809a48a497200e046d39ccc7112cd0"},
	} {
		got := Sum(c.text)
		if hex.EncodeToString(got[:]) != c.digits {
			t.Errorf("Sum(%s), %d bytes, = %x, not %s", short(c.text), len(c.text), got, c.digits)
		}
		h := New()
		h.Write(c.text)
		if got := h.Digest(); hex.EncodeToString(got[:]) != c.digits {
			t.Errorf("Digest of %s, %d bytes, = %x, not %s", short(c.text), len(c.text), got, c.digits)
		}
	}
}

func TestSumSizes(t *testing.T) {
	for _, text := range texts() {
		trySum(t, text)
	}
	for n := range 520 {
		trySum(t, counting(n))
	}
	for _, n := range []int{1023, 1024, 1025, 1 << 16, 1<<16 + 55} {
		trySum(t, counting(n))
	}
}

func TestSumBytes(t *testing.T) {
	for x := range 256 {
		one := string([]byte{byte(x)})
		trySum(t, one)
		for _, n := range sizes {
			trySum(t, strings.Repeat(one, n))
		}
	}
}

// Any bit of any byte matters, in the first block as in the last one; so does a byte 0, and a byte 128, at the end.
func TestSumBits(t *testing.T) {
	for _, n := range sizes {
		text := counting(n)
		seen := map[api.Digest]bool{Sum(text): true}
		for k := range 8 * n {
			b := []byte(text)
			b[k/8] ^= 1 << (k % 8)
			trySum(t, string(b))
			seen[Sum(string(b))] = true
		}
		for _, end := range []string{"\x00", "\x00\x00", "\x80", "\x80\x00", strings.Repeat("\x00", 64)} {
			trySum(t, text+end)
			seen[Sum(text+end)] = true
		}
		if len(seen) != 1+8*n+5 {
			t.Errorf("%d bytes: %d digests", n, len(seen))
		}
	}
}

// A sum depends on its text alone, whatever was computed before.
func TestSumAgain(t *testing.T) {
	for _, text := range texts() {
		first := Sum(text)
		hashOf("other", text).Digest()
		Sum(text + "x")
		if again := Sum(text); again != first {
			t.Errorf("Sum(%s), %d bytes, = %x, then %x", short(text), len(text), first, again)
		}
	}
}

// P6.2

func TestNewIsEmpty(t *testing.T) {
	one, two := New(), New()
	if one == nil || two == nil || one == two {
		t.Fatalf("%p and %p", one, two)
	}
	tryHash(t, one, "")
	one.Write("abc")
	tryHash(t, one, "abc")
	tryHash(t, two, "")
	tryHash(t, New(), "")
	two.Write("abd")
	tryHash(t, one, "abc")
	tryHash(t, two, "abd")
}

func TestWriteAtOnce(t *testing.T) {
	for _, text := range texts() {
		tryPieces(t, false, text)
		tryPieces(t, true, text)
	}
}

func TestWriteByteByByte(t *testing.T) {
	for _, text := range texts() {
		tryPieces(t, false, cut(text, 1)...)
		tryPieces(t, true, cut(text, 1)...)
	}
}

// Pieces that end before, at, and after the end of a block, and pieces of more than a block.
func TestWritePieces(t *testing.T) {
	for _, text := range texts() {
		for _, n := range []int{2, 3, 7, 31, 32, 33, 62, 63, 64, 65, 66, 127, 128} {
			tryPieces(t, false, cut(text, n)...)
			tryPieces(t, true, cut(text, n)...)
		}
	}
	for first := range 130 {
		for _, next := range []int{0, 1, 54, 55, 56, 62, 63, 64, 65, 66, 127, 128, 129, 192, 200} {
			text := counting(first + next + 9)
			tryPieces(t, true, text[:first], text[first:first+next], text[first+next:])
		}
	}
}

func TestWritePiecesWithoutBytes(t *testing.T) {
	tryPieces(t, true, "")
	tryPieces(t, true, "", "", "")
	for _, text := range texts() {
		tryPieces(t, true, "", text)
		tryPieces(t, true, text, "")
		tryPieces(t, false, "", "", text, "", "")
		for _, n := range []int{1, 63, 64, 65} {
			var pieces []string
			for _, piece := range cut(text, n) {
				pieces = append(pieces, "", piece, "")
			}
			tryPieces(t, false, pieces...)
			tryPieces(t, true, pieces...)
		}
	}
}

// Digest changes nothing: neither itself, nor what is written behind it.
func TestDigestChangesNothing(t *testing.T) {
	for _, front := range texts() {
		for _, n := range []int{0, 1, 7, 8, 9, 55, 63, 64, 65} {
			back := counting(n)
			h := hashOf(front)
			before := *h
			first, second := h.Digest(), h.Digest()
			if first != second || first != digestOf(front) || *h != before {
				t.Errorf("%s, %d bytes: %x, then %x", short(front), len(front), first, second)
			}
			h.Write(back)
			tryHash(t, h, front+back)
			h.Write(back)
			tryHash(t, h, front+back+back)
		}
	}
}

// What was returned belongs to the caller.
func TestDigestIsNew(t *testing.T) {
	h := hashOf("abc")
	d := h.Digest()
	clear(d[:])
	tryHash(t, h, "abc")
	d = Sum("abc")
	clear(d[:])
	trySum(t, "abc")
}

func TestLen(t *testing.T) {
	h := New()
	total := 0
	for k, n := range []int{0, 1, 0, 62, 1, 0, 63, 2, 64, 128, 1000, 63, 1 << 16, 0} {
		h.Write(counting(n))
		total += n
		for range 2 {
			if got := h.Len(); got != uint64(total) {
				t.Errorf("Len = %d, not %d, behind the piece %d", got, total, k)
			}
			h.Digest()
		}
	}
}

// Copies of a hash to which nothing was written, of one in the middle of a block, and at, before and after a block's end: what is written to one of both is not written to the other one, whichever is first, and whether the pieces fill the block or not.
func TestCopy(t *testing.T) {
	for _, n := range append([]int{2, 32, 192, 200}, sizes...) {
		front := counting(n)
		for _, size := range []int{0, 1, 31, 55, 56, 63, 64, 65, 128} {
			a, b := strings.Repeat("\xaa", size), strings.Repeat("b", size+1)
			h := hashOf(front)
			c := h.Copy()
			if c == nil || c == h {
				t.Fatalf("the copy of %p is %p", h, c)
			}
			tryHash(t, h, front)
			tryHash(t, c, front)
			c.Write(a)
			tryHash(t, h, front)
			tryHash(t, c, front+a)
			h.Write(b)
			tryHash(t, h, front+b)
			tryHash(t, c, front+a)

			h = hashOf(front)
			c = h.Copy()
			h.Write(b)
			tryHash(t, c, front)
			tryHash(t, h, front+b)
			c.Write(a)
			tryHash(t, h, front+b)
			tryHash(t, c, front+a)
			h.Write(a)
			c.Write(b)
			tryHash(t, h, front+b+a)
			tryHash(t, c, front+a+b)
		}
	}
}

// Both take turns, byte by byte, beyond the ends of several blocks.
func TestCopyTakesTurns(t *testing.T) {
	for _, n := range sizes {
		front := counting(n)
		h := hashOf(front)
		c := h.Copy()
		a, b := front, front
		for k := range 140 {
			h.Write(string([]byte{byte(k)}))
			a += string([]byte{byte(k)})
			tryHash(t, c, b)
			c.Write(string([]byte{byte(^k)}))
			b += string([]byte{byte(^k)})
			tryHash(t, h, a)
		}
		tryHash(t, c, b)
	}
}

func TestCopyOfCopy(t *testing.T) {
	for _, n := range sizes {
		front := counting(n)
		one := hashOf(front)
		two := one.Copy()
		three := two.Copy()
		three.Write("333")
		tryHash(t, one, front)
		tryHash(t, two, front)
		two.Write("22")
		four := three.Copy()
		one.Write("1")
		four.Write(counting(64))
		tryHash(t, one, front+"1")
		tryHash(t, two, front+"22")
		tryHash(t, three, front+"333")
		tryHash(t, four, front+"333"+counting(64))
		one.Copy().Write("not to the first one")
		tryHash(t, one, front+"1")
	}
}

func TestNil(t *testing.T) {
	var h *Hash
	for _, text := range append(texts(), "abc") {
		h.Write(text)
		if got := h.Digest(); got != (api.Digest{}) {
			t.Errorf("Digest = %x", got)
		}
		if got := h.Len(); got != 0 {
			t.Errorf("Len = %d", got)
		}
		if got := h.Copy(); got != nil {
			t.Errorf("Copy = %p", got)
		}
	}
	if h.Copy().Len() != 0 || h.Copy().Digest() != (api.Digest{}) {
		t.Error("the copy of nil is not nil")
	}
}

// P6.3

// Each text in two pieces, cut anywhere.
func TestTwoPieces(t *testing.T) {
	for _, text := range texts() {
		want := digestOf(text)
		for k := range len(text) + 1 {
			if got := hashOf(text[:k], text[k:]).Digest(); got != want {
				t.Errorf("%d bytes, cut at %d: %x, not %x", len(text), k, got, want)
			}
		}
	}
}

func TestManyPieces(t *testing.T) {
	r := rand.New(rand.NewSource(2))
	for range 1500 {
		text := counting(r.Intn(700))
		h, most := New(), 1+r.Intn(150)
		for at := 0; at < len(text); {
			n := min(r.Intn(most+1), len(text)-at)
			h.Write(text[at : at+n])
			at += n
		}
		tryHash(t, h, text)
		if h.Digest() != Sum(text) {
			t.Errorf("%d bytes: Digest and Sum differ", len(text))
		}
	}
}

func TestCommonPrefix(t *testing.T) {
	for _, prefix := range texts() {
		h := hashOf(prefix)
		for _, rest := range texts() {
			c := h.Copy()
			c.Write(rest)
			tryHash(t, c, prefix+rest)
		}
		tryHash(t, h, prefix)
	}
}

// Parts

// The padding completes a block with as few bytes as it can, and says how many bits there were; also where these are more than 2^32.
func TestPadding(t *testing.T) {
	many := []uint64{1<<29 - 1, 1 << 29, 1<<29 + 56, 1<<31 - 65, 1<<31 - 9, 1<<31 - 1, math.MaxUint64 / 8}
	for n := range uint64(300) {
		many = append(many, n)
	}
	for _, n := range many {
		pad := padding(n)
		if len(pad) < 9 || len(pad) > 72 || (n+uint64(len(pad)))%64 != 0 {
			t.Fatalf("%d bytes have a padding of %d", n, len(pad))
		}
		if pad[0] != 128 || strings.Trim(pad[1:len(pad)-8], "\x00") != "" || binary.BigEndian.Uint64([]byte(pad[len(pad)-8:])) != 8*n {
			t.Errorf("%d bytes have the padding %x", n, pad)
		}
	}
}

// wordsInAnotherWay are all 64 words of a block, each from the list of those before it.
func wordsInAnotherWay(b block) []uint32 {
	turn := func(x uint32, k int) uint32 { return bits.RotateLeft32(x, 32-k) }
	var w []uint32
	for t := range 64 {
		if t < 16 {
			w = append(w, binary.BigEndian.Uint32(b[4*t:]))
			continue
		}
		p, q := w[t-15], w[t-2]
		w = append(w, w[t-16]+(turn(p, 7)^turn(p, 18)^p>>3)+w[t-7]+(turn(q, 17)^turn(q, 19)^q>>10))
	}
	return w
}

// Whoever leaves the words early is given none behind that.
func TestWords(t *testing.T) {
	b := block([]byte(counting(64)))
	want := wordsInAnotherWay(b)
	for stop := range 65 {
		n := 0
		for k, word := range wordsOf(b) {
			if k != n || word != want[k] {
				t.Fatalf("the word %d is %08x with the index %d, not %08x", n, word, k, want[n])
			}
			if n++; n > stop {
				break
			}
		}
		if n != min(stop+1, 64) {
			t.Errorf("%d words, left behind %d", n, stop+1)
		}
	}
}

func TestRotatedAndXor(t *testing.T) {
	for _, c := range []struct {
		word uint32
		k    int
		want uint32
	}{
		{1, 0, 1}, {1, 1, 1 << 31}, {2, 1, 1}, {0x12345678, 8, 0x78123456}, {0x12345678, 28, 0x23456781}, {0x12345678, 32, 0x12345678}, {math.MaxUint32, 13, math.MaxUint32}, {0, 13, 0},
	} {
		if got := rotated(c.word, c.k); got != c.want {
			t.Errorf("rotated(%08x, %d) = %08x, not %08x", c.word, c.k, got, c.want)
		}
	}
	for _, c := range []struct {
		words []uint32
		want  uint32
	}{
		{nil, 0}, {[]uint32{5}, 5}, {[]uint32{5, 5}, 0}, {[]uint32{5, 3}, 6}, {[]uint32{1, 1, 1}, 1}, {[]uint32{0xf0f0f0f0, 0xff00ff00, 0xffff0000}, 0xf00f0ff0},
	} {
		if got := xor(c.words...); got != c.want {
			t.Errorf("xor(%x) = %08x, not %08x", c.words, got, c.want)
		}
	}
}
