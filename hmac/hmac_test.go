package hmac

import (
	stdhmac "crypto/hmac"
	"crypto/sha256"
	"encoding/hex"
	"math"
	"math/rand"
	"strings"
	"testing"

	"plait/api"
	"plait/sha"
)

// keySizes and textSizes are those around which a key is put in place of another one, or the number of blocks changes.
var (
	keySizes  = []int{0, 1, 2, 20, 31, 32, 33, 62, 63, 64, 65, 66, 127, 128, 129, 200}
	textSizes = []int{0, 1, 31, 32, 54, 55, 56, 57, 63, 64, 65, 119, 120, 128, 300}
)

// counts are what Left and Right may be asked for.
var counts = []int{math.MinInt, math.MinInt + 1, -1 << 32, -33, -32, -2, -1, 0, 1, 2, 4, 8, 20, 31, 32, 33, 64, 1 << 32, 1<<32 + 4, math.MaxInt - 1, math.MaxInt}

// filled are texts of n bytes: of bytes 0, of bytes 255, of both, of each of the two bytes by which keys are changed, of one that ends with a 0, and others; always the same.
func filled(n int) []string {
	b := make([]byte, n)
	rand.New(rand.NewSource(int64(n))).Read(b)
	l := []string{string(b)}
	for _, unit := range []string{"\x00", "\xff", "\x00\xff", "\xff\x00", "\x36", "\x5c", "\x80\x01\x00"} {
		l = append(l, strings.Repeat(unit, n)[:n])
	}
	return l
}

// allOf are the texts of all these sizes.
func allOf(sizes []int) []string {
	var l []string
	for _, n := range sizes {
		l = append(l, filled(n)...)
	}
	return l
}

// codeOf is what a code should be, in another way.
func codeOf(key, text string) api.Digest {
	h := stdhmac.New(sha256.New, []byte(key))
	h.Write([]byte(text))
	return api.Digest(h.Sum(nil))
}

// written is a code as the words of the document have it: all its texts made whole.
func written(key, text string) api.Digest {
	if len(key) > 64 {
		d := sha256.Sum256([]byte(key))
		key = string(d[:])
	}
	inner, outer := make([]byte, 64), make([]byte, 64)
	copy(inner, key)
	copy(outer, key)
	for k := range 64 {
		inner[k] ^= 0x36
		outer[k] ^= 0x5c
	}
	first := sha256.Sum256(append(inner, text...))
	return sha256.Sum256(append(outer, first[:]...))
}

// short is a text as far as a message should tell it.
func short(s string) string {
	if len(s) > 12 {
		return hex.EncodeToString([]byte(s[:12])) + ".."
	}
	return hex.EncodeToString([]byte(s))
}

// tryOf checks the code of a text under a key, in two ways.
func tryOf(t *testing.T, key, text string) {
	t.Helper()
	got := Of(key, text)
	if want := codeOf(key, text); got != want {
		t.Errorf("Of(%s, %s), %d and %d bytes, = %x, not %x", short(key), short(text), len(key), len(text), got, want)
	}
	if want := written(key, text); got != want {
		t.Errorf("Of(%s, %s), %d and %d bytes, = %x; by the words of the document %x", short(key), short(text), len(key), len(text), got, want)
	}
}

// bytesFrom is a digest of bytes that count up.
func bytesFrom(b byte) api.Digest {
	var d api.Digest
	for k := range d {
		d[k] = b + byte(k)
	}
	return d
}

// changed is s with another byte at the place k.
func changed(s string, k int, by byte) string {
	b := []byte(s)
	b[k] ^= by
	return string(b)
}

// digits are the bytes of hexadecimal digits.
func digits(t *testing.T, s string) string {
	t.Helper()
	b, err := hex.DecodeString(s)
	if err != nil {
		t.Fatal(err)
	}
	return string(b)
}

// P7.1

// The first two are those of the chapter; all of them are those that are published for this code (RFC 4231).
func TestOfExamples(t *testing.T) {
	const long = "This is a test using a larger than block-size key and a larger than block-size data. The key needs to be hashed before being used by the HMAC algorithm."
	for _, x := range []struct{ key, text, want string }{
		{strings.Repeat("\x0b", 20), "Hi There", "b0344c61d8db38535ca8afceaf0bf12b881dc200c9833da726e9376c2e32cff7"},
		{"Jefe", "what do ya want for nothing?", "5bdcc146bf60754e6a042426089575c75a003f089d2739839dec58b964ec3843"},
		{strings.Repeat("\xaa", 20), strings.Repeat("\xdd", 50), "773ea91e36800e46854db8ebd09181a72959098b3ef8c122d9635514ced565fe"},
		{digits(t, "0102030405060708090a0b0c0d0e0f10111213141516171819"), strings.Repeat("\xcd", 50), "82558a389a443c0ea4cc819899f2083a85f0faa3e578f8077a2e3ff46729665b"},
		{strings.Repeat("\xaa", 131), "Test Using Larger Than Block-Size Key - Hash Key First", "60e431591ee0b67f0d8a26aacbf5b77f8e0bc6213728c5140546040f0ee37f54"},
		{strings.Repeat("\xaa", 131), long, "9b09ffa71b942fcb27635fbcd5b0e944bfdc63644f0713938a7f51535c3a35e2"},
		{"", "", "b613679a0814d9ec772f95d778c35fc5ff1697c493715653c6c712144292c5ad"},
	} {
		d := Of(x.key, x.text)
		if got := hex.EncodeToString(d[:]); got != x.want {
			t.Errorf("Of(%s, %s) = %s, not %s", short(x.key), short(x.text), got, x.want)
		}
		tryOf(t, x.key, x.text)
	}
}

func TestOfSizes(t *testing.T) {
	texts := allOf(textSizes)
	for _, key := range allOf(keySizes) {
		for _, text := range texts {
			tryOf(t, key, text)
		}
	}
	for n := range 140 {
		tryOf(t, filled(n)[0], "a text")
		tryOf(t, "a key", filled(n)[0])
	}
	tryOf(t, filled(1 << 16)[0], filled(1 << 16)[0])
}

func TestOfBytes(t *testing.T) {
	for x := range 256 {
		one := string([]byte{byte(x)})
		tryOf(t, one, "")
		tryOf(t, "", one)
		tryOf(t, one, one)
		tryOf(t, strings.Repeat(one, 64), one)
		tryOf(t, strings.Repeat(one, 65), one)
	}
}

// Any bit of a key and of a text matters.
func TestOfBits(t *testing.T) {
	for _, n := range []int{1, 20, 63, 64, 65, 128} {
		key, text := filled(n)[0], filled(n)[7]
		seen := map[api.Digest]bool{Of(key, text): true}
		for k := range 8 * n {
			seen[Of(changed(key, k/8, 1<<(k%8)), text)] = true
			seen[Of(key, changed(text, k/8, 1<<(k%8)))] = true
		}
		if len(seen) != 1+16*n {
			t.Errorf("%d bytes: %d codes", n, len(seen))
		}
	}
}

// The end of the key is not the beginning of the text, and neither is the other.
func TestOfHasTwoParts(t *testing.T) {
	whole := filled(130)[0]
	seen := map[api.Digest]bool{}
	for k := range len(whole) + 1 {
		seen[Of(whole[:k], whole[k:])] = true
		tryOf(t, whole[:k], whole[k:])
	}
	if len(seen) != len(whole)+1 {
		t.Errorf("%d codes", len(seen))
	}
	if Of("a", "b") == Of("b", "a") {
		t.Error("key and text may be exchanged")
	}
}

// A code depends on its key and its text alone, whatever was computed before; what was returned belongs to the caller.
func TestOfAgain(t *testing.T) {
	for _, key := range allOf([]int{0, 1, 64, 65}) {
		d := Of(key, "abc")
		clear(d[:])
		Of(key, "other")
		Of("other", "abc")
		tryOf(t, key, "abc")
		tryOf(t, key, "abc")
	}
}

// P7.2

func TestLeftRightExamples(t *testing.T) {
	d := Of("Jefe", "what do ya want for nothing?")
	if got := Left(d, 4); got != "\x5b\xdc\xc1\x46" {
		t.Errorf("Left = %x", got)
	}
	if got := Right(d, 2); got != "\x38\x43" {
		t.Errorf("Right = %x", got)
	}
}

func TestLeftRight(t *testing.T) {
	for _, d := range []api.Digest{{}, bytesFrom(0), bytesFrom(240), bytesFrom(255), Of("a", "b")} {
		all := string(d[:])
		for _, n := range counts {
			left, right := all, all
			switch {
			case n < 0:
				left, right = "", ""
			case n <= 32:
				left, right = all[:n], all[len(all)-n:]
			}
			if got := Left(d, n); got != left {
				t.Errorf("Left(%x, %d) = %x, not %x", d, n, got, left)
			}
			if got := Right(d, n); got != right {
				t.Errorf("Right(%x, %d) = %x, not %x", d, n, got, right)
			}
		}
	}
}

// The numbers that the document names, with the bytes written out.
func TestLeftRightEdges(t *testing.T) {
	const all = "0123456789abcdefghijklmnopqrstuv"
	var d api.Digest
	copy(d[:], all)
	for _, x := range []struct {
		n           int
		left, right string
	}{
		{math.MinInt, "", ""}, {-1, "", ""}, {0, "", ""}, {1, "0", "v"}, {4, "0123", "stuv"},
		{31, "0123456789abcdefghijklmnopqrstu", "123456789abcdefghijklmnopqrstuv"},
		{32, all, all}, {33, all, all}, {math.MaxInt, all, all},
	} {
		if got := Left(d, x.n); got != x.left {
			t.Errorf("Left of %d = %q", x.n, got)
		}
		if got := Right(d, x.n); got != x.right {
			t.Errorf("Right of %d = %q", x.n, got)
		}
	}
	if string(d[:]) != all {
		t.Errorf("the digest is %q now", d)
	}
}

func TestSameExamples(t *testing.T) {
	for _, x := range []struct {
		a, b string
		want bool
	}{
		{"ab", "ab", true}, {"ab", "ac", false}, {"ab", "a", false},
		{"a", "ab", false}, {"ab", "bb", false}, {"ab", "ba", false}, {"ab", "AB", false}, {"ab", "b", false}, {"b", "ab", false}, {"aba", "ab", false},
		{"", "", true}, {"", "a", false}, {"a", "", false}, {"a", "a", true}, {"a", "b", false},
		// zeros at the end of one of both
		{"", "\x00", false}, {"\x00", "", false}, {"ab", "ab\x00", false}, {"ab\x00", "ab", false}, {"ab\x00\x00", "ab", false}, {"\x00", "\x00", true}, {"\x00\x00", "\x00", false}, {"\x00ab", "ab", false},
		// differences that cancel each other, and those of the highest bit
		{"ab", "cd", false}, {"\x01\x01", "\x00\x00", false}, {"\x80\x80", "\x00\x00", false}, {"\x01\x02\x03", "\x00\x00\x00", false}, {"\x80", "\x00", false}, {"\xff", "\x00", false}, {"\xff\xff", "\xff\xff", true}, {"\xff\xff", "\xff\xfe", false},
	} {
		if got := Same(x.a, x.b); got != x.want {
			t.Errorf("Same(%q, %q) = %v", x.a, x.b, got)
		}
	}
}

func TestSameIsEqual(t *testing.T) {
	l := allOf([]int{0, 1, 2, 8, 20, 32, 33, 64})
	for _, a := range l {
		for _, b := range l {
			if got := Same(a, b); got != (a == b) {
				t.Errorf("Same(%s, %s), %d and %d bytes, = %v", short(a), short(b), len(a), len(b), got)
			}
		}
	}
}

// Texts that differ in one bit alone, in any byte: the first one and the last one among them.
func TestSameBits(t *testing.T) {
	for _, n := range []int{1, 2, 8, 20, 32, 64} {
		for _, a := range filled(n) {
			copied := string([]byte(a))
			if !Same(a, copied) {
				t.Errorf("%s, %d bytes, is not the same as itself", short(a), n)
			}
			for k := range 8 * n {
				b := changed(a, k/8, 1<<(k%8))
				if Same(a, b) || Same(b, a) {
					t.Errorf("%s, %d bytes: the bit %d does not matter", short(a), n, k)
				}
			}
		}
	}
}

// A text, and a part of it at either end.
func TestSameLengths(t *testing.T) {
	for _, n := range []int{1, 2, 8, 20, 32, 64} {
		for _, a := range filled(n) {
			for k := range n {
				for _, b := range []string{a[:k], a[n-k:], a + a[:k+1]} {
					if Same(a, b) || Same(b, a) {
						t.Errorf("%s of %d bytes is the same as %d of them", short(a), n, len(b))
					}
				}
			}
		}
	}
}

// All bytes of both texts are in the pairs that Same looks at, wherever the first two differ, and whichever text is longer.
func TestGatherHasAllPairs(t *testing.T) {
	for _, x := range []struct{ a, b, want string }{
		{"", "", ""}, {"\x01", "", "\x01"}, {"", "\x01", "\x01"},
		{"\x01\x02\x03", "\xf1\x02\x00", "\xf0\x00\x03"},
		{"\x01\x02\x03", "\x07", "\x06\x02\x03"}, {"\x07", "\x01\x02\x03", "\x06\x02\x03"},
		{"\x00\x00", "\x00\x00\x00\x00", "\x00\x00\x00\x00"},
	} {
		got := gather(x.a, x.b, "", func(all string, difference byte) string { return all + string([]byte{difference}) })
		if got != x.want {
			t.Errorf("the pairs of %x and %x differ by %x, not %x", x.a, x.b, got, x.want)
		}
	}
}

// P7.3

// Zeros behind a key do not matter up to 64 bytes, and matter behind these.
func TestZerosBehindKey(t *testing.T) {
	for _, n := range []int{0, 1, 2, 20, 62, 63, 64} {
		for _, key := range append(filled(n), strings.Repeat("k", n)) {
			for _, text := range []string{"", "a", filled(64)[0]} {
				want := Of(key, text)
				for size := n; size <= 64; size++ {
					if got := Of(key+strings.Repeat("\x00", size-n), text); got != want {
						t.Errorf("%s of %d bytes, with zeros up to %d: %x, not %x", short(key), n, size, got, want)
					}
				}
				for _, size := range []int{65, 66, 128, 200} {
					if Of(key+strings.Repeat("\x00", size-n), text) == want {
						t.Errorf("%s of %d bytes, with zeros up to %d, has the same code", short(key), n, size)
					}
				}
			}
		}
	}
}

// Zeros before a key matter, and so do other bytes behind it.
func TestOtherBytesAtKey(t *testing.T) {
	for _, n := range []int{1, 20, 62, 63} {
		key := strings.Repeat("k", n)
		if Of(key, "a") == Of("\x00"+key, "a") || Of(key, "a") == Of(key+"\x01", "a") {
			t.Errorf("a key of %d bytes has the code of another one", n)
		}
	}
}

// A key of more than 64 bytes is as good as its sum; one of 64 bytes, or fewer, is not.
func TestSumOfKey(t *testing.T) {
	sum := func(key string) string {
		d := sha.Sum(key)
		return string(d[:])
	}
	for _, text := range []string{"", "a", filled(64)[0]} {
		for _, key := range allOf([]int{65, 66, 127, 128, 129, 200, 1000}) {
			if got, want := Of(key, text), Of(sum(key), text); got != want {
				t.Errorf("a key of %d bytes: %x, its sum %x", len(key), got, want)
			}
		}
		for _, key := range allOf([]int{0, 1, 32, 63, 64}) {
			if Of(key, text) == Of(sum(key), text) {
				t.Errorf("a key of %d bytes is as good as its sum", len(key))
			}
		}
	}
}

// Left of n, followed by Right of 32 - n, is the digest.
func TestLeftThenRight(t *testing.T) {
	for _, d := range []api.Digest{bytesFrom(0), bytesFrom(100), Of("", "")} {
		for n := range 33 {
			if got := Left(d, n) + Right(d, 32-n); got != string(d[:]) {
				t.Errorf("%d and %d bytes of %x are %x", n, 32-n, d, got)
			}
		}
		// Below 0, and above 32, one of both is none, and the other one is whole.
		for _, n := range []int{-1 << 40, -2, -1, 33, 34, 1 << 40} {
			if got := Left(d, n) + Right(d, 32-n); got != string(d[:]) {
				t.Errorf("%d and %d bytes of %x are %x", n, 32-n, d, got)
			}
		}
	}
}

// Parts

// The function that computes codes under a key may be called for any number of texts, and the last one is as the first one.
func TestUnderMayBeCalledAgain(t *testing.T) {
	for _, key := range allOf([]int{0, 1, 63, 64, 65}) {
		code := under(key)
		for range 2 {
			for _, text := range []string{"", "a", "ab", filled(65)[0]} {
				if got, want := code(text), codeOf(key, text); got != want {
					t.Errorf("under(%s) of %s = %x, not %x", short(key), short(text), got, want)
				}
			}
		}
	}
}
