package sum

import (
	"math"
	"math/rand"
	"slices"
	"strings"
	"testing"
)

// texts are those of no byte, of one, of an odd and of an even number of bytes, of words that are all 0 or all 65535, and many others, always the same.
func texts() []string {
	all := []string{"", "\x00", "\x01", "\xff", "\x00\x00", "\x00\x01", "\x01\x00", "\xff\xff", "\x01\x02\x03", "\x01\x02\x03\x04", "\xff\xff\x00\x01", "\xff\xfe\x00\x01", "\x00\x00\x00", "\xff\xff\xff", "\x80\x00\x80\x00", "\x7f\xff\x80\x00", "a text of words"}
	for _, n := range []int{4, 5, 12, 13, 64} {
		all = append(all, strings.Repeat("\x00", n), strings.Repeat("\xff", n), strings.Repeat("\x80", n))
	}
	r := rand.New(rand.NewSource(1))
	for n := range 40 {
		b := make([]byte, n)
		r.Read(b)
		all = append(all, string(b))
	}
	return all
}

// evens are those of texts that have an even number of bytes.
func evens() []string {
	return slices.DeleteFunc(texts(), func(s string) bool { return len(s)%2 == 1 })
}

// counted is the sum of words in another way: by the bytes at even and at odd places, with whole multiples of 65535 taken off one by one.
func counted(s string) uint16 {
	n := 0
	for k := range len(s) {
		if k%2 == 0 {
			n += 256 * int(s[k])
		} else {
			n += int(s[k])
		}
		for n > 65535 {
			n -= 65535
		}
	}
	return uint16(n)
}

// halves are a word's two bytes.
func halves(word uint16) string { return string([]byte{byte(word / 256), byte(word % 256)}) }

// wordAt is the word at the place k of a text.
func wordAt(s string, k int) uint16 { return uint16(s[2*k])*256 + uint16(s[2*k+1]) }

// with is s with another word at the place k.
func with(s string, k int, word uint16) string { return s[:2*k] + halves(word) + s[2*k+2:] }

// cuts calls f with all ways to cut s into two and three parts, empty ones too, and with its bytes one by one, with empty parts between them.
func cuts(s string, f func(parts []string)) {
	f([]string{s})
	f([]string{"", s, "", ""})
	for a := range len(s) + 1 {
		f([]string{s[:a], s[a:]})
		for b := a; b <= len(s); b++ {
			f([]string{s[:a], s[a:b], s[b:]})
			f([]string{s[:a], "", s[a:b], "", "", s[b:], ""})
		}
	}
	var single, sparse []string
	for k := range len(s) {
		single = append(single, s[k:k+1])
		sparse = append(sparse, "", s[k:k+1])
	}
	f(single)
	f(sparse)
}

// some are words at which something may turn, and ordinary ones.
var some = []uint16{0, 1, 2, 255, 256, 257, 0x0102, 0x0406, 0x7fff, 0x8000, 0x8001, 0xfefd, 0xff00, 65533, 65534, 65535}

// P3.1

func TestOfExamples(t *testing.T) {
	for _, x := range []struct {
		parts []string
		want  uint16
	}{
		{[]string{"\x01\x02\x03\x04"}, 0x0406}, {[]string{"\x01\x02\x03"}, 0x0402}, {[]string{"\x01", "\x02\x03\x04"}, 0x0406},
		{[]string{"\xff\xff\x00\x01"}, 1}, {nil, 0}, {[]string{"\x00\x00"}, 0},
		{[]string{}, 0}, {[]string{""}, 0}, {[]string{"", "", ""}, 0}, {[]string{"\x00"}, 0}, {[]string{"\x00", "\x00", "\x00"}, 0},
		{[]string{"\x01"}, 256}, {[]string{"\xff"}, 0xff00}, {[]string{"", "\x01", ""}, 256}, {[]string{"\x00\x01"}, 1},
		{[]string{"\x01", "\x02"}, 0x0102}, {[]string{"\x01", "", "\x02"}, 0x0102}, {[]string{"\x01\x02", "\x03"}, 0x0402}, {[]string{"\x01", "\x02", "\x03"}, 0x0402},
		{[]string{"\x01\x02\x03", "\x04"}, 0x0406}, {[]string{"\x01", "\x02", "\x03", "\x04"}, 0x0406},
		{[]string{"\xff\xff"}, 65535}, {[]string{"\xff\xff\xff\xff"}, 65535}, {[]string{"\xff\xff", "\xff\xff", "\xff\xff"}, 65535}, {[]string{"\xff\xff\x00\x00"}, 65535},
		{[]string{"\xff\xfe\x00\x01"}, 65535}, {[]string{"\xff\xfe\x00\x02"}, 1}, {[]string{"\x80\x00\x80\x00"}, 1}, {[]string{"\xff\xff\xff"}, 0xff00},
	} {
		if got := Of(x.parts...); got != x.want {
			t.Errorf("Of(%x) = %04x, not %04x", x.parts, got, x.want)
		}
	}
}

func TestOfIsCounted(t *testing.T) {
	for _, s := range texts() {
		if got, want := Of(s), counted(s); got != want {
			t.Errorf("Of(%x) = %04x, not %04x", s, got, want)
		}
	}
}

// All words of two bytes: the sum of one word is that word, and that of one byte has it as the greater half.
func TestOfOneWord(t *testing.T) {
	for word := range 65536 {
		s := halves(uint16(word))
		if got := Of(s); int(got) != word {
			t.Errorf("Of(%x) = %04x", s, got)
		}
		if got := Of(s[:1], s[1:]); int(got) != word {
			t.Errorf("Of(%x, %x) = %04x", s[:1], s[1:], got)
		}
		if got := Of(s[1:]); int(got) != word%256*256 {
			t.Errorf("Of(%x) = %04x", s[1:], got)
		}
	}
}

func TestOfPartsIsOneText(t *testing.T) {
	for _, s := range texts() {
		want := counted(s)
		cuts(s, func(parts []string) {
			before := slices.Clone(parts)
			if got := Of(parts...); got != want {
				t.Errorf("Of(%x) = %04x, not %04x", parts, got, want)
			}
			if !slices.Equal(parts, before) {
				t.Errorf("%x became %x", before, parts)
			}
		})
	}
}

// The sums of many words: no number of 32 bits holds them before they are folded.
func TestOfManyWords(t *testing.T) {
	for _, n := range []int{1, 2, 255, 256, 65534, 65535, 65536, 65537, 65538, 65539, 1 << 18} {
		for _, word := range some {
			s := strings.Repeat(halves(word), n)
			want := uint16(uint64(n) * uint64(word) % 65535)
			if want == 0 && word != 0 {
				want = 65535
			}
			if got := Of(s); got != want {
				t.Errorf("Of %d words %04x is %04x, not %04x", n, word, got, want)
			}
			if got := Of(s[:n], s[n:]); got != want {
				t.Errorf("Of %d words %04x in two parts is %04x, not %04x", n, word, got, want)
			}
		}
	}
	for _, n := range []int{0, 1, 7, 65535, 65536} {
		if got := Of(slices.Repeat([]string{"\x00"}, n)...); got != 0 {
			t.Errorf("Of %d bytes 0 is %04x", n, got)
		}
	}
}

// Whoever leaves the words early is given none behind that.
func TestWordsAreLeft(t *testing.T) {
	parts := []string{"\x01", "", "\x02\x03\x04\x05", "\x06\x07"}
	all := []uint16{0x0102, 0x0304, 0x0506, 0x0700}
	for stop := range len(all) {
		var got []uint16
		for word := range words(parts...) {
			if got = append(got, word); len(got) > stop {
				break
			}
		}
		if !slices.Equal(got, all[:stop+1]) {
			t.Errorf("%04x, not %04x", got, all[:stop+1])
		}
	}
	row := words(parts...)
	for range 2 {
		if got := slices.Collect(row); !slices.Equal(got, all) {
			t.Errorf("%04x, not %04x", got, all)
		}
	}
}

func TestFoldExamples(t *testing.T) {
	for _, x := range []struct {
		n    uint64
		want uint16
	}{
		{65535, 65535}, {65536, 1}, {math.MaxUint64, 65535},
		{0, 0}, {1, 1}, {2, 2}, {65534, 65534}, {65537, 2}, {131069, 65534}, {131070, 65535}, {131071, 1}, {131072, 2},
		{1 << 32, 1}, {1<<32 - 1, 65535}, {1<<32 - 2, 65534}, {65535 * 65535, 65535}, {1 << 48, 1}, {1 << 63, 1 << 15}, {1<<63 - 1, 1<<15 - 1}, {math.MaxUint64 - 1, 65534}, {math.MaxUint64 - 65534, 1}, {math.MaxUint64 - 65535, 65535},
	} {
		if got := Fold(x.n); got != x.want {
			t.Errorf("Fold(%d) = %d, not %d", x.n, got, x.want)
		}
	}
}

func TestFoldDiffersByMultiple(t *testing.T) {
	r := rand.New(rand.NewSource(2))
	for k := range uint64(200000) {
		for _, n := range []uint64{k, math.MaxUint64 - k, 1<<32 + k, r.Uint64(), r.Uint64() >> (k % 64)} {
			got := uint64(Fold(n))
			if n == 0 && got != 0 || n > 0 && (got == 0 || got > n || (n-got)%65535 != 0) {
				t.Fatalf("Fold(%d) = %d", n, got)
			}
		}
	}
}

func TestSame(t *testing.T) {
	for _, x := range []struct {
		a, b uint16
		want bool
	}{
		{0, 65535, true}, {65535, 0, true}, {0, 0, true}, {65535, 65535, true}, {1, 1, true}, {65534, 65534, true}, {0x8000, 0x8000, true},
		{0, 1, false}, {1, 0, false}, {65534, 65535, false}, {65535, 65534, false}, {0, 65534, false}, {1, 65535, false}, {65535, 1, false}, {1, 65534, false}, {1, 2, false}, {0x0102, 0x0201, false}, {0, 0x8000, false}, {0x7fff, 0x8000, false},
	} {
		if got := Same(x.a, x.b); got != x.want {
			t.Errorf("Same(%d, %d) = %v", x.a, x.b, got)
		}
	}
	for _, a := range some {
		for b := range 65536 {
			d := int(a) - b
			if got := Same(a, uint16(b)); got != (d == 0 || d == 65535 || d == -65535) {
				t.Errorf("Same(%d, %d) = %v", a, b, got)
			}
		}
	}
}

func TestNot(t *testing.T) {
	for _, x := range []struct{ a, want uint16 }{
		{0x0402, 0xfbfd}, {0, 65535}, {65535, 0}, {1, 65534}, {65534, 1}, {0x7fff, 0x8000}, {0x8000, 0x7fff}, {0x00ff, 0xff00},
	} {
		if got := Not(x.a); got != x.want {
			t.Errorf("Not(%04x) = %04x, not %04x", x.a, got, x.want)
		}
	}
	for a := range 65536 {
		if got := Not(uint16(a)); int(got) != 65535-a {
			t.Errorf("Not(%04x) = %04x", a, got)
		}
	}
}

// P3.2

func TestTurnExamples(t *testing.T) {
	for _, x := range []struct{ sum, was, is, want uint16 }{
		{0x0406, 0x0102, 0x0305, 0x0609},
		// was and is equal: a sum is as it was, but for 0
		{0x0406, 0x0102, 0x0102, 0x0406}, {1, 0, 0, 1}, {1, 65535, 65535, 1}, {65535, 7, 7, 65535}, {65534, 7, 7, 65534}, {0, 7, 7, 65535}, {0, 0, 0, 65535}, {0, 65535, 65535, 65535}, {65535, 65535, 65535, 65535}, {65535, 0, 0, 65535},
		// at the ends
		{0, 65535, 0, 0}, {0, 0, 65535, 65535}, {0, 65535, 1, 1}, {0, 1, 0, 65534}, {1, 65535, 0, 1}, {65535, 65535, 0, 65535}, {65535, 0, 65535, 65535}, {65535, 0, 1, 1}, {65535, 1, 0, 65534}, {1, 1, 0, 65535}, {2, 1, 0, 1}, {1, 0, 65535, 1}, {65534, 0, 1, 65535}, {65534, 0, 2, 1}, {0x0406, 0x0406, 0, 65535},
	} {
		if got := Turn(x.sum, x.was, x.is); got != x.want {
			t.Errorf("Turn(%04x, %04x, %04x) = %04x, not %04x", x.sum, x.was, x.is, got, x.want)
		}
	}
}

func TestTurnIsFold(t *testing.T) {
	for _, sum := range some {
		for _, was := range some {
			for _, is := range some {
				n := int(sum) + (65535 - int(was)) + int(is)
				for n > 65535 {
					n -= 65535
				}
				if got := Turn(sum, was, is); int(got) != n {
					t.Errorf("Turn(%04x, %04x, %04x) = %04x, not %04x", sum, was, is, got, n)
				}
			}
		}
	}
}

func TestWholeExamples(t *testing.T) {
	for _, x := range []struct {
		parts []string
		want  bool
	}{
		{[]string{"\xff\xfe\x00\x01"}, true}, {[]string{"\xff\xff"}, true}, {[]string{"\xff", "\xff"}, true}, {[]string{"\xff\xff\x00"}, true}, {[]string{"\xff\xff", "\xff\xff"}, true}, {[]string{"\xff", "\xfe\x00", "", "\x01"}, true}, {[]string{"\xff\x00\x00\xff"}, true}, {[]string{"\x00\xff\xff"}, true}, {[]string{"\x7f\xff\x80\x00"}, true},
		// 0 is equivalent to 65535, but no text of that sum is whole
		{nil, false}, {[]string{""}, false}, {[]string{"", ""}, false}, {[]string{"\x00"}, false}, {[]string{"\x00\x00"}, false}, {[]string{"\x00\x00", "\x00"}, false},
		{[]string{"\xff"}, false}, {[]string{"\xff\xfe"}, false}, {[]string{"\xff\xfe\x00\x02"}, false}, {[]string{"\xff\xff\x00\x01"}, false}, {[]string{"\xff\xfe\x01"}, false}, {[]string{"\xff\xff\xff"}, false}, {[]string{"\x01\x02\x03\x04"}, false}, {[]string{"\xff\xff", "\x01"}, false},
	} {
		if got := Whole(x.parts...); got != x.want {
			t.Errorf("Whole(%x) = %v", x.parts, got)
		}
	}
}

func TestWholeIsOf(t *testing.T) {
	for word := range 65536 {
		if s := halves(uint16(word)); Whole(s) != (word == 65535) {
			t.Errorf("Whole(%x) = %v", s, Whole(s))
		}
	}
	for _, s := range texts() {
		want := counted(s) == 65535
		cuts(s, func(parts []string) {
			if got := Whole(parts...); got != want {
				t.Errorf("Whole(%x) = %v", parts, got)
			}
		})
	}
}

// P3.3

func TestOrderOfWords(t *testing.T) {
	for _, s := range evens() {
		want := Of(s)
		for a := range len(s) / 2 {
			for b := range a {
				other := with(with(s, a, wordAt(s, b)), b, wordAt(s, a))
				if got := Of(other); got != want {
					t.Errorf("Of(%x) = %04x, Of(%x) = %04x", s, want, other, got)
				}
			}
		}
	}
	if Of("\x01\x02") == Of("\x02\x01") {
		t.Error("the order of the bytes of a word matters")
	}
}

func TestZerosAtTheEnd(t *testing.T) {
	for _, s := range texts() {
		for n := range 6 {
			zeros := strings.Repeat("\x00", n)
			if got := Of(s + zeros); got != Of(s) {
				t.Errorf("Of(%x) = %04x, with %d zeros %04x", s, Of(s), n, got)
			}
			if got := Of(s, zeros); got != Of(s) {
				t.Errorf("Of(%x) = %04x, with a part of %d zeros %04x", s, Of(s), n, got)
			}
		}
	}
}

func TestSumOfSums(t *testing.T) {
	for _, a := range evens() {
		for _, b := range evens() {
			sums := uint64(Of(a)) + uint64(Of(b))
			if got := Of(a, b); got != Fold(sums) {
				t.Errorf("Of(%x, %x) = %04x, not %04x", a, b, got, Fold(sums))
			}
			if got := Of(halves(Of(a)), halves(Of(b))); got != Of(a, b) {
				t.Errorf("the sums of %x and %x have the sum %04x, not %04x", a, b, got, Of(a, b))
			}
		}
	}
}

func TestOneOtherByte(t *testing.T) {
	for _, s := range texts() {
		was := Of(s)
		for k := range len(s) {
			for by := 1; by < 256; by++ {
				other := s[:k] + string([]byte{s[k] + byte(by)}) + s[k+1:]
				if got := Of(other); got == was || Same(got, was) {
					t.Errorf("Of(%x) = %04x, Of(%x) = %04x", s, was, other, got)
				}
			}
		}
	}
}

func TestTurnedIsAnew(t *testing.T) {
	for _, s := range evens() {
		for k := range len(s) / 2 {
			for _, word := range append([]uint16{wordAt(s, k)}, some...) {
				turned, anew := Turn(Of(s), wordAt(s, k), word), Of(with(s, k, word))
				if !Same(turned, anew) {
					t.Errorf("%x, the word %d becomes %04x: %04x, anew %04x", s, k, word, turned, anew)
				}
			}
		}
	}
}

func TestComplementMakesWhole(t *testing.T) {
	try := func(parts ...string) {
		if !Whole(parts...) {
			t.Errorf("%x is not whole: %04x", parts, Of(parts...))
		}
	}
	for _, s := range texts() {
		for k := range len(s)/2 + 1 {
			// A word 0 is laid between the words of s, and its place is given the complement.
			zero := s[:2*k] + "\x00\x00" + s[2*k:]
			own := halves(Not(Of(zero)))
			try(s[:2*k] + own + s[2*k:])
			try(s[:2*k], own, s[2*k:])
			try(s[:2*k]+own[:1], own[1:]+s[2*k:])
		}
	}
}
