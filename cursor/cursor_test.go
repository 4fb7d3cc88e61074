package cursor

import (
	"encoding/binary"
	"math"
	"math/rand"
	"strings"
	"testing"

	"plait/api"
)

// widths are those of numbers, in bytes.
var widths = []int{1, 2, 4, 8}

// before are texts behind which something is put, or that are read first.
var before = []string{"", "a", "\x00", "\xff\xfe", "plait: \x00\x80\xff", strings.Repeat("long ", 100)}

// top is the greatest number of that many bytes.
func top(width int) uint64 { return math.MaxUint64 >> (64 - 8*width) }

// encoded is n as that many bytes, by the library.
func encoded(width int, n uint64) string {
	return string(binary.BigEndian.AppendUint64(nil, n)[8-width:])
}

// put is the Put of that width.
func put(width int, s string, n uint64) string {
	switch width {
	case 1:
		return Put8(s, uint8(n))
	case 2:
		return Put16(s, uint16(n))
	case 4:
		return Put32(s, uint32(n))
	}
	return Put64(s, n)
}

// next is the reading of that width.
func next(c *Cursor, width int) uint64 {
	switch width {
	case 1:
		return uint64(c.U8())
	case 2:
		return uint64(c.U16())
	case 4:
		return uint64(c.U32())
	}
	return c.U64()
}

// numbers are the ends of that width, those at which a byte turns, and many others, always the same.
func numbers(width int) []uint64 {
	all := []uint64{0, 1, 2, 0x7f, 0x80, top(width) - 1, top(width), top(width) >> 1, top(width)>>1 + 1, 0x0102030405060708 & top(width), 0xf0e0d0c0b0a09080 & top(width)}
	for k := 1; k < width; k++ {
		all = append(all, top(k)-1, top(k), top(k)+1)
	}
	r := rand.New(rand.NewSource(int64(width)))
	for range 500 {
		all = append(all, r.Uint64()&top(width))
	}
	return all
}

// stands checks what Left, At and End return.
func stands(t *testing.T, what string, c *Cursor, left, at int, end api.Errno) {
	t.Helper()
	if gotLeft, gotAt, gotEnd := c.Left(), c.At(), c.End(); gotLeft != left || gotAt != at || gotEnd != end {
		t.Errorf("%s: Left %d, At %d, End %d, not %d, %d, %d", what, gotLeft, gotAt, gotEnd, left, at, end)
	}
}

// staysBroken checks that a cursor is broken, at that place, and that nothing that is asked of it changes this.
func staysBroken(t *testing.T, what string, c *Cursor, at int) {
	t.Helper()
	for range 2 {
		stands(t, what, c, 0, at, api.ErrShort)
		for _, width := range widths {
			if got := next(c, width); got != 0 {
				t.Errorf("%s: %d bytes of a broken cursor are %d", what, width, got)
			}
			stands(t, what, c, 0, at, api.ErrShort)
		}
		for _, n := range []int{0, 1, -1, math.MaxInt, math.MinInt} {
			if got := c.Take(n); got != "" {
				t.Errorf("%s: Take(%d) of a broken cursor is %q", what, n, got)
			}
			stands(t, what, c, 0, at, api.ErrShort)
		}
	}
}

// P2.1

func TestPutExamples(t *testing.T) {
	for _, x := range []struct{ got, want string }{
		{Put16("a", 258), "a\x01\x02"},
		{Put8("", 0), "\x00"}, {Put8("", 255), "\xff"}, {Put8("ab", 0), "ab\x00"}, {Put8("ab", 255), "ab\xff"}, {Put8("ab", 'c'), "abc"},
		{Put16("", 0), "\x00\x00"}, {Put16("", 65535), "\xff\xff"}, {Put16("ab", 0), "ab\x00\x00"}, {Put16("ab", 65535), "ab\xff\xff"}, {Put16("", 1), "\x00\x01"}, {Put16("", 256), "\x01\x00"},
		{Put32("", 0), "\x00\x00\x00\x00"}, {Put32("", 1<<32-1), "\xff\xff\xff\xff"}, {Put32("ab", 0), "ab\x00\x00\x00\x00"}, {Put32("ab", 1<<32-1), "ab\xff\xff\xff\xff"}, {Put32("", 0x01020304), "\x01\x02\x03\x04"}, {Put32("", 1), "\x00\x00\x00\x01"},
		{Put64("", 0), "\x00\x00\x00\x00\x00\x00\x00\x00"}, {Put64("", 1<<64-1), "\xff\xff\xff\xff\xff\xff\xff\xff"}, {Put64("ab", 0), "ab\x00\x00\x00\x00\x00\x00\x00\x00"}, {Put64("ab", 1<<64-1), "ab\xff\xff\xff\xff\xff\xff\xff\xff"}, {Put64("", 0x0102030405060708), "\x01\x02\x03\x04\x05\x06\x07\x08"}, {Put64("", 1), "\x00\x00\x00\x00\x00\x00\x00\x01"},
	} {
		if x.got != x.want {
			t.Errorf("%x, not %x", x.got, x.want)
		}
	}
}

func TestPutIsTextThenBytes(t *testing.T) {
	for _, width := range widths {
		for _, n := range numbers(width) {
			for _, s := range before {
				if got := put(width, s, n); got != s+encoded(width, n) {
					t.Errorf("%d of %d bytes behind %q: %q", n, width, s, got)
				}
			}
		}
	}
}

// The term says it by powers of 256: this holds without any of the library's words on it.
func TestPutIsSumOfPowers(t *testing.T) {
	for _, width := range widths {
		for _, n := range numbers(width) {
			s := put(width, "", n)
			var sum, power uint64 = 0, 1
			for k := len(s) - 1; k >= 0; k-- {
				sum += uint64(s[k]) * power
				power *= 256
			}
			if len(s) != width || sum != n {
				t.Errorf("%d of %d bytes is %x", n, width, s)
			}
		}
	}
}

// P2.2

func TestReadExamples(t *testing.T) {
	c := Read("\x01\x02\x03")
	if got := c.U16(); got != 258 {
		t.Error(got)
	}
	stands(t, "after U16", c, 1, 2, api.ErrForm)
	if got := c.U16(); got != 0 {
		t.Error(got)
	}
	stands(t, "after the second U16", c, 0, 2, api.ErrShort)

	c = Read("\x00\x00\x01\x00\x07")
	if got := c.U32(); got != 256 {
		t.Error(got)
	}
	stands(t, "after U32", c, 1, 4, api.ErrForm)
	if got := c.Take(1); got != "\x07" {
		t.Errorf("%q", got)
	}
	stands(t, "after Take", c, 0, 5, api.OK)

	c = Read("\x01")
	if got := c.Take(-1); got != "" {
		t.Errorf("%q", got)
	}
	if got := c.U8(); got != 0 {
		t.Error(got)
	}
	staysBroken(t, "after Take(-1)", c, 0)
}

func TestReadOfEachWidth(t *testing.T) {
	for _, width := range widths {
		for _, n := range numbers(width) {
			for _, s := range before {
				for _, more := range []string{"", "z", "\x00\xff"} {
					c := Read(s + encoded(width, n) + more)
					if got := c.Take(len(s)); got != s {
						t.Errorf("Take(%d) is %q, not %q", len(s), got, s)
					}
					if got := next(c, width); got != n {
						t.Errorf("%d bytes are %d, not %d", width, got, n)
					}
					end := api.OK
					if more != "" {
						end = api.ErrForm
					}
					stands(t, "behind a number", c, len(more), len(s)+width, end)
				}
			}
		}
	}
}

func TestTooFewForWidth(t *testing.T) {
	const text = "\xf1\xf2\xf3\xf4\xf5\xf6\xf7\xf8"
	for _, width := range widths {
		for have := range width {
			for _, s := range before {
				c := Read(s + text[:have])
				c.Take(len(s))
				if got := next(c, width); got != 0 {
					t.Errorf("%d bytes of %d are %d", width, have, got)
				}
				staysBroken(t, "too few", c, len(s))
			}
		}
	}
}

func TestTake(t *testing.T) {
	for _, s := range before {
		for from := range len(s) + 1 {
			for n := range len(s) - from + 1 {
				c := Read(s)
				c.Take(from)
				if got := c.Take(n); got != s[from:from+n] {
					t.Errorf("Take(%d) at %d of %q is %q", n, from, s, got)
				}
				end := api.OK
				if from+n < len(s) {
					end = api.ErrForm
				}
				stands(t, "after Take", c, len(s)-from-n, from+n, end)
			}
		}
	}
}

func TestTakeOfWrongNumbers(t *testing.T) {
	for _, s := range before {
		for from := range len(s) + 1 {
			left := len(s) - from
			for _, n := range []int{-1, -2, -from, -from - 1, -len(s) - 1, math.MinInt, math.MinInt + 1, left + 1, left + 2, len(s) + 1, 1 << 31, 1<<32 + left, math.MaxInt - 1, math.MaxInt} {
				if n == 0 {
					continue
				}
				c := Read(s)
				c.Take(from)
				if got := c.Take(n); got != "" {
					t.Errorf("Take(%d) at %d of %q is %q", n, from, s, got)
				}
				staysBroken(t, "after a wrong Take", c, from)
			}
		}
	}
}

func TestTakeOfNone(t *testing.T) {
	c := Read("ab")
	for _, at := range []int{0, 1, 2} {
		for range 3 {
			if got := c.Take(0); got != "" {
				t.Errorf("%q", got)
			}
			end := api.ErrForm
			if at == 2 {
				end = api.OK
			}
			stands(t, "after Take(0)", c, 2-at, at, end)
		}
		if at < 2 {
			c.U8()
		}
	}
	c = Read("")
	if got := c.Take(0); got != "" {
		t.Errorf("%q", got)
	}
	stands(t, "after Take(0) of an empty text", c, 0, 0, api.OK)
}

func TestCursorsAreApart(t *testing.T) {
	const s = "\x01\x02\x03"
	a, b := Read(s), Read(s)
	if a.U8() != 1 || a.U8() != 2 || b.U8() != 1 {
		t.Error("one cursor moves another one")
	}
	b.Take(-1)
	stands(t, "the one that is not broken", a, 1, 2, api.ErrForm)
	stands(t, "the one that is broken", b, 0, 1, api.ErrShort)
	if got := a.U8(); got != 3 {
		t.Error(got)
	}
}

// P2.3

func TestLeftAtEndOnTheWay(t *testing.T) {
	stands(t, "empty", Read(""), 0, 0, api.OK)
	c := Read("abcdefghijklmno")
	stands(t, "at first", c, 15, 0, api.ErrForm)
	c.U8()
	stands(t, "after U8", c, 14, 1, api.ErrForm)
	c.U16()
	stands(t, "after U16", c, 12, 3, api.ErrForm)
	c.U32()
	stands(t, "after U32", c, 8, 7, api.ErrForm)
	c.U64()
	stands(t, "at the end", c, 0, 15, api.OK)
	stands(t, "asked once more", c, 0, 15, api.OK)
	c.U8()
	staysBroken(t, "behind the end", c, 15)
}

// What is too wide breaks a cursor even if a narrower number would be there.
func TestBrokenIsKeptWithBytesLeft(t *testing.T) {
	for _, width := range widths[1:] {
		c := Read("\xff" + strings.Repeat("\xff", width-1))
		c.U8()
		next(c, width)
		staysBroken(t, "with bytes left", c, 1)
	}
	c := Read("abc")
	c.Take(4)
	staysBroken(t, "Take with bytes left", c, 0)
}

func TestNilCursor(t *testing.T) {
	var c *Cursor
	for range 2 {
		for _, width := range widths {
			if got := next(c, width); got != 0 {
				t.Errorf("%d bytes are %d", width, got)
			}
		}
		for _, n := range []int{0, 1, -1, math.MaxInt, math.MinInt} {
			if got := c.Take(n); got != "" {
				t.Errorf("Take(%d) is %q", n, got)
			}
		}
		stands(t, "nil", c, 0, 0, api.ErrNil)
	}
}

// P2.4

// field is a number that is put, and read, in that many bytes.
type field struct {
	width int
	n     uint64
}

// rows are rows of numbers of mixed widths: each two and three widths at their ends, and many others, always the same.
func rows() [][]field {
	all := [][]field{nil}
	for _, a := range widths {
		for _, b := range widths {
			all = append(all, []field{{a, 0}, {b, top(b)}}, []field{{a, top(a)}, {b, 0}})
			for _, c := range widths {
				all = append(all, []field{{a, 1}, {b, top(b) - 1}, {c, 0x8182838485868788 & top(c)}})
			}
		}
	}
	r := rand.New(rand.NewSource(3))
	for range 200 {
		var row []field
		for range r.Intn(12) {
			width := widths[r.Intn(len(widths))]
			row = append(row, field{width, r.Uint64() & top(width)})
		}
		all = append(all, row)
	}
	return all
}

// putAll puts a row, one number after the other.
func putAll(row []field) string {
	s := ""
	for _, f := range row {
		s = put(f.width, s, f.n)
	}
	return s
}

func TestRowsAreReadBack(t *testing.T) {
	for _, row := range rows() {
		c := Read(putAll(row))
		for k, f := range row {
			if got := next(c, f.width); got != f.n {
				t.Errorf("number %d of %v is %d", k, row, got)
			}
		}
		stands(t, "a row", c, 0, len(putAll(row)), api.OK)
	}
}

func TestRowsCutAnywhere(t *testing.T) {
	for _, row := range rows() {
		s := putAll(row)
		for cut := range len(s) {
			c := Read(s[:cut])
			at, broken := 0, false
			for k, f := range row {
				want := uint64(0)
				if broken = broken || at+f.width > cut; !broken {
					want = f.n
					at += f.width
				}
				if got := next(c, f.width); got != want {
					t.Errorf("number %d of %v, cut at %d, is %d, not %d", k, row, cut, got, want)
				}
				if broken {
					stands(t, "behind the cut", c, 0, at, api.ErrShort)
				} else if c.At() != at || c.Left() != cut-at || c.End() == api.ErrShort {
					t.Errorf("before the cut at %d: At %d, Left %d, End %d", cut, c.At(), c.Left(), c.End())
				}
			}
			staysBroken(t, "a row that was cut", c, at)
		}
	}
}

func TestTextsBetweenNumbers(t *testing.T) {
	for _, text := range before {
		s := Put64(Put16("", uint16(len(text)))+text, 7)
		c := Read(s)
		if got := c.Take(int(c.U16())); got != text {
			t.Errorf("%q, not %q", got, text)
		}
		if got := c.U64(); got != 7 {
			t.Error(got)
		}
		stands(t, "a text between numbers", c, 0, len(s), api.OK)
		for cut := 2; cut < 2+len(text); cut++ {
			c := Read(s[:cut])
			if got := c.Take(int(c.U16())); got != "" {
				t.Errorf("cut at %d: %q", cut, got)
			}
			staysBroken(t, "a text that was cut", c, 2)
		}
	}
}

func TestOrderIsThatOfBytes(t *testing.T) {
	for _, width := range widths {
		all := numbers(width)
		for _, a := range all {
			for _, b := range all {
				x, y := put(width, "", a), put(width, "", b)
				if (x < y) != (a < b) || (x == y) != (a == b) {
					t.Errorf("%d and %d of %d bytes: %x and %x", a, b, width, x, y)
				}
			}
		}
	}
}
