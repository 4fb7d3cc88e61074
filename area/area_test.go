package area

import (
	"math"
	"math/rand"
	"slices"
	"strings"
	"testing"

	"plait/api"
)

// item is an item of that Kind and Body.
func item(kind int, body string) api.Item { return api.Item{Kind: kind, Body: body} }

// filled is an item of n bytes in all.
func filled(kind, n int) api.Item { return item(kind, strings.Repeat("x", n-2)) }

// built is what Lay and Size should return, in another way: every condition by itself, and the bytes item by item, in multiples of four.
func built(l []api.Item) (string, api.Errno) {
	s := ""
	for _, x := range l {
		if x.Kind < 2 || x.Kind > 255 || len(x.Body) > 253 {
			return "", api.ErrArg
		}
		s += string([]byte{byte(x.Kind), byte(len(x.Body) + 2)}) + x.Body
	}
	if len(s) > 40 {
		return "", api.ErrRoom
	}
	for len(s)%4 != 0 {
		s += "\x00"
	}
	return s, api.OK
}

// taken is what Walk should return, in another way: byte by byte, with what is awaited next.
func taken(s string) ([]api.Item, api.Errno) {
	if len(s) > 40 {
		return nil, api.ErrRoom
	}
	if len(s)%4 != 0 {
		return nil, api.ErrForm
	}
	var l []api.Item
	const kind, length, body = 0, 1, 2
	awaited, missing := kind, 0
	for _, b := range []byte(s) {
		switch awaited {
		case kind:
			if b == 0 {
				return l, api.OK
			}
			if b > 1 {
				l = append(l, item(int(b), ""))
				awaited = length
			}
		case length:
			if b < 2 {
				return nil, api.ErrForm
			}
			awaited, missing = body, int(b)-2
		case body:
			l[len(l)-1].Body += string([]byte{b})
			missing--
		}
		if awaited == body && missing == 0 {
			awaited = kind
		}
	}
	if awaited != kind {
		return nil, api.ErrShort
	}
	return l, api.OK
}

// tryLay checks Lay and Size of l, and that l is as it was.
func tryLay(t *testing.T, want string, code api.Errno, l ...api.Item) {
	t.Helper()
	before := slices.Clone(l)
	if got, err := Lay(l...); got != want || err != code {
		t.Errorf("Lay(%x) = %x, %v, not %x, %v", l, got, err, want, code)
	}
	if got := Size(l...); got != len(want) {
		t.Errorf("Size(%x) = %d, not %d", l, got, len(want))
	}
	if !slices.Equal(l, before) {
		t.Errorf("%x became %x", before, l)
	}
}

// tryWalk checks Walk of s.
func tryWalk(t *testing.T, s string, code api.Errno, want ...api.Item) {
	t.Helper()
	if got, err := Walk(s); !slices.Equal(got, want) || err != code {
		t.Errorf("Walk(%x) = %x, %v, not %x, %v", s, got, err, want, code)
	}
}

// lists are lists of items of all sizes together, from none to more than there is room for, of Kinds and Bodies that contain the bytes of which an area consists; always the same.
func lists() [][]api.Item {
	all := [][]api.Item{nil, {}, {item(2, "")}, {item(255, "")}, {item(30, "ab")}, {item(3, "x"), item(2, "")}, {filled(9, 40)}, {filled(9, 41)}, {item(4, "\x00\x01\x02\x00")}, {item(2, "\x02\x02"), item(2, "")}, slices.Repeat([]api.Item{item(2, "")}, 20), slices.Repeat([]api.Item{item(2, "")}, 21)}
	r := rand.New(rand.NewSource(1))
	for k := range 3000 {
		var l []api.Item
		for range r.Intn(9) {
			body := make([]byte, r.Intn(1+k%12))
			for i := range body {
				body[i] = byte(r.Intn(4 + k%253))
			}
			l = append(l, item(2+r.Intn(1+k%254), string(body)))
		}
		all = append(all, l)
	}
	return all
}

// areas calls f with all texts of 4 and of 8 bytes of the least bytes and the greatest one, and with others of up to 40 bytes, most of which have many items.
func areas(f func(s string)) {
	small := func(n int, bytes string) {
		s := make([]byte, n)
		var fill func(at int)
		fill = func(at int) {
			if at == n {
				f(string(s))
				return
			}
			for _, b := range []byte(bytes) {
				s[at] = b
				fill(at + 1)
			}
		}
		fill(0)
	}
	small(0, "")
	small(4, "\x00\x01\x02\x03\x04\x05\x06\xff")
	small(8, "\x00\x01\x02\x03\x04")
	r := rand.New(rand.NewSource(2))
	for k := range 60000 {
		s := make([]byte, 4*r.Intn(11))
		for i := range s {
			s[i] = byte(r.Intn(3 + k%9))
			if k%3 == 0 && s[i] == 0 {
				s[i] = 1
			}
		}
		f(string(s))
	}
}

// P4.1

func TestLayExamples(t *testing.T) {
	tryLay(t, "\x1e\x04ab", api.OK, item(30, "ab"))
	tryLay(t, "\x03\x03x\x02\x02\x00\x00\x00", api.OK, item(3, "x"), item(2, ""))
	tryLay(t, "", api.ErrArg, item(1, ""))
	tryLay(t, "", api.ErrRoom, item(5, strings.Repeat("a", 20)), item(6, strings.Repeat("b", 20)))
}

func TestLayNone(t *testing.T) {
	tryLay(t, "", api.OK)
	tryLay(t, "", api.OK, []api.Item{}...)
}

func TestLayWithoutBody(t *testing.T) {
	tryLay(t, "\x07\x02\x00\x00", api.OK, item(7, ""))
	tryLay(t, "\x07\x02\x08\x02", api.OK, item(7, ""), item(8, ""))
	tryLay(t, "\x07\x02\x07\x02\x07\x02\x00\x00", api.OK, item(7, ""), item(7, ""), item(7, ""))
	tryLay(t, strings.Repeat("\xff\x02", 20), api.OK, slices.Repeat([]api.Item{item(255, "")}, 20)...)
	tryLay(t, "", api.ErrRoom, slices.Repeat([]api.Item{item(255, "")}, 21)...)
}

func TestLayKinds(t *testing.T) {
	for kind := -300; kind <= 600; kind++ {
		want, code := "", api.ErrArg
		if kind >= 2 && kind <= 255 {
			want, code = string([]byte{byte(kind), 3, 'a', 0}), api.OK
		}
		tryLay(t, want, code, item(kind, "a"))
	}
	for _, kind := range []int{math.MinInt, math.MinInt32, -1 << 16, 1 << 16, 1<<16 + 30, 1 << 32, 1<<32 + 30, math.MaxInt32, math.MaxInt} {
		tryLay(t, "", api.ErrArg, item(kind, ""))
		tryLay(t, "", api.ErrArg, item(30, ""), item(kind, ""))
	}
}

// A Body of 253 bytes is valid, and only too long for an area.
func TestLayLongBodies(t *testing.T) {
	for n := range 600 {
		body := strings.Repeat("b", n)
		want, code := built([]api.Item{item(30, body)})
		tryLay(t, want, code, item(30, body))
		switch {
		case n <= 38 && code == api.OK, n > 38 && n <= 253 && code == api.ErrRoom, n > 253 && code == api.ErrArg:
		default:
			t.Errorf("a Body of %d bytes: %v", n, code)
		}
	}
	tryLay(t, "", api.ErrRoom, item(2, strings.Repeat("b", 253)))
	tryLay(t, "", api.ErrArg, item(2, strings.Repeat("b", 254)))
	tryLay(t, "", api.ErrArg, item(2, strings.Repeat("b", 256)))
	tryLay(t, "", api.ErrArg, item(2, strings.Repeat("b", 1<<16)))
}

// From 37 to 40 bytes together make an area of 40, and 41 make none, however many items they are.
func TestLayAtTheLimit(t *testing.T) {
	tryLay(t, "\x09\x24"+strings.Repeat("x", 34), api.OK, filled(9, 36))
	tryLay(t, "\x09\x25"+strings.Repeat("x", 35)+"\x00\x00\x00", api.OK, filled(9, 37))
	tryLay(t, "\x09\x26"+strings.Repeat("x", 36)+"\x00\x00", api.OK, filled(9, 38))
	tryLay(t, "\x09\x27"+strings.Repeat("x", 37)+"\x00", api.OK, filled(9, 39))
	tryLay(t, "\x09\x28"+strings.Repeat("x", 38), api.OK, filled(9, 40))
	tryLay(t, "", api.ErrRoom, filled(9, 41))
	for n := 37; n <= 41; n++ {
		for a := 2; a <= n-4; a++ {
			for b := 2; b <= n-a-2; b++ {
				l := []api.Item{filled(9, a), filled(8, b), filled(7, n-a-b)}
				want, code := built(l)
				if (code == api.OK) != (n <= 40) || code == api.OK && len(want) != 40 {
					t.Fatalf("%d bytes together should make %d, %v", n, len(want), code)
				}
				tryLay(t, want, code, l...)
			}
		}
	}
}

// An item that is not valid counts before too many bytes, wherever it is.
func TestLayArgBeforeRoom(t *testing.T) {
	long := []api.Item{filled(9, 41)}
	many := slices.Repeat([]api.Item{item(7, "abc")}, 30)
	for _, wrong := range []api.Item{item(0, ""), item(1, ""), item(256, ""), item(-1, ""), item(-30, "abc"), item(30, strings.Repeat("b", 254))} {
		for _, l := range [][]api.Item{long, many, {filled(9, 40)}, {item(30, "ab")}, nil} {
			for at := range len(l) + 1 {
				tryLay(t, "", api.ErrArg, slices.Insert(slices.Clone(l), at, wrong)...)
			}
		}
	}
	tryLay(t, "", api.ErrRoom, long...)
	tryLay(t, "", api.ErrRoom, many...)
}

func TestLayIsBuilt(t *testing.T) {
	for _, l := range lists() {
		want, code := built(l)
		tryLay(t, want, code, l...)
		if len(want)%4 != 0 || len(want) > api.MaxArea {
			t.Errorf("%x: %d bytes", l, len(want))
		}
	}
}

// P4.2

func TestWalkExamples(t *testing.T) {
	tryWalk(t, "\x01\x01\x05\x02\x00\x09\x09\x09", api.OK, item(5, ""))
	tryWalk(t, "\x01\x05", api.ErrForm)
	tryWalk(t, "\x05\x03\x00\x01", api.OK, item(5, "\x00"))
	tryWalk(t, "\x05\x01\x00\x00", api.ErrForm)
	tryWalk(t, "\x01\x01\x01\x05", api.ErrShort)
}

// Of what length an area may be is told before what is in it.
func TestWalkLengths(t *testing.T) {
	for n := range 300 {
		want := api.OK
		switch {
		case n > 40:
			want = api.ErrRoom
		case n%4 != 0:
			want = api.ErrForm
		}
		tryWalk(t, strings.Repeat("\x00", n), want)
		tryWalk(t, strings.Repeat("\x01", n), want)
		short := want
		if n > 0 && want == api.OK {
			short = api.ErrShort
		}
		tryWalk(t, strings.Repeat("\xff", n), short)
	}
	tryWalk(t, "", api.OK)
	tryWalk(t, "\x1e\x04ab", api.OK, item(30, "ab"))
	tryWalk(t, "\x1e\x24"+strings.Repeat("x", 34), api.OK, filled(30, 36))
	tryWalk(t, "\x1e\x28"+strings.Repeat("x", 38), api.OK, filled(30, 40))
	tryWalk(t, "\x1e\x29"+strings.Repeat("x", 39), api.ErrRoom)
	tryWalk(t, "\x1e\x2c"+strings.Repeat("x", 42), api.ErrRoom)
	tryWalk(t, strings.Repeat("\x07\x02", 20), api.OK, slices.Repeat([]api.Item{item(7, "")}, 20)...)
	tryWalk(t, "\x05\x01\x00\x00\x00", api.ErrForm)
	tryWalk(t, "\x05", api.ErrForm)
	tryWalk(t, "\x05\x09a", api.ErrForm)
}

func TestWalkSkips(t *testing.T) {
	a, b := item(5, "a"), item(6, "\x01\x01")
	tryWalk(t, "\x01\x05\x03a\x06\x04\x01\x01", api.OK, a, b)
	tryWalk(t, "\x05\x03a\x01\x06\x04\x01\x01", api.OK, a, b)
	tryWalk(t, "\x05\x03a\x06\x04\x01\x01\x01", api.OK, a, b)
	tryWalk(t, "\x01\x01\x05\x03a\x01\x01\x06\x04\x01\x01\x01", api.OK, a, b)
	tryWalk(t, "\x01\x05\x03a\x01\x01\x01\x01", api.OK, a)
	tryWalk(t, "\x01\x01\x01\x01", api.OK)
	tryWalk(t, "\x05\x02\x01\x06\x02\x01\x07\x02", api.OK, item(5, ""), item(6, ""), item(7, ""))
	for before := range 37 {
		s := strings.Repeat("\x01", before) + "\x05\x03a" + strings.Repeat("\x01", 37-before)
		tryWalk(t, s, api.OK, a)
	}
}

// Behind a byte 0 there may be anything: items, and wrong ones.
func TestWalkEnds(t *testing.T) {
	for _, rest := range []string{"\x00\x00\x00", "\x01\x01\x01", "\x05\x02\x00", "\x05\x02\x05", "\x05\x01\x00", "\x05\x00\x00", "\x05\xff\x00", "\x00\x05\x02", "\x01\x01\x05", "\xff\xff\xff"} {
		tryWalk(t, "\x00"+rest, api.OK)
		tryWalk(t, "\x07\x04ab\x00"+rest, api.OK, item(7, "ab"))
		tryWalk(t, "\x07\x04\x00\x00\x00"+rest, api.OK, item(7, "\x00\x00"))
		tryWalk(t, "\x01\x07\x03a\x00"+rest, api.OK, item(7, "a"))
		tryWalk(t, "\x01\x01\x01\x01\x00"+rest, api.OK)
		tryWalk(t, "\x07\x02\x08\x02\x00"+rest, api.OK, item(7, ""), item(8, ""))
		tryWalk(t, "\x00"+rest+"\x07\x04ab", api.OK)
	}
}

// The second byte of an item is missing, is 0, 1 and 2, or says more bytes than there are: of the first one, behind bytes 1, and behind other items.
func TestWalkWrongItems(t *testing.T) {
	for _, front := range []struct {
		s string
		l []api.Item
	}{
		{"", nil}, {"\x01\x01\x01\x01", nil}, {"\x07\x04ab", []api.Item{item(7, "ab")}}, {"\x01\x07\x03\x00", []api.Item{item(7, "\x00")}}, {"\x07\x02\x08\x02", []api.Item{item(7, ""), item(8, "")}}, {"\x07\x24" + strings.Repeat("\x00", 34), []api.Item{item(7, strings.Repeat("\x00", 34))}},
	} {
		for _, kind := range []string{"\x02", "\x05", "\x1e", "\xff"} {
			number := int(kind[0])
			tryWalk(t, front.s+"\x01\x01\x01"+kind, api.ErrShort)
			tryWalk(t, front.s+kind+"\x00\x00\x00", api.ErrForm)
			tryWalk(t, front.s+kind+"\x01\x00\x00", api.ErrForm)
			tryWalk(t, front.s+"\x01\x01"+kind+"\x00", api.ErrForm)
			tryWalk(t, front.s+"\x01\x01"+kind+"\x01", api.ErrForm)
			tryWalk(t, front.s+"\x01\x01"+kind+"\x02", api.OK, append(slices.Clone(front.l), item(number, ""))...)
			tryWalk(t, front.s+kind+"\x02\x00\x00", api.OK, append(slices.Clone(front.l), item(number, ""))...)
			tryWalk(t, front.s+kind+"\x03a\x00", api.OK, append(slices.Clone(front.l), item(number, "a"))...)
			tryWalk(t, front.s+kind+"\x04ab", api.OK, append(slices.Clone(front.l), item(number, "ab"))...)
			tryWalk(t, front.s+"\x01\x01"+kind+"\x03", api.ErrShort)
			tryWalk(t, front.s+kind+"\x05ab", api.ErrShort)
			tryWalk(t, front.s+kind+"\x28ab", api.ErrShort)
			tryWalk(t, front.s+kind+"\xff\x00\x00", api.ErrShort)
		}
	}
}

func TestWalkFirstWrongItemCounts(t *testing.T) {
	// the first one has no room, or no form; whatever would be the next one has the other error
	tryWalk(t, "\x05\x01\x01\x05", api.ErrForm)
	tryWalk(t, "\x05\x00\x06\x09", api.ErrForm)
	tryWalk(t, "\x05\x01\x06\x01", api.ErrForm)
	tryWalk(t, "\x05\x09\x06\x01", api.ErrShort)
	tryWalk(t, "\x05\x09\x06\x00", api.ErrShort)
	tryWalk(t, "\x07\x02\x05\x01\x06\x09\x01\x05", api.ErrForm)
	tryWalk(t, "\x07\x02\x05\x09\x06\x01\x01\x05", api.ErrShort)
	tryWalk(t, "\x01\x05\x00\x06\x02\x07\x08\x05", api.ErrForm)
	tryWalk(t, "\x01\x05\x0a\x06\x01\x07\x01\x05", api.ErrShort)
}

func TestWalkIsTaken(t *testing.T) {
	counts := map[api.Errno]int{}
	try := func(s string) {
		want, code := taken(s)
		counts[code]++
		tryWalk(t, s, code, want...)
	}
	areas(try)
	areas(func(s string) {
		if len(s) > 32 {
			try(s[1:])
			try(s + s)
		}
	})
	for _, code := range []api.Errno{api.OK, api.ErrShort, api.ErrForm, api.ErrRoom} {
		if counts[code] < 100 {
			t.Errorf("only %d texts are %v", counts[code], code)
		}
	}
}

// With an error there is no item, however many were read before it.
func TestWalkErrorsAlone(t *testing.T) {
	areas(func(s string) {
		if l, err := Walk(s); err != api.OK && len(l) != 0 {
			t.Errorf("Walk(%x) = %x, %v", s, l, err)
		}
	})
}

// A result belongs to the caller.
func TestWalkResultIsNew(t *testing.T) {
	s := "\x07\x02\x08\x02\x09\x03a\x00"
	one, _ := Walk(s)
	two, _ := Walk(s)
	for k := range one {
		one[k] = item(99, "other")
	}
	want := []api.Item{item(7, ""), item(8, ""), item(9, "a")}
	if !slices.Equal(two, want) {
		t.Errorf("%x, not %x", two, want)
	}
	tryWalk(t, s, api.OK, want...)
}

// Whoever leaves the items early is given none behind that; a wrong one is the last, with its place.
func TestItemsAreLeft(t *testing.T) {
	s := "\x01\x05\x03a\x00\x06\x02\x07\x01\x08\x02"
	all := []api.Item{item(1, ""), item(5, "a"), item(0, ""), item(6, ""), {}}
	for stop := range len(all) {
		var got []api.Item
		for x, fault := range items(s) {
			if got = append(got, x); len(got) > stop {
				break
			}
			if fault != (api.Fault{}) {
				t.Errorf("%x is told to be wrong: %+v", x, fault)
			}
		}
		if !slices.Equal(got, all[:stop+1]) {
			t.Errorf("%x, not %x", got, all[:stop+1])
		}
	}
	row := items(s)
	for range 2 {
		var last api.Fault
		n := 0
		for _, fault := range row {
			last = fault
			n++
		}
		if n != len(all) || last != (api.Fault{Code: api.ErrForm, At: 7}) {
			t.Errorf("%d items, the last one %+v", n, last)
		}
	}
}

// P4.3

func TestWrittenIsRead(t *testing.T) {
	n := 0
	for _, l := range lists() {
		if s, err := Lay(l...); err == api.OK {
			tryWalk(t, s, api.OK, l...)
			n++
		}
	}
	if n < 1000 {
		t.Errorf("only %d lists were written", n)
	}
}

func TestReadIsWritten(t *testing.T) {
	n := 0
	areas(func(s string) {
		l, err := Walk(s)
		if err != api.OK {
			return
		}
		n++
		got, code := Lay(l...)
		if code != api.OK || len(got) > len(s) || Size(l...) != len(got) {
			t.Errorf("%x is read as %x, and written as %x, %v", s, l, got, code)
		}
		tryWalk(t, got, api.OK, l...)
		if outside := withoutBodies(got, l); strings.Contains(outside, "\x01") {
			t.Errorf("%x is written as %x: a byte 1", s, got)
		}
		if again, _ := Lay(l...); again != got {
			t.Errorf("%x is written as %x, and as %x", l, got, again)
		}
	})
	if n < 1000 {
		t.Errorf("only %d areas were read", n)
	}
}

// withoutBodies is what an area of l has beside the Bodies.
func withoutBodies(s string, l []api.Item) string {
	out := ""
	for _, x := range l {
		out += s[:2]
		s = s[2+len(x.Body):]
	}
	return out + s
}

func TestUnequalListsDiffer(t *testing.T) {
	a := []api.Item{item(5, "ab"), item(6, ""), item(7, "c")}
	for _, b := range [][]api.Item{
		{item(5, "ab"), item(6, ""), item(8, "c")}, {item(4, "ab"), item(6, ""), item(7, "c")},
		{item(5, "ac"), item(6, ""), item(7, "c")}, {item(5, "bb"), item(6, ""), item(7, "c")}, {item(5, "ab"), item(6, ""), item(7, "\x00")},
		{item(6, ""), item(5, "ab"), item(7, "c")}, {item(5, "ab"), item(7, "c"), item(6, "")},
		{item(5, "ab"), item(6, "")}, {item(6, ""), item(7, "c")}, {item(5, "ab"), item(6, ""), item(7, "c"), item(7, "c")}, {item(5, "ab"), item(6, ""), item(6, ""), item(7, "c")}, {item(5, "ab\x06\x02"), item(7, "c")}, {item(5, "ab"), item(6, "\x00"), item(7, "c")}, {item(5, "ab"), item(6, ""), item(7, "c\x00")}, nil,
	} {
		one, _ := Lay(a...)
		two, err := Lay(b...)
		if one == two || err != api.OK {
			t.Errorf("%x and %x are written as %x and %x, %v", a, b, one, two, err)
		}
	}
}

// All lists of at most three items of few Kinds and Bodies, and many others: no two unequal ones are written to the same bytes, and equal ones are.
func TestSameBytesIfEqual(t *testing.T) {
	var some []api.Item
	for _, kind := range []int{2, 3, 4, 255} {
		for _, body := range []string{"", "\x00", "\x01", "\x00\x00", "\x02\x02", "\x02\x02\x02", "\x03\x02", "\x04\x02\x02\x02", "ab", "ba"} {
			some = append(some, item(kind, body))
		}
	}
	byBytes := map[string][]api.Item{}
	try := func(l ...api.Item) {
		s, err := Lay(l...)
		if err != api.OK {
			return
		}
		if other, known := byBytes[s]; known && !slices.Equal(other, l) {
			t.Errorf("%x and %x are written as %x", other, l, s)
		}
		byBytes[s] = slices.Clone(l)
		if again, _ := Lay(slices.Clone(l)...); again != s {
			t.Errorf("%x is written as %x, and as %x", l, s, again)
		}
	}
	try()
	for _, a := range some {
		try(a)
		for _, b := range some {
			try(a, b)
			for _, c := range some {
				try(a, b, c)
			}
		}
	}
	for _, l := range lists() {
		try(l...)
	}
}
