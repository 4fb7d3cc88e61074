package pack

import (
	"fmt"
	"math"
	"math/rand"
	"reflect"
	"slices"
	"strings"
	"testing"

	"plait/api"
	"plait/opt"
)

// rooms are all that may matter, from less than none to more than an area has, and the ends of the ints.
func rooms() []int {
	l := []int{math.MinInt, math.MinInt + 1, math.MinInt + 40, -1 << 32, -1<<32 + 40, -256, -41, -40, -39, -4, -3, -2}
	for room := -1; room <= 48; room++ {
		l = append(l, room)
	}
	return append(l, 80, 128, 255, 256, 257, 65536, 1<<31, 1<<32, 1<<32+3, math.MaxInt-40, math.MaxInt-3, math.MaxInt-1, math.MaxInt)
}

// mixed are n bytes that are unlike their neighbours.
func mixed(n int) string {
	b := make([]byte, n)
	for k := range b {
		b[k] = byte(0x81 + 7*k)
	}
	return string(b)
}

// Short names of options.

func ofCapable(x api.Capable) api.Opt { return api.Opt{Sub: api.SubCapable, Capable: x} }
func ofJoin(x api.Join) api.Opt       { return api.Opt{Sub: api.SubJoin, Join: x} }
func ofDss(x api.Dss) api.Opt         { return api.Opt{Sub: api.SubDss, Dss: x} }
func ofAdd(x api.Add) api.Opt         { return api.Opt{Sub: api.SubAdd, Add: x} }
func ofRemove(ids string) api.Opt {
	return api.Opt{Sub: api.SubRemove, Remove: api.Remove{Ids: ids}}
}
func ofPrio(backup bool) api.Opt {
	return api.Opt{Sub: api.SubPrio, Prio: api.Prio{Backup: backup}}
}
func ofFail(dsn uint64) api.Opt { return api.Opt{Sub: api.SubFail, Fail: api.Fail{Dsn: dsn}} }
func ofFast(key uint64) api.Opt { return api.Opt{Sub: api.SubFast, Fast: api.Fast{Key: key}} }
func ofRst(reason int) api.Opt  { return api.Opt{Sub: api.SubRst, Rst: api.Rst{Reason: reason}} }

// ofAck takes 8 bytes.
func ofAck(ack uint64) api.Opt { return ofDss(api.Dss{HasAck: true, Ack: ack}) }

// ofEcho takes 8 bytes.
func ofEcho(id int) api.Opt { return ofAdd(api.Add{Echo: true, Id: id, Ip: "\x0a\x00\x00\x01"}) }

// ofAddress takes 16 bytes.
func ofAddress(id int) api.Opt {
	return ofAdd(api.Add{Id: id, Ip: "\x0a\x00\x00\x01", Mac: "abcdefgh"})
}

// known is an option, how many bytes it takes, and its rank.
type known struct {
	o          api.Opt
	size, rank int
}

// forms are valid options of each form that each subtype has.
func forms() []known {
	const ip, long, mac = "\x0a\x00\x00\x01", "abcdefghijklmnop", "12345678"
	return []known{
		{ofCapable(api.Capable{}), 4, 0},
		{ofCapable(api.Capable{Form: 0, Version: 1, Sums: true}), 4, 0},
		{ofCapable(api.Capable{Form: 1, Version: 1, Own: 258}), 12, 0},
		{ofCapable(api.Capable{Form: 2, Version: 1, Sums: true, Own: 1, Peer: 2}), 20, 0},
		{ofCapable(api.Capable{Form: 3, Version: 1, Own: 1, Peer: 2, Len: 3}), 22, 0},
		{ofCapable(api.Capable{Form: 4, Version: 1, Alone: true, Own: 1, Peer: 2, Len: 3, Sum: 4}), 24, 0},
		{ofJoin(api.Join{Form: 0, Backup: true, Id: 2, Token: 258, Nonce: 5}), 12, 1},
		{ofJoin(api.Join{Form: 1, Id: 3, Mac: mac, Nonce: 1}), 16, 1},
		{ofJoin(api.Join{Form: 2, Mac: long + "qrst"}), 24, 1},
		{ofAck(258), 8, 0},
		{ofDss(api.Dss{HasAck: true, LongAck: true, Ack: 1 << 32}), 12, 0},
		{ofDss(api.Dss{HasMap: true, Dsn: 2, Ssn: 3, Len: 4}), 14, 0},
		{ofDss(api.Dss{HasMap: true, Dsn: 2, Ssn: 3, Len: 4, HasSum: true}), 16, 0},
		{ofDss(api.Dss{HasMap: true, LongDsn: true, Dsn: 2, Ssn: 3, Len: 4}), 18, 0},
		{ofDss(api.Dss{Fin: true, HasMap: true, LongDsn: true, Dsn: 5, Len: 1, HasSum: true, Sum: 6}), 20, 0},
		{ofDss(api.Dss{HasAck: true, Ack: 1, HasMap: true, Dsn: 2, Ssn: 3, Len: 4}), 18, 0},
		{ofDss(api.Dss{HasAck: true, Ack: 1, HasMap: true, Dsn: 2, Ssn: 3, Len: 4, HasSum: true, Sum: 5}), 20, 0},
		{ofDss(api.Dss{HasAck: true, LongAck: true, Ack: 1, HasMap: true, Dsn: 2, Ssn: 3, Len: 4}), 22, 0},
		{ofDss(api.Dss{HasAck: true, LongAck: true, Ack: 1, HasMap: true, Dsn: 2, Ssn: 3, Len: 4, HasSum: true, Sum: 5}), 24, 0},
		{ofDss(api.Dss{HasAck: true, Ack: 1, HasMap: true, LongDsn: true, Dsn: 2, Ssn: 3, Len: 4}), 22, 0},
		{ofDss(api.Dss{HasAck: true, Ack: 1, HasMap: true, LongDsn: true, Dsn: 2, Ssn: 3, Len: 4, HasSum: true, Sum: 5}), 24, 0},
		{ofDss(api.Dss{Fin: true, HasAck: true, LongAck: true, Ack: 1, HasMap: true, LongDsn: true, Dsn: 2, Ssn: 3, Len: 65535}), 26, 0},
		{ofDss(api.Dss{HasAck: true, LongAck: true, Ack: 1, HasMap: true, LongDsn: true, Dsn: 2, Ssn: 3, Len: 4, HasSum: true, Sum: 5}), 28, 0},
		{ofAdd(api.Add{Echo: true, Id: 5, Ip: ip}), 8, 5},
		{ofAdd(api.Add{Echo: true, Id: 5, Ip: ip, HasPort: true}), 10, 5},
		{ofAdd(api.Add{Echo: true, Id: 255, Ip: long}), 20, 5},
		{ofAdd(api.Add{Echo: true, Ip: long, HasPort: true, Port: 65535}), 22, 5},
		{ofAdd(api.Add{Id: 1, Ip: ip, Mac: mac}), 16, 6},
		{ofAdd(api.Add{Id: 1, Ip: ip, HasPort: true, Port: 443, Mac: mac}), 18, 6},
		{ofAdd(api.Add{Id: 1, Ip: long, Mac: mac}), 28, 6},
		{ofAdd(api.Add{Id: 1, Ip: long, HasPort: true, Port: 443, Mac: mac}), 30, 6},
		{ofRemove("\x00"), 4, 7},
		{ofRemove("\x01\x09"), 5, 7},
		{ofRemove(mixed(16)), 19, 7},
		{ofRemove(mixed(36)), 39, 7},
		{ofRemove(mixed(37)), 40, 7},
		{ofPrio(false), 3, 8},
		{ofPrio(true), 3, 8},
		{ofFail(0), 12, 3},
		{ofFail(math.MaxUint64), 12, 3},
		{ofFast(0), 12, 2},
		{ofFast(0x0102030405060708), 12, 2},
		{ofRst(0), 4, 4},
		{api.Opt{Sub: api.SubRst, Rst: api.Rst{Flags: 15, Reason: 255}}, 4, 4},
	}
}

// wrong are options that are not valid, but have a subtype; they take nothing.
func wrong() []known {
	const ip, mac = "\x0a\x00\x00\x01", "12345678"
	both := ofPrio(true)
	both.Fail.Dsn = 1
	echo := ofPrio(true)
	echo.Add.Echo = true
	added := ofEcho(1)
	added.Rst.Reason = 1
	return []known{
		{ofCapable(api.Capable{Form: -1}), 0, 0}, {ofCapable(api.Capable{Form: 5}), 0, 0}, {ofCapable(api.Capable{Version: 16}), 0, 0}, {ofCapable(api.Capable{Own: 1}), 0, 0},
		{ofJoin(api.Join{Form: 3}), 0, 1}, {ofJoin(api.Join{Id: 256}), 0, 1}, {ofJoin(api.Join{Form: 1, Mac: mac + "9"}), 0, 1}, {ofJoin(api.Join{Form: 2, Mac: mac}), 0, 1},
		{ofDss(api.Dss{}), 0, 0}, {ofAck(1 << 32), 0, 0}, {ofDss(api.Dss{HasMap: true, Len: 65536}), 0, 0}, {ofDss(api.Dss{HasAck: true, Fin: true}), 0, 0},
		{ofAdd(api.Add{}), 0, 6}, {ofAdd(api.Add{Ip: ip}), 0, 6}, {ofAdd(api.Add{Ip: ip, Mac: mac, Port: 1}), 0, 6},
		{ofAdd(api.Add{Echo: true}), 0, 5}, {ofAdd(api.Add{Echo: true, Ip: ip, Mac: mac}), 0, 5}, {ofEcho(256), 0, 5},
		{ofRemove(""), 0, 7}, {ofRemove(mixed(38)), 0, 7}, {ofRemove(mixed(253)), 0, 7}, {ofRemove(mixed(1000)), 0, 7},
		{ofRst(-1), 0, 4}, {ofRst(256), 0, 4}, {api.Opt{Sub: api.SubRst, Rst: api.Rst{Flags: 16}}, 0, 4},
		{both, 0, 8}, {echo, 0, 8}, {added, 0, 5},
		{api.Opt{Sub: api.SubFail, Prio: api.Prio{Backup: true}}, 0, 3}, {api.Opt{Sub: api.SubFast, Fail: api.Fail{Dsn: 1}}, 0, 2},
	}
}

// noSubs are ints that are no subtype.
var noSubs = []int{math.MinInt, math.MinInt + 2, -1 << 32, -1<<32 + 2, -256, -254, -9, -8, -5, -2, -1, 9, 10, 15, 16, 18, 255, 256, 258, 1 << 31, 1 << 32, 1<<32 + 2, math.MaxInt - 1, math.MaxInt}

// strange are options that have no subtype, with and without a content; they take nothing.
func strange() []known {
	var all []known
	for _, sub := range noSubs {
		all = append(all, known{api.Opt{Sub: sub}, 0, 9})
		for _, x := range forms() {
			x.o.Sub = sub
			all = append(all, known{x.o, 0, 9})
		}
	}
	return all
}

// everything is all of these.
func everything() []known {
	return slices.Concat(forms(), wrong(), strange())
}

// optsOf are the options of l.
func optsOf(l []known) []api.Opt {
	var all []api.Opt
	for _, x := range l {
		all = append(all, x.o)
	}
	return all
}

// packed is what Pack must return, by the words of the chapter: l is gone through once for each rank.
func packed(l []known, room int) (take, left []api.Opt) {
	if room > 40 {
		room = 40
	}
	taken := map[int]bool{}
	for rank := 0; rank <= 9; rank++ {
		for at, x := range l {
			if x.rank == rank && x.size > 0 && x.size <= room {
				room -= x.size
				taken[at] = true
				take = append(take, x.o)
			}
		}
	}
	for at, x := range l {
		if x.size > 0 && !taken[at] {
			left = append(left, x.o)
		}
	}
	return take, left
}

// show writes options with what they have alone: the other fields are many.
func show(l []api.Opt) string {
	var words []string
	for _, o := range l {
		words = append(words, fmt.Sprintf("Sub %d", o.Sub))
		for sub := range 9 {
			if content := reflect.ValueOf(o).Field(sub + 1); !content.IsZero() {
				words = append(words, fmt.Sprintf("%#v", content.Interface()))
			}
		}
	}
	return "[" + strings.Join(words, " ") + "]"
}

// packs checks what Pack returns.
func packs(t *testing.T, l []api.Opt, room int, take, left []api.Opt) {
	t.Helper()
	gotTake, gotLeft := Pack(l, room)
	if !slices.Equal(gotTake, take) || !slices.Equal(gotLeft, left) {
		t.Fatalf("Pack(%s, %d) = %s, %s, not %s, %s", show(l), room, show(gotTake), show(gotLeft), show(take), show(left))
	}
}

// agrees checks that Pack returns what the words of the chapter say.
func agrees(t *testing.T, l []known, room int) {
	t.Helper()
	take, left := packed(l, room)
	packs(t, optsOf(l), room, take, left)
}

// some are options by name, to be written in a short way.
func some(l ...api.Opt) []api.Opt { return l }

// The chapter's examples

func TestExamples(t *testing.T) {
	for _, x := range []struct {
		o    api.Opt
		size int
	}{
		{ofPrio(false), 3},
		{ofPrio(true), 3},
		{ofDss(api.Dss{HasAck: true}), 8},
		{ofDss(api.Dss{HasAck: true, HasMap: true, HasSum: true}), 20},
	} {
		if got := Size(x.o); got != x.size {
			t.Errorf("Size(%s) = %d, not %d", show(some(x.o)), got, x.size)
		}
	}
	prio, ack, fail := ofPrio(false), ofAck(0), ofFail(0)
	l := some(prio, ack, fail)
	packs(t, l, 40, some(ack, fail, prio), nil)
	packs(t, l, 19, some(ack, prio), some(fail))
	packs(t, l, 2, nil, l)
	for _, x := range forms() {
		packs(t, some(x.o), 2, nil, some(x.o))
		packs(t, some(x.o, prio, ack), 2, nil, some(x.o, prio, ack))
	}
}

// P15.1

func TestSize(t *testing.T) {
	for _, x := range everything() {
		if got := Size(x.o); got != x.size {
			t.Errorf("Size(%s) = %d, not %d", show(some(x.o)), got, x.size)
		}
	}
	for n := range 300 {
		want := n + 3
		if n == 0 || n > 37 {
			want = 0
		}
		if got := Size(ofRemove(mixed(n))); got != want {
			t.Errorf("Size of a Remove of %d = %d, not %d", n, got, want)
		}
	}
}

// What the test's own list says of sizes, and of validity, is what opt encodes.
func TestSizeIsWhatIsEncoded(t *testing.T) {
	for _, x := range everything() {
		item, code := opt.Encode(x.o)
		if opt.May(x.o) != (x.size > 0) || (code == api.OK) != (x.size > 0) {
			t.Fatalf("%s, of %d bytes, is encoded with %d", show(some(x.o)), x.size, code)
		}
		if code == api.OK && Size(x.o) != 2+len(item.Body) {
			t.Errorf("Size(%s) = %d, and the body has %d", show(some(x.o)), Size(x.o), len(item.Body))
		}
	}
}

func TestRank(t *testing.T) {
	for _, x := range everything() {
		if got := Rank(x.o); got != x.rank {
			t.Errorf("Rank(%s) = %d, not %d", show(some(x.o)), got, x.rank)
		}
	}
	for _, sub := range []int{-1, 9, math.MinInt, math.MaxInt} {
		if got := Rank(api.Opt{Sub: sub}); got != 9 {
			t.Errorf("Rank of %d = %d", sub, got)
		}
	}
	for sub := -1000; sub <= 1000; sub++ {
		if got := Rank(api.Opt{Sub: sub}); (sub < 0 || sub > 8) != (got == 9) {
			t.Errorf("Rank of %d = %d", sub, got)
		}
	}
}

// Only the Sub, and Echo of an Add, matter: all contents at once.
func TestRankOfContents(t *testing.T) {
	full := api.Opt{}
	for _, x := range forms() {
		own := reflect.ValueOf(x.o).Field(x.o.Sub + 1)
		if !own.IsZero() {
			reflect.ValueOf(&full).Elem().Field(x.o.Sub + 1).Set(own)
		}
	}
	for sub, rank := range []int{0, 1, 0, 6, 7, 8, 3, 2, 4} {
		for _, echo := range []bool{false, true} {
			want := rank
			if sub == 3 && echo {
				want = 5
			}
			for _, o := range []api.Opt{{}, full} {
				o.Sub, o.Add.Echo = sub, echo
				if got := Rank(o); got != want {
					t.Errorf("Rank of %d, echo %v = %d, not %d", sub, echo, got, want)
				}
			}
		}
	}
}

// P15.2

func TestPackNone(t *testing.T) {
	for _, room := range rooms() {
		packs(t, nil, room, nil, nil)
		packs(t, some(), room, nil, nil)
		for _, x := range slices.Concat(wrong(), strange()) {
			packs(t, some(x.o), room, nil, nil)
		}
		packs(t, optsOf(slices.Concat(wrong(), strange())), room, nil, nil)
	}
}

// One option, with all rooms, among them just as much as it takes, and one less.
func TestPackOne(t *testing.T) {
	for _, x := range forms() {
		for _, room := range append(rooms(), x.size-1, x.size, x.size+1) {
			if room < x.size {
				packs(t, some(x.o), room, nil, some(x.o))
			} else {
				packs(t, some(x.o), room, some(x.o), nil)
			}
		}
	}
}

// The greatest options: an area has 40 bytes, whatever the room is.
func TestPackFull(t *testing.T) {
	full, most, prio := ofRemove(mixed(37)), ofRemove(mixed(36)), ofPrio(true)
	for _, room := range []int{40, 41, 43, 80, 1 << 32, math.MaxInt} {
		packs(t, some(full), room, some(full), nil)
		packs(t, some(full, prio), room, some(full), some(prio))
		packs(t, some(most, prio), room, some(most), some(prio))
		packs(t, some(full, full), room, some(full), some(full))
	}
	packs(t, some(full), 39, nil, some(full))
	packs(t, some(most), 39, some(most), nil)
	packs(t, some(prio, full), 39, some(prio), some(full))
	packs(t, some(most), 38, nil, some(most))
	for _, room := range []int{0, 1, 2, -1, math.MinInt, math.MinInt + 1} {
		packs(t, some(full, prio, most), room, nil, some(full, prio, most))
	}
}

// Options of one rank stay in order; Dss and Capable have one rank.
func TestPackOneRank(t *testing.T) {
	a, b, c := ofAck(1), ofCapable(api.Capable{Version: 1}), ofAck(2)
	packs(t, some(a, b, c), 40, some(a, b, c), nil)
	packs(t, some(b, c, a), 40, some(b, c, a), nil)
	packs(t, some(c, b, a), 40, some(c, b, a), nil)
	packs(t, some(c, b, a), 19, some(c, b), some(a))
	packs(t, some(a, c, b), 15, some(a, b), some(c))
	packs(t, some(a, c, b), 7, some(b), some(a, c))

	var l []api.Opt // more than a short list, which may be sorted in another way
	for reason := range 100 {
		l = append(l, ofRst((reason*37+11)%256))
	}
	packs(t, l, 40, l[:10], l[10:])
	packs(t, l, 39, l[:9], l[9:])
	packs(t, l, 3, nil, l)
	for n := range l {
		packs(t, l[:n], 40, l[:min(n, 10)], l[min(n, 10):n])
	}
}

// Many options of two ranks, mixed, all of 4 bytes: those of each rank stay in order, in both results.
func TestPackManyOfTwoRanks(t *testing.T) {
	var l, early, late []api.Opt
	for n := range 60 {
		if n%10 == 7 {
			early = append(early, ofRst(200-n))
			l = append(l, ofRst(200-n))
		} else {
			late = append(late, ofRemove(mixed(60)[n:n+1]))
			l = append(l, ofRemove(mixed(60)[n:n+1]))
		}
	}
	packs(t, l, 40, slices.Concat(early, late[:4]), slices.Concat(l[4:7], l[8:17], l[18:27], l[28:37], l[38:47], l[48:57], l[58:]))
	packs(t, l, 24, early, late)
	packs(t, l, 23, early[:5], slices.Concat(l[:7], l[8:17], l[18:27], l[28:37], l[38:47], l[48:]))
	packs(t, l, 4, early[:1], slices.Concat(l[:7], l[8:]))
	packs(t, l, 3, nil, l)
}

// inRanks is an option of each rank, in their order, small ones, so that most fit.
func inRanks() []api.Opt {
	return some(ofCapable(api.Capable{}), ofJoin(api.Join{}), ofFast(1), ofFail(1), ofRst(1), ofEcho(1), ofAddress(1), ofRemove("\x01"), ofPrio(true))
}

func TestPackRanks(t *testing.T) {
	l := inRanks() // 4, 12, 12, 12, 4, 8, 16, 4, 3 bytes
	want := l[:4]
	back := slices.Clone(l)
	slices.Reverse(back)
	packs(t, l, 40, want, l[4:])
	packs(t, back, 40, want, back[:5])
	packs(t, l, 39, some(l[0], l[1], l[2], l[4], l[7], l[8]), some(l[3], l[5], l[6]))
	packs(t, back, 39, some(l[0], l[1], l[2], l[4], l[7], l[8]), some(l[6], l[5], l[3]))
	for _, order := range [][]api.Opt{l, back} {
		for a, first := range order {
			for _, second := range order[a+1:] {
				want := some(first, second)
				if Rank(second) < Rank(first) {
					want = some(second, first)
				}
				packs(t, some(first, second), 40, want, nil)
			}
		}
	}
}

// Each rank ahead of the next one, written out: with the room that one of both needs it is taken.
func TestPackRanksOneByOne(t *testing.T) {
	l := []api.Opt{ofAck(1), ofJoin(api.Join{}), ofFast(1), ofFail(1), ofRst(1), ofEcho(1), ofAddress(1), ofRemove(mixed(5)), ofPrio(true)}
	sizes := []int{8, 12, 12, 12, 4, 8, 16, 8, 3}
	for a := range l {
		for b := a + 1; b < len(l); b++ {
			room := max(sizes[a], sizes[b])
			take, left := some(l[a]), some(l[b])
			if sizes[a]+sizes[b] <= room {
				t.Fatal("both fit")
			}
			packs(t, some(l[a], l[b]), room, take, left)
			packs(t, some(l[b], l[a]), room, take, left)
		}
	}
	capable, ack := ofCapable(api.Capable{Form: 1}), ofAck(1)
	packs(t, some(capable, ack), 12, some(capable), some(ack))
	packs(t, some(ack, capable), 12, some(ack), some(capable))
}

// An option that has no room does not keep out one of a higher rank, nor one of its own rank.
func TestPackSkips(t *testing.T) {
	big, prio, small := ofAdd(api.Add{Id: 1, Ip: mixed(16), Mac: mixed(8)}), ofPrio(true), ofAddress(2)
	ack := ofAck(1)
	packs(t, some(big, prio), 27, some(prio), some(big))
	packs(t, some(big, small), 27, some(small), some(big))
	packs(t, some(small, big, prio), 40, some(small, prio), some(big))
	packs(t, some(prio, big, ack, small), 27, some(ack, small, prio), some(big))
	packs(t, some(prio, big, ack, small), 26, some(ack, small), some(prio, big))
	packs(t, some(prio, big, ack, small), 23, some(ack, prio), some(big, small))
	packs(t, some(prio, big, ack, small), 7, some(prio), some(big, ack, small))
	packs(t, some(ofFail(1), ofFast(1), ofRst(1)), 11, some(ofRst(1)), some(ofFail(1), ofFast(1)))
}

// What is left is in the order of l, not in that of the ranks.
func TestPackLeftIsInOrder(t *testing.T) {
	for _, l := range [][]api.Opt{inRanks(), some(ofPrio(true), ofPrio(false), ofAck(1), ofRemove("\x01"), ofRst(1), ofAck(2), ofPrio(true), ofJoin(api.Join{}), ofEcho(3), ofAddress(3), ofEcho(1))} {
		r := rand.New(rand.NewSource(150))
		for range 200 {
			r.Shuffle(len(l), func(a, b int) { l[a], l[b] = l[b], l[a] })
			packs(t, l, 2, nil, l)
			packs(t, l, math.MinInt, nil, l)
		}
	}
	fast, fail, prio, rst := ofFast(1), ofFail(1), ofPrio(true), ofRst(1)
	packs(t, some(fail, prio, fast, rst), 4, some(rst), some(fail, prio, fast))
	packs(t, some(fail, prio, fast, rst), 3, some(prio), some(fail, fast, rst))
}

// Options that are not valid, as the first, a middle, and the last one, change nothing: they are in neither, and need no room.
func TestPackWrong(t *testing.T) {
	prio, ack, fail := ofPrio(true), ofAck(1), ofFail(1)
	for _, x := range slices.Concat(wrong(), strange()) {
		o := x.o
		for _, l := range [][]api.Opt{some(o, prio, ack, fail), some(prio, o, ack, fail), some(prio, ack, o, fail), some(prio, ack, fail, o), some(o, o, prio, o, ack, o, fail, o)} {
			packs(t, l, 40, some(ack, fail, prio), nil)
			packs(t, l, 23, some(ack, fail, prio), nil)
			packs(t, l, 22, some(ack, fail), some(prio))
			packs(t, l, 19, some(ack, prio), some(fail))
			packs(t, l, 2, nil, some(prio, ack, fail))
			packs(t, l, -1, nil, some(prio, ack, fail))
		}
	}
}

// The same option several times: each one is by itself.
func TestPackSame(t *testing.T) {
	for _, x := range forms() {
		for n := range 16 {
			l := slices.Repeat(some(x.o), n)
			for _, room := range rooms() {
				fit := min(n, max(0, min(room, 40))/x.size)
				packs(t, l, room, l[:fit], l[fit:])
			}
		}
	}
	prio, fail := ofPrio(true), ofFail(1)
	packs(t, some(prio, fail, prio, fail, prio), 18, some(fail, prio, prio), some(fail, prio))
	packs(t, some(prio, fail, prio, fail, prio), 24, some(fail, fail), some(prio, prio, prio))
	packs(t, some(fail, prio, fail, prio, fail), 11, some(prio, prio), some(fail, fail, fail))
}

// samples are few options: of all ranks, of several sizes, twice of some ranks, and such that are not valid.
func samples() []known {
	return []known{
		{ofAck(1), 8, 0}, {ofCapable(api.Capable{Form: 3}), 22, 0}, {ofJoin(api.Join{Form: 2, Mac: mixed(20)}), 24, 1}, {ofFast(1), 12, 2},
		{ofFail(1), 12, 3}, {ofRst(1), 4, 4}, {ofEcho(1), 8, 5}, {ofAddress(1), 16, 6}, {ofRemove(mixed(37)), 40, 7}, {ofRemove("\x01"), 4, 7},
		{ofPrio(true), 3, 8}, {ofPrio(false), 3, 8}, {ofDss(api.Dss{}), 0, 0}, {ofAdd(api.Add{Echo: true}), 0, 5}, {api.Opt{Sub: 9}, 0, 9},
	}
}

// All lists of at most three of these, with all rooms.
func TestPackAll(t *testing.T) {
	for _, room := range rooms() {
		agrees(t, nil, room)
		for _, a := range samples() {
			agrees(t, []known{a}, room)
			for _, b := range samples() {
				agrees(t, []known{a, b}, room)
				for _, c := range samples() {
					if room == 40 || room%7 == 5 {
						agrees(t, []known{a, b, c}, room)
					}
				}
			}
		}
	}
}

// anyLists returns a function that returns lists of at most 40 options, of which few are not valid.
func anyLists(r *rand.Rand) func() []known {
	kinds, bad := [][]known{forms(), samples()}, slices.Concat(wrong(), strange())
	return func() []known {
		good := kinds[r.Intn(2)]
		l := make([]known, r.Intn(41))
		for k := range l {
			l[k] = good[r.Intn(len(good))]
			if r.Intn(6) == 0 {
				l[k] = bad[r.Intn(len(bad))]
			}
		}
		return l
	}
}

func TestPackRandomly(t *testing.T) {
	r := rand.New(rand.NewSource(151))
	anyList := anyLists(r)
	for range 3000 {
		l := anyList()
		agrees(t, l, r.Intn(44)-1)
		agrees(t, l, rooms()[r.Intn(len(rooms()))])
	}
}

// What is passed in is not changed, neither it nor what is behind it; what is returned is new: changing any of the three changes no other one.
func TestPackKeepsApart(t *testing.T) {
	r := rand.New(rand.NewSource(152))
	anyList := anyLists(r)
	mark := api.Opt{Sub: 77}
	for range 500 {
		x := anyList()
		room := r.Intn(44) - 1
		wantTake, wantLeft := packed(x, room)
		n := len(x)
		all := append(optsOf(x), mark, mark, mark)
		l := all[:n]
		take, left := Pack(l, room)
		if !slices.Equal(l, optsOf(x)) || !slices.Equal(all[n:], some(mark, mark, mark)) {
			t.Fatalf("Pack(%s, %d) changed its argument", show(optsOf(x)), room)
		}
		fill(all, mark)
		if !slices.Equal(take, wantTake) || !slices.Equal(left, wantLeft) {
			t.Fatal("the results share memory with the argument")
		}
		fill(take[:cap(take)], api.Opt{Sub: 78})
		if !slices.Equal(left, wantLeft) {
			t.Fatal("the results share memory")
		}
		fill(left[:cap(left)], api.Opt{Sub: 79})
		if slices.Contains(take, api.Opt{Sub: 79}) || slices.Contains(all, api.Opt{Sub: 78}) || slices.Contains(all, api.Opt{Sub: 79}) {
			t.Fatal("the results share memory, or with the argument")
		}
	}
}

// fill makes all of l one option.
func fill(l []api.Opt, o api.Opt) {
	for k := range l {
		l[k] = o
	}
}

// Nothing is kept from call to call.
func TestPackTwice(t *testing.T) {
	r := rand.New(rand.NewSource(153))
	anyList := anyLists(r)
	for range 300 {
		l, other, room := optsOf(anyList()), optsOf(anyList()), r.Intn(44)-1
		take, left := Pack(l, room)
		Pack(other, 40)
		packs(t, l, room, take, left)
	}
}

// P15.3

// consequences checks what the chapter says follows.
func consequences(t *testing.T, l []known, room int) {
	t.Helper()
	opts := optsOf(l)
	take, left := Pack(opts, room)
	s, code := opt.Lay(take)
	if code != api.OK || len(s) > 40 || len(take) > 0 && len(s) > min(room, 40)+3 {
		t.Fatalf("Pack(%s, %d) takes %s: an area of %d, %d", show(opts), room, show(take), len(s), code)
	}
	if read, code := opt.All(s); code != api.OK || len(read) != len(take) {
		t.Fatalf("what is taken is read as %s, %d", show(read), code)
	}

	count := map[api.Opt]int{}
	for _, o := range slices.Concat(take, left) {
		count[o]++
	}
	for _, x := range l {
		if opt.May(x.o) {
			count[x.o]--
		}
	}
	for o, n := range count {
		if n != 0 {
			t.Fatalf("Pack(%s, %d): %d too many of %s", show(opts), room, n, show(some(o)))
		}
	}
	leftWouldNotFit(t, l, room, take)
}

// leftWouldNotFit checks that, at the turn of an option that is left, there was less room than it takes. Of equal ones the first ones are taken, since the room does not grow.
func leftWouldNotFit(t *testing.T, l []known, room int, take []api.Opt) {
	t.Helper()
	count := map[api.Opt]int{}
	for _, o := range take {
		count[o]++
	}
	taken := make([]bool, len(l))
	for at, x := range l {
		if count[x.o] > 0 {
			count[x.o]--
			taken[at] = true
		}
	}
	for at, x := range l {
		if taken[at] || !opt.May(x.o) {
			continue
		}
		free := min(room, 40)
		for before, y := range l {
			if taken[before] && (y.rank < x.rank || y.rank == x.rank && before < at) {
				free -= Size(y.o)
			}
		}
		if Size(x.o) <= free {
			t.Fatalf("Pack(%s, %d) leaves %s, for which there was room for %d", show(optsOf(l)), room, show(some(x.o)), free)
		}
	}
}

func TestConsequences(t *testing.T) {
	for _, room := range rooms() {
		for _, a := range everything() {
			consequences(t, []known{a}, room)
		}
		for _, a := range samples() {
			for _, b := range samples() {
				consequences(t, []known{a, b}, room)
			}
		}
		consequences(t, everything(), room)
		consequences(t, forms(), room)
	}
	r := rand.New(rand.NewSource(154))
	anyList := anyLists(r)
	for range 2000 {
		consequences(t, anyList(), r.Intn(44)-1)
	}
}

// Areas are multiples of four: with each room there is something that takes all of it, or all but 2 bytes.
func TestAreaOfRoom(t *testing.T) {
	for room := 4; room <= 40; room++ {
		take, _ := Pack(some(ofRemove(mixed(room-3)), ofPrio(true)), room)
		s, code := opt.Lay(take)
		if want := (room + 3) / 4 * 4; len(s) != want || code != api.OK {
			t.Errorf("room %d: an area of %d, %d, not %d", room, len(s), code, want)
		}
	}
}
