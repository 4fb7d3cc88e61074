package opt

import (
	"encoding/binary"
	"encoding/hex"
	"errors"
	"fmt"
	"math"
	"math/rand"
	"reflect"
	"slices"
	"strings"
	"testing"

	"plait/addr"
	"plait/api"
	"plait/area"
	"plait/capable"
	"plait/ctrl"
	"plait/dss"
	"plait/join"
)

// noSubs are ints that are no subtype.
var noSubs = []int{math.MinInt, math.MinInt + 1, -1 << 32, -1<<32 + 5, -256, -251, -16, -9, -8, -1, 9, 10, 11, 12, 13, 14, 15, 16, 17, 24, 255, 256, 256 + 5, 65536, 65536 + 5, 1 << 31, 1 << 32, 1<<32 + 5, math.MaxInt - 1, math.MaxInt}

// kinds are Kinds that are not 30.
var kinds = []int{math.MinInt, math.MinInt + 30, -1<<32 + 30, -256 + 30, -30, -1, 0, 1, 2, 3, 28, 29, 31, 32, 30 * 16, 255, 256, 256 + 30, 1 << 16, 1<<16 + 30, 1<<32 + 30, math.MaxInt}

// mixed are n bytes that are unlike their neighbours.
func mixed(n int) string {
	b := make([]byte, n)
	for k := range b {
		b[k] = byte(0x81 + 7*k)
	}
	return string(b)
}

// texts are n bytes: all of them 0, all of them 255, and mixed ones.
func texts(n int) []string {
	if n == 0 {
		return []string{""}
	}
	return []string{strings.Repeat("\x00", n), strings.Repeat("\xff", n), mixed(n)}
}

// anyText are n bytes.
func anyText(r *rand.Rand, n int) string {
	b := make([]byte, n)
	r.Read(b)
	return string(b)
}

// one is a byte as a text.
func one(b int) string { return string([]byte{byte(b)}) }

// digits are the bytes of hexadecimal digits, which may be told apart by spaces.
func digits(t *testing.T, s string) string {
	t.Helper()
	b, err := hex.DecodeString(strings.ReplaceAll(s, " ", ""))
	if err != nil {
		t.Fatal(err)
	}
	return string(b)
}

// item is an item of Kind 30.
func item(body string) api.Item { return api.Item{Kind: 30, Body: body} }

// Short names of options.

func ofCapable(x api.Capable) api.Opt { return api.Opt{Sub: 0, Capable: x} }
func ofJoin(x api.Join) api.Opt       { return api.Opt{Sub: 1, Join: x} }
func ofDss(x api.Dss) api.Opt         { return api.Opt{Sub: 2, Dss: x} }
func ofAdd(x api.Add) api.Opt         { return api.Opt{Sub: 3, Add: x} }
func ofRemove(ids string) api.Opt     { return api.Opt{Sub: 4, Remove: api.Remove{Ids: ids}} }
func ofPrio(backup bool) api.Opt      { return api.Opt{Sub: 5, Prio: api.Prio{Backup: backup}} }
func ofFail(dsn uint64) api.Opt       { return api.Opt{Sub: 6, Fail: api.Fail{Dsn: dsn}} }
func ofFast(key uint64) api.Opt       { return api.Opt{Sub: 7, Fast: api.Fast{Key: key}} }
func ofRst(flags, reason int) api.Opt {
	return api.Opt{Sub: 8, Rst: api.Rst{Flags: flags, Reason: reason}}
}

// forms is a valid option of each form that each subtype has, with its body.
func forms() map[string]api.Opt {
	const ip, long = "\x0a\x00\x00\x01", "abcdefghijklmnop"
	return map[string]api.Opt{
		"01 81":                         ofCapable(api.Capable{Form: 0, Version: 1, Sums: true}),
		"01 21":                         ofCapable(api.Capable{Form: 0, Version: 1, Alone: true}),
		"00 01":                         ofCapable(api.Capable{}),
		"0f a1":                         ofCapable(api.Capable{Form: 0, Version: 15, Sums: true, Alone: true}),
		"01 01 00 00 00 00 00 00 01 02": ofCapable(api.Capable{Form: 1, Version: 1, Own: 258}),
		"01 81 0102030405060708 f1e2d3c4b5a69788":                      ofCapable(api.Capable{Form: 2, Version: 1, Sums: true, Own: 0x0102030405060708, Peer: 0xf1e2d3c4b5a69788}),
		"01 01 0000000000000001 0000000000000002 0003":                 ofCapable(api.Capable{Form: 3, Version: 1, Own: 1, Peer: 2, Len: 3}),
		"01 21 0000000000000001 0000000000000002 0003 0004":            ofCapable(api.Capable{Form: 4, Version: 1, Alone: true, Own: 1, Peer: 2, Len: 3, Sum: 4}),
		"11 02 00000102 00000005":                                      ofJoin(api.Join{Form: 0, Backup: true, Id: 2, Token: 258, Nonce: 5}),
		"10 00 00000000 00000000":                                      ofJoin(api.Join{}),
		"10 03 6162636465666768 00000001":                              ofJoin(api.Join{Form: 1, Id: 3, Mac: long[:8], Nonce: 1}),
		"10 00 6162636465666768696a6b6c6d6e6f7061626364":               ofJoin(api.Join{Form: 2, Mac: long + long[:4]}),
		"20 01 00000102":                                               ofDss(api.Dss{HasAck: true, Ack: 258}),
		"20 03 0000000100000000":                                       ofDss(api.Dss{HasAck: true, LongAck: true, Ack: 1 << 32}),
		"20 04 00000002 00000003 0004":                                 ofDss(api.Dss{HasMap: true, Dsn: 2, Ssn: 3, Len: 4}),
		"20 04 00000002 00000003 0004 0000":                            ofDss(api.Dss{HasMap: true, Dsn: 2, Ssn: 3, Len: 4, HasSum: true}),
		"20 1c 0000000000000005 00000000 0001 0006":                    ofDss(api.Dss{Fin: true, HasMap: true, LongDsn: true, Dsn: 5, Len: 1, HasSum: true, Sum: 6}),
		"20 07 0000000000000001 00000002 00000003 0004":                ofDss(api.Dss{HasAck: true, LongAck: true, Ack: 1, HasMap: true, Dsn: 2, Ssn: 3, Len: 4}),
		"20 1f 0000000000000001 0000000000000002 00000003 ffff":        ofDss(api.Dss{Fin: true, HasAck: true, LongAck: true, Ack: 1, HasMap: true, LongDsn: true, Dsn: 2, Ssn: 3, Len: 65535}),
		"31 05 0a000001":                                               ofAdd(api.Add{Echo: true, Id: 5, Ip: ip}),
		"31 05 0a000001 0000":                                          ofAdd(api.Add{Echo: true, Id: 5, Ip: ip, HasPort: true}),
		"31 ff 6162636465666768696a6b6c6d6e6f70":                       ofAdd(api.Add{Echo: true, Id: 255, Ip: long}),
		"31 00 6162636465666768696a6b6c6d6e6f70 ffff":                  ofAdd(api.Add{Echo: true, Ip: long, HasPort: true, Port: 65535}),
		"30 01 0a000001 6162636465666768":                              ofAdd(api.Add{Id: 1, Ip: ip, Mac: long[:8]}),
		"30 01 0a000001 01bb 6162636465666768":                         ofAdd(api.Add{Id: 1, Ip: ip, HasPort: true, Port: 443, Mac: long[:8]}),
		"30 01 6162636465666768696a6b6c6d6e6f70 6162636465666768":      ofAdd(api.Add{Id: 1, Ip: long, Mac: long[:8]}),
		"30 01 6162636465666768696a6b6c6d6e6f70 01bb 6162636465666768": ofAdd(api.Add{Id: 1, Ip: long, HasPort: true, Port: 443, Mac: long[:8]}),
		"40 00":                         ofRemove("\x00"),
		"40 01 09":                      ofRemove("\x01\x09"),
		"40" + strings.Repeat("07", 37): ofRemove(strings.Repeat("\x07", 37)),
		"50":                            ofPrio(false),
		"51":                            ofPrio(true),
		"60 00 0000000000000000":        ofFail(0),
		"60 00 0000000000000102":        ofFail(258),
		"70 00 0000000000000000":        ofFast(0),
		"70 00 0102030405060708":        ofFast(0x0102030405060708),
		"80 00":                         ofRst(0, 0),
		"81 02":                         ofRst(1, 2),
		"8f ff":                         ofRst(15, 255),
	}
}

// valid are options, many of each subtype.
func valid() []api.Opt {
	var all []api.Opt
	for _, digits := range sorted(forms()) {
		all = append(all, forms()[digits])
	}
	r := rand.New(rand.NewSource(140))
	for sub := range 9 {
		for range 40 {
			all = append(all, anyValid(r, sub))
		}
	}
	return all
}

// sorted are the keys of a map, in order.
func sorted(m map[string]api.Opt) []string {
	var l []string
	for k := range m {
		l = append(l, k)
	}
	slices.Sort(l)
	return l
}

// anyValid is a valid option of a subtype.
func anyValid(r *rand.Rand, sub int) api.Opt {
	coin := func() bool { return r.Intn(2) == 0 }
	number := func() uint64 { return r.Uint64() >> r.Intn(64) }
	switch sub {
	case 0:
		return ofCapable(anyCapable(r, r.Intn(5)))
	case 1:
		x := api.Join{Form: r.Intn(3)}
		x.Mac = anyText(r, []int{0, 8, 20}[x.Form])
		if x.Form != 2 {
			x.Backup, x.Id, x.Nonce = coin(), r.Intn(256), r.Uint32()
		}
		if x.Form == 0 {
			x.Token = r.Uint32()
		}
		return ofJoin(x)
	case 2:
		return ofDss(anyDss(r, r.Intn(3)+1))
	case 3:
		x := api.Add{Echo: coin(), Id: r.Intn(256), Ip: anyText(r, 4+12*r.Intn(2)), HasPort: coin()}
		if x.HasPort {
			x.Port = r.Intn(65536)
		}
		if !x.Echo {
			x.Mac = anyText(r, 8)
		}
		return ofAdd(x)
	case 4:
		return ofRemove(anyText(r, 1+r.Intn(37)))
	case 5:
		return ofPrio(coin())
	case 6:
		return ofFail(number())
	case 7:
		return ofFast(number())
	}
	return ofRst(r.Intn(16), r.Intn(256))
}

// anyCapable is a valid Capable of a form.
func anyCapable(r *rand.Rand, form int) api.Capable {
	x := api.Capable{Form: form, Version: r.Intn(16), Sums: r.Intn(2) == 0, Alone: r.Intn(2) == 0}
	if form > 0 {
		x.Own = r.Uint64()
	}
	if form > 1 {
		x.Peer = r.Uint64()
	}
	if form > 2 {
		x.Len = r.Intn(65536)
	}
	if form > 3 {
		x.Sum = uint16(r.Uint32())
	}
	return x
}

// anyDss is a valid Dss with an Ack (parts are 1 or 3), with a mapping (2 or 3).
func anyDss(r *rand.Rand, parts int) api.Dss {
	x := api.Dss{HasAck: parts&1 != 0, HasMap: parts&2 != 0}
	if x.HasAck {
		x.LongAck, x.Ack = true, r.Uint64()
		if r.Intn(2) == 0 {
			x.LongAck, x.Ack = false, uint64(r.Uint32())
		}
	}
	if x.HasMap {
		x.LongDsn, x.Dsn, x.Ssn, x.Len, x.Fin = true, r.Uint64(), r.Uint32(), r.Intn(65536), r.Intn(2) == 0
		if r.Intn(2) == 0 {
			x.LongDsn, x.Dsn = false, uint64(r.Uint32())
		}
		if r.Intn(2) == 0 {
			x.HasSum, x.Sum = true, uint16(r.Uint32())
		}
	}
	return x
}

// invalid are options whose content is not valid, each for one reason alone, but which have nothing else.
func invalid() []api.Opt {
	const ip, mac = "\x0a\x00\x00\x01", "abcdefgh"
	return []api.Opt{
		ofCapable(api.Capable{Form: -1}), ofCapable(api.Capable{Form: 5}), ofCapable(api.Capable{Form: math.MaxInt}),
		ofCapable(api.Capable{Version: -1}), ofCapable(api.Capable{Version: 16}), ofCapable(api.Capable{Version: 256}),
		ofCapable(api.Capable{Own: 1}), ofCapable(api.Capable{Form: 1, Peer: 1}), ofCapable(api.Capable{Form: 2, Len: 1}), ofCapable(api.Capable{Form: 3, Sum: 1}),
		ofCapable(api.Capable{Form: 3, Len: -1}), ofCapable(api.Capable{Form: 4, Len: 65536}),
		ofJoin(api.Join{Form: -1}), ofJoin(api.Join{Form: 3}), ofJoin(api.Join{Id: -1}), ofJoin(api.Join{Id: 256}), ofJoin(api.Join{Mac: "a"}), ofJoin(api.Join{Mac: mac}),
		ofJoin(api.Join{Form: 1}), ofJoin(api.Join{Form: 1, Mac: mac[1:]}), ofJoin(api.Join{Form: 1, Mac: mac, Token: 1}),
		ofJoin(api.Join{Form: 2, Mac: mac}), ofJoin(api.Join{Form: 2, Mac: mixed(20), Backup: true}), ofJoin(api.Join{Form: 2, Mac: mixed(20), Id: 1}), ofJoin(api.Join{Form: 2, Mac: mixed(20), Token: 1}), ofJoin(api.Join{Form: 2, Mac: mixed(20), Nonce: 1}),
		ofDss(api.Dss{}), ofDss(api.Dss{HasAck: true, Ack: 1 << 32}), ofDss(api.Dss{HasMap: true, Dsn: 1 << 32}), ofDss(api.Dss{HasMap: true, Len: -1}), ofDss(api.Dss{HasMap: true, Len: 65536}),
		ofDss(api.Dss{HasMap: true, LongAck: true}), ofDss(api.Dss{HasMap: true, Ack: 1}), ofDss(api.Dss{HasAck: true, Fin: true}), ofDss(api.Dss{HasAck: true, LongDsn: true}), ofDss(api.Dss{HasAck: true, Dsn: 1}),
		ofDss(api.Dss{HasAck: true, Ssn: 1}), ofDss(api.Dss{HasAck: true, Len: 1}), ofDss(api.Dss{HasAck: true, HasSum: true}), ofDss(api.Dss{HasMap: true, Sum: 1}),
		ofAdd(api.Add{}), ofAdd(api.Add{Echo: true}), ofAdd(api.Add{Echo: true, Ip: ip, Id: -1}), ofAdd(api.Add{Echo: true, Ip: ip, Id: 256}), ofAdd(api.Add{Echo: true, Ip: ip + "a"}), ofAdd(api.Add{Echo: true, Ip: ip, Port: 1}),
		ofAdd(api.Add{Echo: true, Ip: ip, HasPort: true, Port: -1}), ofAdd(api.Add{Echo: true, Ip: ip, HasPort: true, Port: 65536}), ofAdd(api.Add{Echo: true, Ip: ip, Mac: mac}), ofAdd(api.Add{Ip: ip}), ofAdd(api.Add{Ip: ip, Mac: mac + "i"}),
		ofRemove(""), ofRemove(mixed(38)), ofRemove(mixed(293)),
		ofRst(-1, 0), ofRst(16, 0), ofRst(0, -1), ofRst(0, 256), ofRst(math.MinInt, 0), ofRst(0, math.MaxInt),
	}
}

// others are copies of o that have, in one of the contents that are not its own, one field that is not zero: each one of all of them.
func others(o api.Opt) []api.Opt {
	var all []api.Opt
	fields := reflect.TypeFor[api.Opt]()
	for sub := range 9 {
		if sub == o.Sub {
			continue
		}
		for k := range fields.Field(sub + 1).Type.NumField() {
			other := o
			set(reflect.ValueOf(&other).Elem().Field(sub + 1).Field(k))
			all = append(all, other)
		}
	}
	return all
}

// set makes a field one that is not zero.
func set(field reflect.Value) {
	switch field.Kind() {
	case reflect.Bool:
		field.SetBool(true)
	case reflect.String:
		field.SetString("\x00")
	case reflect.Int:
		field.SetInt(1)
	default:
		field.SetUint(1)
	}
}

// bodyOf is the body of a valid option, by the library.
func bodyOf(o api.Opt) string {
	be := binary.BigEndian
	b := []byte{byte(o.Sub) << 4}
	bit := func(at int, on bool, n byte) {
		if on {
			b[at] |= n
		}
	}
	switch x := o.Capable; o.Sub {
	case 0:
		b = append(b, 1)
		b[0] |= byte(x.Version)
		bit(1, x.Sums, 128)
		bit(1, x.Alone, 32)
		b = be.AppendUint64(b, x.Own)
		b = be.AppendUint64(b, x.Peer)
		b = be.AppendUint16(b, uint16(x.Len))
		b = be.AppendUint16(b, x.Sum)
		b = b[:[]int{2, 10, 18, 20, 22}[x.Form]]
	case 1:
		b = joinBody(o.Join)
	case 2:
		b = dssBody(o.Dss)
	case 3:
		bit(0, o.Add.Echo, 1)
		b = append(b, byte(o.Add.Id))
		b = append(b, o.Add.Ip...)
		if o.Add.HasPort {
			b = be.AppendUint16(b, uint16(o.Add.Port))
		}
		b = append(b, o.Add.Mac...)
	case 4:
		b = append(b, o.Remove.Ids...)
	case 5:
		bit(0, o.Prio.Backup, 1)
	case 6:
		b = be.AppendUint64(append(b, 0), o.Fail.Dsn)
	case 7:
		b = be.AppendUint64(append(b, 0), o.Fast.Key)
	case 8:
		b = []byte{0x80 + byte(o.Rst.Flags), byte(o.Rst.Reason)}
	}
	return string(b)
}

func joinBody(x api.Join) []byte {
	b := []byte{0x10, byte(x.Id)}
	if x.Backup {
		b[0]++
	}
	if x.Form == 0 {
		b = binary.BigEndian.AppendUint32(b, x.Token)
	}
	b = append(b, x.Mac...)
	if x.Form < 2 {
		b = binary.BigEndian.AppendUint32(b, x.Nonce)
	}
	return b
}

func dssBody(x api.Dss) []byte {
	be := binary.BigEndian
	b := []byte{0x20, 0}
	for k, on := range []bool{x.HasAck, x.LongAck, x.HasMap, x.LongDsn, x.Fin} {
		if on {
			b[1] |= 1 << k
		}
	}
	number := func(n uint64, long bool) {
		if all := be.AppendUint64(nil, n); long {
			b = append(b, all...)
		} else {
			b = append(b, all[4:]...)
		}
	}
	if x.HasAck {
		number(x.Ack, x.LongAck)
	}
	if x.HasMap {
		number(x.Dsn, x.LongDsn)
		b = be.AppendUint32(b, x.Ssn)
		b = be.AppendUint16(b, uint16(x.Len))
	}
	if x.HasSum {
		b = be.AppendUint16(b, x.Sum)
	}
	return b
}

// optOf is what Decode must return, by the words of the chapter.
func optOf(x api.Item) (api.Opt, api.Errno) {
	if x.Kind != 30 {
		return api.Opt{}, api.ErrKind
	}
	if len(x.Body) == 0 {
		return api.Opt{}, api.ErrShort
	}
	o, e := api.Opt{Sub: int(x.Body[0] >> 4)}, api.ErrKind
	switch o.Sub {
	case 0:
		o.Capable, e = capable.Decode(x.Body)
	case 1:
		o.Join, e = join.Decode(x.Body)
	case 2:
		o.Dss, e = dss.Decode(x.Body)
	case 3:
		o.Add, e = addr.DecodeAdd(x.Body)
	case 4:
		o.Remove, e = addr.DecodeRemove(x.Body)
	case 5:
		o.Prio, e = ctrl.DecodePrio(x.Body)
	case 6:
		o.Fail, e = ctrl.DecodeFail(x.Body)
	case 7:
		o.Fast, e = ctrl.DecodeFast(x.Body)
	case 8:
		o.Rst, e = ctrl.DecodeRst(x.Body)
	}
	if e != api.OK {
		o = api.Opt{}
	}
	return o, e
}

// allOf is what All must return, by the words of the chapter.
func allOf(s string) ([]api.Opt, api.Errno) {
	items, e := area.Walk(s)
	if e != api.OK {
		return nil, e
	}
	var l []api.Opt
	for _, x := range items {
		o, e := optOf(x)
		if e == api.OK {
			l = append(l, o)
		} else if e != api.ErrKind {
			return nil, e
		}
	}
	return l, api.OK
}

// bytesOf are the bytes of items, with 0 behind them up to a multiple of four.
func bytesOf(items ...api.Item) string {
	s := ""
	for _, x := range items {
		s += one(x.Kind) + one(len(x.Body)+2) + x.Body
	}
	for len(s)%4 != 0 {
		s += "\x00"
	}
	return s
}

// areaOf is what Lay must return for valid options.
func areaOf(l []api.Opt) (string, api.Errno) {
	var items []api.Item
	for _, o := range l {
		items = append(items, item(bodyOf(o)))
	}
	if s := bytesOf(items...); len(s) <= 40 {
		return s, api.OK
	}
	return "", api.ErrRoom
}

// show writes options with what they have alone: the other fields are many.
func show(l ...api.Opt) string {
	var words []string
	for _, o := range l {
		words = append(words, fmt.Sprintf("Sub %d", o.Sub))
		for sub := range 9 {
			if content := reflect.ValueOf(o).Field(sub + 1); !content.IsZero() {
				words = append(words, fmt.Sprintf("%#v", content.Interface()))
			}
		}
	}
	return "[" + strings.Join(words, " ") + "]"
}

// encodes checks that an option is valid, and has this body.
func encodes(t *testing.T, o api.Opt, body string) {
	t.Helper()
	if !May(o) {
		t.Fatalf("May(%s) = false", show(o))
	}
	if got, e := Encode(o); got != item(body) || e != api.OK {
		t.Fatalf("Encode(%s) = %d, %x, %d, not %x", show(o), got.Kind, got.Body, e, body)
	}
}

// refuses checks that an option is not valid, has no item, and no area alone.
func refuses(t *testing.T, o api.Opt) {
	t.Helper()
	if May(o) {
		t.Fatalf("May(%s) = true", show(o))
	}
	if got, e := Encode(o); got != (api.Item{}) || e != api.ErrArg {
		t.Fatalf("Encode(%s) = %d, %x, %d, not ErrArg", show(o), got.Kind, got.Body, e)
	}
	lays(t, []api.Opt{o}, "", api.ErrArg)
}

// decodes checks what Decode returns for an item.
func decodes(t *testing.T, x api.Item, want api.Opt, code api.Errno) {
	t.Helper()
	if got, e := Decode(x); got != want || e != code {
		t.Fatalf("Decode(%d, %x) = %s, %d, not %s, %d", x.Kind, x.Body, show(got), e, show(want), code)
	}
}

// refusesItem checks with which error Decode refuses an item.
func refusesItem(t *testing.T, x api.Item, code api.Errno) {
	t.Helper()
	decodes(t, x, api.Opt{}, code)
}

// agrees checks that Decode returns what the words of the chapter say.
func agrees(t *testing.T, x api.Item) {
	t.Helper()
	want, e := optOf(x)
	decodes(t, x, want, e)
}

// lays checks what Lay returns for options.
func lays(t *testing.T, l []api.Opt, want string, code api.Errno) {
	t.Helper()
	if got, e := Lay(l); got != want || e != code {
		t.Fatalf("Lay(%s) = %x, %d, not %x, %d", show(l...), got, e, want, code)
	}
}

// reads checks which options All returns for an area.
func reads(t *testing.T, s string, want ...api.Opt) {
	t.Helper()
	if got, e := All(s); !slices.Equal(got, want) || e != api.OK {
		t.Fatalf("All(%x) = %s, %d, not %s", s, show(got...), e, show(want...))
	}
}

// refusesArea checks with which error All refuses a text.
func refusesArea(t *testing.T, s string, code api.Errno) {
	t.Helper()
	if got, e := All(s); len(got) != 0 || e != code {
		t.Fatalf("All(%x) = %s, %d, not %d", s, show(got...), e, code)
	}
}

// agreesAll checks that All returns what the words of the chapter say.
func agreesAll(t *testing.T, s string) {
	t.Helper()
	want, code := allOf(s)
	if got, e := All(s); !slices.Equal(got, want) || e != code {
		t.Fatalf("All(%x) = %s, %d, not %s, %d", s, show(got...), e, show(want...), code)
	}
}

// The chapter's examples

func TestExamples(t *testing.T) {
	encodes(t, ofPrio(true), digits(t, "51"))
	refuses(t, api.Opt{Sub: api.SubPrio, Fail: api.Fail{Dsn: 1}})
	refuses(t, api.Opt{Sub: api.SubPrio, Prio: api.Prio{Backup: true}, Fail: api.Fail{Dsn: 1}})
	decodes(t, item(digits(t, "51")), ofPrio(true), api.OK)
	refusesItem(t, api.Item{Kind: 31, Body: digits(t, "51")}, api.ErrKind)
	refusesItem(t, item(""), api.ErrShort)
	refusesItem(t, item(digits(t, "90")), api.ErrKind)
	lays(t, []api.Opt{ofPrio(false), ofRst(1, 2)}, digits(t, "1e 03 50 1e 04 81 02 00"), api.OK)
	reads(t, digits(t, "1e 03 90 1e 03 51 01 00"), ofPrio(true))
	refusesArea(t, digits(t, "1e 04 50 00"), api.ErrForm)
}

// P14.1

// An option of each form, written out.
func TestEncodeForms(t *testing.T) {
	for body, o := range forms() {
		encodes(t, o, digits(t, body))
		if got := bodyOf(o); got != digits(t, body) {
			t.Fatalf("the test's own body of %s is %x, not %s", show(o), got, body)
		}
	}
}

func TestEncodeRandomly(t *testing.T) {
	r := rand.New(rand.NewSource(141))
	for sub := range 9 {
		for range 2000 {
			o := anyValid(r, sub)
			encodes(t, o, bodyOf(o))
		}
	}
}

// A Sub that is none of the nine, with no content, and with one of each subtype.
func TestEncodeSub(t *testing.T) {
	for _, sub := range noSubs {
		refuses(t, api.Opt{Sub: sub})
		for _, o := range valid() {
			o.Sub = sub
			refuses(t, o)
		}
	}
	for sub := -1000; sub <= 1000; sub++ {
		if sub < 0 || sub > 8 {
			refuses(t, api.Opt{Sub: sub})
		}
	}
}

// Options with no content at all: some subtypes have a zero content that is valid.
func TestEncodeZero(t *testing.T) {
	encodes(t, api.Opt{}, "\x00\x01")
	encodes(t, api.Opt{Sub: 1}, "\x10\x00\x00\x00\x00\x00\x00\x00\x00\x00")
	refuses(t, api.Opt{Sub: 2})
	refuses(t, api.Opt{Sub: 3})
	refuses(t, api.Opt{Sub: 4})
	encodes(t, api.Opt{Sub: 5}, "\x50")
	encodes(t, api.Opt{Sub: 6}, "\x60\x00\x00\x00\x00\x00\x00\x00\x00\x00")
	encodes(t, api.Opt{Sub: 7}, "\x70\x00\x00\x00\x00\x00\x00\x00\x00\x00")
	encodes(t, api.Opt{Sub: 8}, "\x80\x00")
}

func TestEncodeContent(t *testing.T) {
	for _, o := range invalid() {
		refuses(t, o)
	}
}

// A valid content, and one field of another one that is not zero; also such a field, and a content that is not valid.
func TestEncodeOthers(t *testing.T) {
	for _, o := range append(valid(), invalid()...) {
		l := others(o)
		if len(l) < 26 { // a Dss has 11 of the 37
			t.Fatalf("%d fields only", len(l))
		}
		for _, other := range l {
			refuses(t, other)
		}
	}
}

// A valid content, and another one that is valid, too.
func TestEncodeTwoContents(t *testing.T) {
	for _, o := range valid() {
		for _, p := range valid() {
			both := reflect.ValueOf(&o).Elem()
			if own := reflect.ValueOf(p).Field(p.Sub + 1); p.Sub != o.Sub && !own.IsZero() {
				before := o
				both.Field(p.Sub + 1).Set(own)
				refuses(t, o)
				o = before
			}
		}
	}
}

// The content of another subtype is none, even where it is valid.
func TestEncodeOtherSub(t *testing.T) {
	for _, o := range valid() {
		empty := o == (api.Opt{Sub: o.Sub})
		for sub := range 9 {
			if p := o; sub != o.Sub && !empty {
				p.Sub = sub
				refuses(t, p)
			}
		}
	}
}

// P14.2

func TestDecodeForms(t *testing.T) {
	for body, o := range forms() {
		decodes(t, item(digits(t, body)), o, api.OK)
	}
}

func TestDecodeKind(t *testing.T) {
	for _, kind := range kinds {
		refusesItem(t, api.Item{Kind: kind}, api.ErrKind)
		for body := range forms() {
			refusesItem(t, api.Item{Kind: kind, Body: digits(t, body)}, api.ErrKind)
		}
		for first := range 256 {
			refusesItem(t, api.Item{Kind: kind, Body: one(first)}, api.ErrKind)
		}
	}
	for kind := -1000; kind <= 1000; kind++ {
		if kind != 30 {
			refusesItem(t, api.Item{Kind: kind, Body: "\x51"}, api.ErrKind)
		}
	}
}

func TestDecodeNone(t *testing.T) {
	refusesItem(t, item(""), api.ErrShort)
	refusesItem(t, api.Item{}, api.ErrKind)
}

// Subtypes that are unknown, in all sizes.
func TestDecodeUnknown(t *testing.T) {
	for first := 0x90; first <= 0xff; first++ {
		for n := range 41 {
			for _, rest := range texts(n) {
				refusesItem(t, item(one(first)+rest), api.ErrKind)
			}
		}
		refusesItem(t, item(one(first)+mixed(300)), api.ErrKind)
	}
}

// Bodies with one byte fewer, and with one more, written out: the errors are those of the subtypes' own functions.
func TestDecodeSizesWrittenOut(t *testing.T) {
	for _, x := range []struct {
		body        string
		fewer, more api.Errno
	}{
		{"01 81", api.ErrForm, api.ErrForm},
		{"01 01 00 00 00 00 00 00 01 02", api.ErrForm, api.ErrForm},
		{"01 81 0102030405060708 f1e2d3c4b5a69788", api.ErrForm, api.ErrForm},
		{"01 01 0000000000000001 0000000000000002 0003", api.ErrForm, api.ErrForm},
		{"01 21 0000000000000001 0000000000000002 0003 0004", api.ErrForm, api.ErrForm},
		{"11 02 00000102 00000005", api.ErrForm, api.ErrForm},
		{"10 03 6162636465666768 00000001", api.ErrForm, api.ErrForm},
		{"10 00 6162636465666768696a6b6c6d6e6f7061626364", api.ErrForm, api.ErrForm},
		{"20 01 00000102", api.ErrShort, api.ErrForm},
		{"20 03 0000000100000000", api.ErrShort, api.ErrForm},
		{"20 04 00000002 00000003 0004", api.ErrShort, api.ErrForm},
		{"20 04 00000002 00000003 0004 0000", api.ErrForm, api.ErrForm},
		{"20 07 0000000000000001 00000002 00000003 0004", api.ErrShort, api.ErrForm},
		{"31 05 0a000001", api.ErrForm, api.ErrForm},
		{"31 05 0a000001 0000", api.ErrForm, api.ErrForm},
		{"30 01 0a000001 6162636465666768", api.ErrForm, api.ErrForm},
		{"30 01 0a000001 01bb 6162636465666768", api.ErrForm, api.ErrForm},
		{"40 00", api.ErrForm, api.OK},
		{"40" + strings.Repeat("07", 37), api.OK, api.ErrForm},
		{"51", api.ErrShort, api.ErrForm},
		{"60 00 0000000000000102", api.ErrShort, api.ErrForm},
		{"70 00 0102030405060708", api.ErrShort, api.ErrForm},
		{"81 02", api.ErrShort, api.ErrForm},
	} {
		s := digits(t, x.body)
		for _, changed := range []struct {
			s    string
			code api.Errno
		}{{s[:len(s)-1], x.fewer}, {s + "\x00", x.more}, {s + "\xff", x.more}} {
			if changed.code == api.OK {
				decodes(t, item(changed.s), ofRemove(changed.s[1:]), api.OK)
			} else {
				refusesItem(t, item(changed.s), changed.code)
			}
		}
	}
}

// Errors that are neither of the size nor of the subtype.
func TestDecodeContent(t *testing.T) {
	refusesItem(t, item("\x01\x80"), api.ErrArg)
	refusesItem(t, item("\x01\xfe"+mixed(20)), api.ErrArg)
	refusesItem(t, item("\x20\x00"), api.ErrForm)
	refusesItem(t, item("\x20\xfa"+mixed(20)), api.ErrForm)
	refusesItem(t, item("\x20"), api.ErrShort)
	refusesItem(t, item("\x30\x05\x0a\x00\x00\x01"), api.ErrForm)
	refusesItem(t, item("\x31\x01\x0a\x00\x00\x01abcdefgh"), api.ErrForm)
}

// First bytes of all values, in all sizes.
func TestDecodeSizes(t *testing.T) {
	r := rand.New(rand.NewSource(142))
	for first := range 256 {
		agrees(t, item(one(first)))
		for n := range 41 {
			for _, rest := range append(texts(n), anyText(r, n)) {
				agrees(t, item(one(first)+rest))
			}
		}
	}
}

// First and second bytes of all values.
func TestDecodeTwo(t *testing.T) {
	for first := range 256 {
		for second := range 256 {
			front := one(first) + one(second)
			agrees(t, item(front))
			if first/16 < 4 && first%16 < 2 {
				for _, n := range []int{4, 8, 10, 12, 14, 16, 18, 20, 22, 26} {
					agrees(t, item(front+mixed(n)))
				}
			}
		}
	}
}

// The Kind counts before the Body, the lack of one before its subtype, and that before what is behind it.
func TestDecodeOrder(t *testing.T) {
	refusesItem(t, api.Item{Kind: 29}, api.ErrKind)
	refusesItem(t, api.Item{Kind: 29, Body: "\x90"}, api.ErrKind)
	refusesItem(t, api.Item{Kind: 29, Body: "\x20"}, api.ErrKind)
	refusesItem(t, api.Item{Kind: 29, Body: "\x50\x00"}, api.ErrKind)
	refusesItem(t, api.Item{Kind: 30}, api.ErrShort)
	refusesItem(t, api.Item{Kind: 30, Body: "\x90"}, api.ErrKind)
	refusesItem(t, api.Item{Kind: 30, Body: "\x9f\x00\x00"}, api.ErrKind)
	refusesItem(t, api.Item{Kind: 30, Body: "\x20"}, api.ErrShort)
	refusesItem(t, api.Item{Kind: 30, Body: "\x01\x80\x00"}, api.ErrForm)
	refusesItem(t, api.Item{Kind: 30, Body: "\x20\x00\x00"}, api.ErrForm)
}

// With an error the option is a zero one, also where the bytes that there are say something.
func TestDecodeZero(t *testing.T) {
	for _, o := range valid() {
		body := bodyOf(o)
		for _, x := range []api.Item{{Kind: 29, Body: body}, item(one(0x9f) + body[1:]), item(body + mixed(3) + mixed(40))} {
			if got, e := Decode(x); got != (api.Opt{}) || e == api.OK {
				t.Fatalf("Decode(%d, %x) = %s, %d", x.Kind, x.Body, show(got), e)
			}
		}
	}
}

func TestDecodeRandomly(t *testing.T) {
	r := rand.New(rand.NewSource(143))
	for range 50000 {
		s := bodyOf(anyValid(r, r.Intn(9)))
		switch r.Intn(5) {
		case 0:
			s = anyText(r, r.Intn(41))
		case 1:
			s = s[:r.Intn(len(s)+1)]
		case 2:
			s += anyText(r, 1+r.Intn(3))
		case 3:
			at := r.Intn(len(s))
			s = s[:at] + anyText(r, 1) + s[at+1:]
		}
		agrees(t, item(s))
		agrees(t, api.Item{Kind: 28 + r.Intn(5), Body: s})
	}
}

// P14.3: Lay

func TestLay(t *testing.T) {
	lays(t, nil, "", api.OK)
	lays(t, []api.Opt{}, "", api.OK)
	lays(t, []api.Opt{ofPrio(true)}, "\x1e\x03\x51\x00", api.OK)
	lays(t, []api.Opt{ofRst(15, 255)}, "\x1e\x04\x8f\xff", api.OK)
	lays(t, []api.Opt{ofRst(1, 2), ofPrio(false)}, "\x1e\x04\x81\x02\x1e\x03\x50\x00", api.OK)
	lays(t, []api.Opt{ofPrio(true), ofPrio(true)}, "\x1e\x03\x51\x1e\x03\x51\x00\x00", api.OK)
	lays(t, []api.Opt{{}}, "\x1e\x04\x00\x01", api.OK)
	lays(t, []api.Opt{{}, {}}, "\x1e\x04\x00\x01\x1e\x04\x00\x01", api.OK)
	for body, o := range forms() {
		s := digits(t, body)
		lays(t, []api.Opt{o}, bytesOf(item(s)), api.OK)
	}
}

// One that is not valid, as the first, a middle, and the last one, also where the bytes would be too many.
func TestLayInvalid(t *testing.T) {
	wrong := append(invalid(), api.Opt{Sub: -1}, api.Opt{Sub: 9}, api.Opt{Sub: 5, Fail: api.Fail{Dsn: 1}}, api.Opt{Sub: math.MaxInt})
	for _, o := range wrong {
		for _, p := range []api.Opt{ofPrio(true), ofFast(1), ofRemove(mixed(37))} {
			lays(t, []api.Opt{o}, "", api.ErrArg)
			lays(t, []api.Opt{o, p, p}, "", api.ErrArg)
			lays(t, []api.Opt{p, o, p}, "", api.ErrArg)
			lays(t, []api.Opt{p, p, o}, "", api.ErrArg)
			lays(t, []api.Opt{p, p, p, p, o}, "", api.ErrArg)
			lays(t, []api.Opt{o, o}, "", api.ErrArg)
		}
	}
}

// How many bytes are too many: 40 are not.
func TestLayRoom(t *testing.T) {
	for n := 1; n <= 37; n++ {
		o := ofRemove(mixed(n))
		lays(t, []api.Opt{o}, bytesOf(item("\x40"+mixed(n))), api.OK)
		for rest := 1; rest <= 37; rest++ {
			if l := []api.Opt{o, ofRemove(mixed(rest))}; 3+n+3+rest <= 40 {
				lays(t, l, bytesOf(item("\x40"+mixed(n)), item("\x40"+mixed(rest))), api.OK)
			} else {
				lays(t, l, "", api.ErrRoom)
			}
		}
	}
	for n := range 20 {
		if l := slices.Repeat([]api.Opt{ofRst(3, 4)}, n); n <= 10 {
			lays(t, l, strings.Repeat("\x1e\x04\x83\x04", n), api.OK)
		} else {
			lays(t, l, "", api.ErrRoom)
		}
		if l := slices.Repeat([]api.Opt{ofPrio(false)}, n); n <= 13 {
			lays(t, l, strings.Repeat("\x1e\x03\x50", n)+strings.Repeat("\x00", (4-3*n%4)%4), api.OK)
		} else {
			lays(t, l, "", api.ErrRoom)
		}
	}
	lays(t, slices.Repeat([]api.Opt{ofPrio(false)}, 5000), "", api.ErrRoom)
	lays(t, []api.Opt{ofRemove(mixed(37)), ofPrio(false)}, "", api.ErrRoom)
	lays(t, []api.Opt{ofPrio(false), ofRemove(mixed(37))}, "", api.ErrRoom)
}

func TestLayRandomly(t *testing.T) {
	r := rand.New(rand.NewSource(144))
	for range 20000 {
		var l []api.Opt
		for range r.Intn(5) {
			l = append(l, anyValid(r, r.Intn(9)))
		}
		want, e := areaOf(l)
		lays(t, l, want, e)
	}
}

// The options that are passed are neither changed nor kept.
func TestLayKeepsNothing(t *testing.T) {
	l := []api.Opt{ofPrio(true), ofRst(1, 2)}
	before := slices.Clone(l)
	s, _ := Lay(l[:1])
	if !slices.Equal(l, before) {
		t.Fatalf("the options are %s then", show(l...))
	}
	l[0] = ofPrio(false)
	if s != "\x1e\x03\x51\x00" {
		t.Fatalf("the area is %x then", s)
	}
}

// P14.3: All

func TestAll(t *testing.T) {
	reads(t, "")
	reads(t, "\x00\x00\x00\x00")
	reads(t, "\x01\x01\x01\x01")
	reads(t, "\x1e\x03\x51\x00", ofPrio(true))
	reads(t, "\x1e\x03\x51\x01", ofPrio(true))
	reads(t, "\x1e\x03\x51\x1e\x03\x50\x00\x00", ofPrio(true), ofPrio(false))
	reads(t, "\x01\x1e\x03\x51\x01\x1e\x03\x51", ofPrio(true), ofPrio(true))
	reads(t, "\x1e\x04\x81\x02\x00\x1e\x04\x81", ofRst(1, 2))
	reads(t, "\x00\x1e\x04\x81")
	for body, o := range forms() {
		reads(t, bytesOf(item(digits(t, body))), o)
	}
}

// Texts that are no areas, each for one reason, and also behind an option, or behind an item that is refused.
func TestAllNoArea(t *testing.T) {
	for _, front := range []string{"", "\x1e\x04\x81\x02", "\x1e\x04\x50\x00", "\x1e\x04\x20\x00", "\x1e\x04\x01\x80", "\x03\x04ab", "\x1e\x04\x91\x02"} {
		refusesArea(t, front+"\x00", api.ErrForm)
		refusesArea(t, front+"\x1e\x03\x51", api.ErrForm)
		refusesArea(t, front+"\x01\x01\x01\x1e", api.ErrShort)
		refusesArea(t, front+"\x01\x01\x01\x05", api.ErrShort)
		refusesArea(t, front+"\x1e\x00\x00\x00", api.ErrForm)
		refusesArea(t, front+"\x1e\x01\x00\x00", api.ErrForm)
		refusesArea(t, front+"\x1e\x05\x51\x00", api.ErrShort)
		refusesArea(t, front+"\x1e\xff\x51\x00", api.ErrShort)
		refusesArea(t, front+"\x03\x05ab", api.ErrShort)
		refusesArea(t, front+strings.Repeat("\x00", 44), api.ErrRoom)
		refusesArea(t, front+strings.Repeat("\x00", 41), api.ErrRoom)
		refusesArea(t, front+strings.Repeat("\x1e\x04\x81\x02", 11), api.ErrRoom)
		refusesArea(t, front+strings.Repeat("\x1e\x04\x20\x00", 11), api.ErrRoom)
	}
}

// Items of other Kinds, and of unknown subtypes, ahead of options, between them, and behind them.
func TestAllSkips(t *testing.T) {
	skipped := []api.Item{{Kind: 2}, {Kind: 3, Body: "x"}, {Kind: 29, Body: "\x51"}, {Kind: 31, Body: "\x51"}, {Kind: 31, Body: "\x20"}, {Kind: 29}, {Kind: 255, Body: "\x50\x00"}, {Kind: 8, Body: mixed(8)},
		item("\x90"), item("\x9f"), item("\xa0"), item("\xff"), item("\xf0" + mixed(9)), item("\xc1\x00")}
	p, q := ofPrio(true), ofRst(1, 2)
	x, y := item("\x51"), item("\x81\x02")
	for _, z := range skipped {
		reads(t, bytesOf(z))
		reads(t, bytesOf(z, z))
		reads(t, bytesOf(z, x), p)
		reads(t, bytesOf(x, z), p)
		reads(t, bytesOf(z, x, y), p, q)
		reads(t, bytesOf(y, z, x), q, p)
		reads(t, bytesOf(x, y, z), p, q)
		reads(t, "\x01\x01\x01\x01"+bytesOf(x, z, y), p, q)
		if area := bytesOf(z, x, z, y, z); len(area) <= 40 {
			reads(t, area, p, q)
		}
	}
}

// An item that is refused, with an error that is not ErrKind: alone, behind options and skipped items, ahead of them, and of two such ones the first one counts.
func TestAllRefused(t *testing.T) {
	refused := []struct {
		body string
		code api.Errno
	}{
		{"", api.ErrShort}, {"\x20", api.ErrShort}, {"\x60\x00", api.ErrShort}, {"\x80", api.ErrShort}, {"\x20\x01\x00", api.ErrShort},
		{"\x01", api.ErrForm}, {"\x50\x00", api.ErrForm}, {"\x40", api.ErrForm}, {"\x20\x00", api.ErrForm}, {"\x30\x05\x0a\x00\x00\x01", api.ErrForm}, {"\x10\x02", api.ErrForm},
		{"\x01\x80", api.ErrArg}, {"\x01\x00", api.ErrArg},
	}
	p, s := item("\x51"), item("\x90")
	for _, x := range refused {
		z := item(x.body)
		refusesArea(t, bytesOf(z), x.code)
		refusesArea(t, bytesOf(p, z), x.code)
		refusesArea(t, bytesOf(z, p), x.code)
		refusesArea(t, bytesOf(p, p, z, p), x.code)
		refusesArea(t, bytesOf(s, z), x.code)
		refusesArea(t, bytesOf(p, s, z, s), x.code)
		refusesArea(t, bytesOf(z, s), x.code)
		for _, y := range refused {
			refusesArea(t, bytesOf(z, item(y.body)), x.code)
			refusesArea(t, bytesOf(p, s, z, s, item(y.body), p), x.code)
		}
		reads(t, "\x01\x1e\x03\x51\x00\x00\x00\x00"+bytesOf(z), ofPrio(true))
	}
}

func TestAllRandomly(t *testing.T) {
	r := rand.New(rand.NewSource(145))
	for range 50000 {
		var items []api.Item
		for range r.Intn(6) {
			x := item(bodyOf(anyValid(r, r.Intn(9))))
			switch r.Intn(8) {
			case 0:
				x.Kind = 2 + r.Intn(254)
			case 1:
				x.Body = one(0x90+r.Intn(0x70)) + x.Body[1:]
			case 2:
				x.Body = anyText(r, r.Intn(12))
			}
			items = append(items, x)
		}
		s := bytesOf(items...)
		agreesAll(t, s)
		agreesAll(t, s[:min(len(s), 4*r.Intn(11))])
		agreesAll(t, s[:r.Intn(len(s)+1)])
		agreesAll(t, anyText(r, 4*r.Intn(11)))
	}
}

// What is returned is the caller's.
func TestAllIsNew(t *testing.T) {
	const s = "\x1e\x04\x81\x02\x1e\x03\x51\x00"
	l, _ := All(s)
	l[0], l[1] = ofPrio(false), ofPrio(false)
	reads(t, s, ofRst(1, 2), ofPrio(true))
}

// P14.4

// returns checks that an option that is valid is decoded unchanged, from its item, and from its area.
func returns(t *testing.T, o api.Opt) {
	t.Helper()
	x, e := Encode(o)
	if e != api.OK {
		t.Fatalf("Encode(%s) = %d", show(o), e)
	}
	decodes(t, x, o, api.OK)
	s, e := Lay([]api.Opt{o})
	if e != api.OK {
		t.Fatalf("Lay of %s alone = %d", show(o), e)
	}
	reads(t, s, o)
}

func TestRoundTrip(t *testing.T) {
	for _, o := range valid() {
		returns(t, o)
	}
	r := rand.New(rand.NewSource(146))
	for sub := range 9 {
		for range 2000 {
			returns(t, anyValid(r, sub))
		}
	}
}

// ignored are the bits of a body that are ignored, by the words of chapters 9 to 13, as a mask of its first two bytes.
func ignored(o api.Opt) (first, second byte) {
	switch {
	case o.Sub == 0:
		return 0, 0x5e
	case o.Sub == 1 && o.Join.Form == 2:
		return 0x0f, 0xff
	case o.Sub == 1 || o.Sub == 3 || o.Sub == 5:
		return 0x0e, 0
	case o.Sub == 2:
		second = 0xe0
		if !o.Dss.HasAck {
			second |= 2
		}
		if !o.Dss.HasMap {
			second |= 8 + 16
		}
		return 0x0f, second
	case o.Sub == 4:
		return 0x0f, 0
	case o.Sub == 6 || o.Sub == 7:
		return 0x0f, 0xff
	}
	return 0, 0
}

// Bodies with ignored bits that are not 0 are decoded as if they were, and encoded with 0 in their place, in as many bytes.
func TestRoundTripOfBytes(t *testing.T) {
	r := rand.New(rand.NewSource(147))
	for range 20000 {
		o := anyValid(r, r.Intn(9))
		body := bodyOf(o)
		first, second := ignored(o)
		b := []byte(body)
		b[0] |= first & byte(r.Intn(256))
		if len(b) > 1 {
			b[1] |= second & byte(r.Intn(256))
		}
		decodes(t, item(string(b)), o, api.OK)
		encodes(t, o, body)
	}
}

// Whatever is decoded is valid, and encoded in as many bytes, none of which has a bit that was not there.
func TestDecodedIsValid(t *testing.T) {
	r := rand.New(rand.NewSource(148))
	found := [9]int{}
	for range 100000 {
		s := one(r.Intn(0x90)) + anyText(r, []int{0, 1, 5, 7, 9, 11, 13, 15, 17, 19, 21, r.Intn(40)}[r.Intn(12)])
		o, e := Decode(item(s))
		if e != api.OK {
			continue
		}
		found[o.Sub]++
		x, e := Encode(o)
		if e != api.OK || !May(o) || len(x.Body) != len(s) || x.Kind != 30 {
			t.Fatalf("%x is decoded as %s, which is encoded as %d, %x, %d", s, show(o), x.Kind, x.Body, e)
		}
		for k := range len(s) {
			if x.Body[k]&^s[k] != 0 || k > 1 && x.Body[k] != s[k] {
				t.Fatalf("%x is decoded as %s, which is encoded as %x", s, show(o), x.Body)
			}
		}
		decodes(t, x, o, api.OK)
	}
	for sub, n := range found {
		if n < 100 {
			t.Fatalf("%d texts only are of the subtype %d", n, sub)
		}
	}
}

// All inverts Lay; and what All returns is laid again, as the same options, in no more bytes.
func TestAllOfLay(t *testing.T) {
	r := rand.New(rand.NewSource(149))
	reads(t, "")
	for range 20000 {
		var l []api.Opt
		for range r.Intn(7) {
			l = append(l, anyValid(r, r.Intn(9)))
		}
		s, e := Lay(l)
		if e != api.OK {
			continue
		}
		reads(t, s, l...)
		spread := s
		if len(s) <= 36 {
			spread = "\x01\x01\x01\x01" + s
		}
		again, e := All(spread)
		if e != api.OK || !slices.Equal(again, l) {
			t.Fatalf("All(%x) = %s, %d, not %s", spread, show(again...), e, show(l...))
		}
		lays(t, again, s, api.OK)
	}
}

// What other items are there does not change which options are returned.
func TestOthersDoNotMatter(t *testing.T) {
	r := rand.New(rand.NewSource(150))
	for range 20000 {
		var l []api.Opt
		var with []api.Item
		for range r.Intn(5) {
			switch r.Intn(3) {
			case 0:
				with = append(with, api.Item{Kind: 31 + r.Intn(225), Body: anyText(r, r.Intn(6))})
			case 1:
				with = append(with, item(one(0x90+r.Intn(0x70))+anyText(r, r.Intn(6))))
			default:
				o := anyValid(r, r.Intn(9))
				l = append(l, o)
				with = append(with, item(bodyOf(o)))
			}
		}
		if s := bytesOf(with...); len(s) <= 40 {
			reads(t, s, l...)
		}
	}
}

// Unlike options have unlike items.
func TestItemsAreUnlike(t *testing.T) {
	seen := map[api.Item]api.Opt{}
	for _, o := range valid() {
		x, _ := Encode(o)
		if other, ok := seen[x]; ok && other != o {
			t.Fatalf("%s and %s have the item %x", show(o), show(other), x.Body)
		}
		seen[x] = o
	}
}

// Results depend on the arguments alone, whatever was computed before.
func TestAgain(t *testing.T) {
	for range 3 {
		for _, o := range valid() {
			encodes(t, o, bodyOf(o))
			refuses(t, others(o)[0])
			returns(t, o)
			refusesItem(t, item("\x50\x00"), api.ErrForm)
			refusesArea(t, "\x1e\x04\x50\x00", api.ErrForm)
			lays(t, []api.Opt{o, {Sub: 9}}, "", api.ErrArg)
		}
	}
}

// The ways

// An error is found wherever it is wrapped; none, and a number that is none, are OK.
func TestCodeOf(t *testing.T) {
	for _, x := range []struct {
		err  error
		want api.Errno
	}{
		{nil, api.OK},
		{api.OK, api.OK},
		{api.ErrForm, api.ErrForm},
		{&api.Fault{Code: api.ErrShort, At: 3}, api.ErrShort},
		{errors.Join(errors.New("another"), api.ErrArg), api.ErrArg},
	} {
		if got := codeOf(x.err); got != x.want {
			t.Fatalf("codeOf(%v) = %d, not %d", x.err, got, x.want)
		}
	}
}

// Each row has both functions of its subtype, and changes nothing else.
func TestCodecs(t *testing.T) {
	for _, o := range valid() {
		row := codecs()[o.Sub]
		body, err := row.encode(o)
		if body != bodyOf(o) || codeOf(err) != api.OK {
			t.Fatalf("%s is encoded as %x, %v", show(o), body, err)
		}
		got, err := row.decode(body)
		got.Sub = o.Sub
		if got != o || codeOf(err) != api.OK {
			t.Fatalf("%x is decoded as %s, %v, not %s", body, show(got), err, show(o))
		}
	}
}
