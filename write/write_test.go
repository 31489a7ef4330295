package write

import (
	"fmt"
	"reflect"
	"slices"
	"strings"
	"testing"

	"relayhouse/api"
	"relayhouse/packet"
)

// short keeps what a failing test tells readable.
func short(p api.Packet) string {
	for _, s := range []*string{&p.Topic, &p.Payload, &p.Client, &p.Will.Topic, &p.Will.Payload, &p.User, &p.Pass, &p.Codes} {
		*s = (*s)[:min(len(*s), 40)]
	}
	text := fmt.Sprintf("%#v", p)
	return text[:min(len(text), 500)]
}

// cut is the beginning of bytes, for telling.
func cut(s string) string { return fmt.Sprintf("% x (%d bytes)", s[:min(len(s), 60)], len(s)) }

// hex are the bytes that are written in the chapter's way.
func hex(t *testing.T, s string) string {
	t.Helper()
	var b []byte
	for _, word := range strings.Fields(s) {
		var c byte
		if _, err := fmt.Sscanf(word, "%02x", &c); err != nil {
			t.Fatal(err)
		}
		b = append(b, c)
	}
	return string(b)
}

// wantBytes holds all that a call tells of a valid packet.
func wantBytes(t *testing.T, p api.Packet, want string) {
	t.Helper()
	if got, e := Encode(p); got != want || e != api.OK {
		t.Errorf("Encode(%s) = %s, %d; want %s, 0", short(p), cut(got), e, cut(want))
	}
	if got, e := All(p); got != want || e != api.OK {
		t.Errorf("All(%s) = %s, %d; want %s, 0", short(p), cut(got), e, cut(want))
	}
	if got := Size(p); got != len(want) {
		t.Errorf("Size(%s) = %d; want %d", short(p), got, len(want))
	}
}

func wantRefused(t *testing.T, p api.Packet) {
	t.Helper()
	if got, e := Encode(p); got != "" || e != api.ErrForm {
		t.Errorf("Encode(%s) = %s, %d; want nothing, %d", short(p), cut(got), e, api.ErrForm)
	}
	wantAllRefused(t, p)
	if got := Size(p); got != 0 {
		t.Errorf("Size(%s) = %d; want 0", short(p), got)
	}
}

func wantAllRefused(t *testing.T, l ...api.Packet) {
	t.Helper()
	if got, e := All(l...); got != "" || e != api.ErrForm {
		t.Errorf("All of %d packets = %s, %d; want nothing, %d", len(l), cut(got), e, api.ErrForm)
	}
}

// wordOf, fieldOf and lengthOf are the encodings of layers 1 and 2 by the words of their chapters.
func wordOf(n int) string { return string([]byte{byte(n / 256), byte(n % 256)}) }

func fieldOf(s string) string { return wordOf(len(s)) + s }

func lengthOf(n int) string {
	if n < 128 {
		return string([]byte{byte(n)})
	}
	return string([]byte{byte(n%128 + 128)}) + lengthOf(n/128)
}

// encodingOf is the encoding of a valid packet by the chapter's table.
func encodingOf(p api.Packet) string {
	rest := restOf(p)
	return string([]byte{16*p.Type + flagsIn(p)}) + lengthOf(len(rest)) + rest
}

// if1 is n where ok holds.
func if1(ok bool, n int) int { return map[bool]int{true: n}[ok] }

func flagsIn(p api.Packet) byte {
	if p.Type == api.Publish {
		return byte(if1(p.Dup, 8) + 2*int(p.Qos) + if1(p.Retain, 1))
	}
	return []byte{0, 0, 0, 0, 0, 0, 2, 0, 2, 0, 2, 0, 0, 0, 0}[p.Type]
}

func restOf(p api.Packet) string {
	id := wordOf(int(p.Id))
	switch p.Type {
	case api.Connect:
		return connectOf(p)
	case api.Connack:
		return string([]byte{byte(if1(p.Present, 1)), p.Code})
	case api.Publish:
		if p.Qos == 0 {
			id = ""
		}
		return fieldOf(p.Topic) + id + p.Payload
	case api.Pingreq, api.Pingresp, api.Disconnect:
		return ""
	case api.Suback:
		return id + p.Codes
	}
	for _, s := range p.Subs {
		id += fieldOf(s.Filter)
		if p.Type == api.Subscribe {
			id += string([]byte{s.Qos})
		}
	}
	return id
}

func connectOf(p api.Packet) string {
	flags := if1(p.HasUser, 128) + if1(p.HasPass, 64) + if1(p.Will.Retain, 32) +
		8*int(p.Will.Qos) + if1(p.HasWill, 4) + if1(p.Clean, 2)
	rest := "\x00\x04MQTT\x04" + string([]byte{byte(flags)}) + wordOf(int(p.Keep)) + fieldOf(p.Client)
	if p.HasWill {
		rest += fieldOf(p.Will.Topic) + fieldOf(p.Will.Payload)
	}
	if p.HasUser {
		rest += fieldOf(p.User)
	}
	if p.HasPass {
		rest += fieldOf(p.Pass)
	}
	return rest
}

// want holds a packet, valid or not, against the chapter.
func want(t *testing.T, p api.Packet) {
	t.Helper()
	if packet.Right(p) {
		wantBytes(t, p, encodingOf(p))
	} else {
		wantRefused(t, p)
	}
}

// full are valid packets in which every field that the type has is other than zero, as far as it can be.
func full() []api.Packet {
	subs := func(q byte) []api.Sub { return []api.Sub{{Filter: "a/+", Qos: q}, {Filter: "#", Qos: q}} }
	return []api.Packet{
		{Type: api.Connect, Level: 4, Clean: true, Keep: 258, Client: "c", HasWill: true,
			Will:    api.Message{Topic: "w", Payload: "p", Qos: 2, Retain: true},
			HasUser: true, User: "u", HasPass: true, Pass: "\xff"},
		{Type: api.Connack, Present: true},
		{Type: api.Connack, Code: 5},
		{Type: api.Publish, Topic: "a/b", Payload: "\xff", Qos: 1, Retain: true, Dup: true, Id: 7},
		{Type: api.Puback, Id: 1}, {Type: api.Pubrec, Id: 2}, {Type: api.Pubrel, Id: 3}, {Type: api.Pubcomp, Id: 4},
		{Type: api.Subscribe, Id: 5, Subs: subs(2)},
		{Type: api.Suback, Id: 6, Codes: "\x00\x01\x02\x80"},
		{Type: api.Unsubscribe, Id: 7, Subs: subs(0)},
		{Type: api.Unsuback, Id: 0xffff},
		{Type: api.Pingreq}, {Type: api.Pingresp}, {Type: api.Disconnect},
	}
}

// values are what a field of that type is set to in turn; zero is among them.
func values(kind reflect.Type) []any {
	switch kind.Kind() {
	case reflect.Bool:
		return []any{false, true}
	case reflect.Uint8:
		return []any{byte(0), byte(1), byte(2), byte(3), byte(4), byte(5), byte(6), byte(128), byte(255)}
	case reflect.Uint16:
		return []any{uint16(0), uint16(1), uint16(255), uint16(256), uint16(65535)}
	case reflect.String:
		return []any{"", "a", "a/+", "#", "\x00", "\x80\x01", "\xff", strings.Repeat("x", 130)}
	case reflect.Slice:
		return []any{[]api.Sub(nil), []api.Sub{}, []api.Sub{{}}, []api.Sub{{Filter: "/"}}, []api.Sub{{Filter: "x"}, {Filter: "y", Qos: 3}}, []api.Sub{{Filter: "x", Qos: 1}, {Filter: "+/#"}}}
	}
	return []any{api.Message{}, api.Message{Topic: "t"}, api.Message{Payload: "p"}, api.Message{Qos: 1}, api.Message{Retain: true},
		api.Message{Topic: "t", Payload: "\xff", Qos: 3}, api.Message{Topic: "#"}, api.Message{Topic: "t", Retain: true}}
}

// changed are packets with one field set to each of its values.
func changed(p api.Packet) []api.Packet {
	var l []api.Packet
	for i := range reflect.TypeOf(p).NumField() {
		for _, v := range values(reflect.TypeOf(p).Field(i).Type) {
			q := packet.Copy(p)
			reflect.ValueOf(&q).Elem().Field(i).Set(reflect.ValueOf(v))
			l = append(l, q)
		}
	}
	return l
}

func TestP4_1Examples(t *testing.T) {
	wantBytes(t, api.Packet{Type: api.Connect, Level: 4, Clean: true, Keep: 10, Client: "c"}, hex(t, "10 0d 00 04 4d 51 54 54 04 02 00 0a 00 01 63"))
	wantBytes(t, api.Packet{Type: api.Connack, Present: true}, hex(t, "20 02 01 00"))
	wantBytes(t, api.Packet{Type: api.Publish, Topic: "a/b", Qos: 1, Id: 7, Retain: true, Payload: "hi"}, hex(t, "33 09 00 03 61 2f 62 00 07 68 69"))
	wantBytes(t, api.Packet{Type: api.Subscribe, Id: 1, Subs: []api.Sub{{Filter: "a/+", Qos: 2}}}, hex(t, "82 08 00 01 00 03 61 2f 2b 02"))
	wantBytes(t, api.Packet{Type: api.Suback, Id: 1, Codes: "\x02"}, hex(t, "90 03 00 01 02"))
	wantBytes(t, api.Packet{Type: api.Pubrel, Id: 256}, hex(t, "62 02 01 00"))
	wantBytes(t, api.Packet{Type: api.Pingreq}, hex(t, "c0 00"))
}

// TestP4_1Full has the bytes of every type written out.
func TestP4_1Full(t *testing.T) {
	bytes := []string{
		"10 19 00 04 4d 51 54 54 04 f6 01 02 00 01 63 00 01 77 00 01 70 00 01 75 00 01 ff",
		"20 02 01 00",
		"20 02 00 05",
		"3b 08 00 03 61 2f 62 00 07 ff",
		"40 02 00 01", "50 02 00 02", "62 02 00 03", "70 02 00 04",
		"82 0c 00 05 00 03 61 2f 2b 02 00 01 23 02",
		"90 06 00 06 00 01 02 80",
		"a2 0a 00 07 00 03 61 2f 2b 00 01 23",
		"b0 02 ff ff",
		"c0 00", "d0 00", "e0 00",
	}
	for i, p := range full() {
		wantBytes(t, p, hex(t, bytes[i]))
	}
}

// TestP4_1EveryField sets every field of every type to values of all kinds, whether or not the type has the field.
func TestP4_1EveryField(t *testing.T) {
	for _, p := range full() {
		for _, q := range changed(p) {
			want(t, q)
		}
	}
	for kind := range 256 {
		for _, q := range changed(api.Packet{Type: byte(kind)}) {
			want(t, q)
		}
	}
}

func TestP4_1ConnectFlags(t *testing.T) {
	seen := 0
	for bits := range 128 {
		has := func(bit int) bool { return bits>>bit&1 == 1 }
		p := api.Packet{Type: api.Connect, Level: 4, Client: "c", Clean: has(0), HasWill: has(1), HasUser: has(2), HasPass: has(3)}
		p.Will.Retain, p.Will.Qos = has(4), byte(bits>>5)
		if p.HasWill {
			p.Will.Topic = "w"
		}
		want(t, p)
		seen += if1(packet.Right(p), 1)
	}
	// Clean or not; without a will, or with one of 3 QoS, retained or not; without a user, with one, with both.
	if seen != 2*(1+3*2)*3 {
		t.Errorf("%d valid ways", seen)
	}
	flags := func(p api.Packet, b byte) {
		t.Helper()
		p.Type, p.Level = api.Connect, 4
		if s, e := Encode(p); e != api.OK || s[9] != b {
			t.Errorf("%s, %d; want flags %d", cut(s), e, b)
		}
	}
	flags(api.Packet{}, 0)
	flags(api.Packet{Clean: true}, 2)
	flags(api.Packet{HasWill: true, Will: api.Message{Topic: "w"}}, 4)
	flags(api.Packet{HasWill: true, Will: api.Message{Topic: "w", Qos: 1}}, 4+8)
	flags(api.Packet{HasWill: true, Will: api.Message{Topic: "w", Qos: 2}}, 4+16)
	flags(api.Packet{HasWill: true, Will: api.Message{Topic: "w", Retain: true}}, 4+32)
	flags(api.Packet{HasUser: true}, 128)
	flags(api.Packet{HasUser: true, HasPass: true}, 128+64)
}

func TestP4_1PublishFlags(t *testing.T) {
	for bits := range 16 {
		p := api.Packet{Type: api.Publish, Topic: "t", Payload: "p", Retain: bits&1 == 1, Qos: byte(bits >> 1 & 3), Dup: bits&8 == 8}
		want(t, p)
		p.Id = 513
		want(t, p)
		if s, e := Encode(p); e == api.OK && s[0] != byte(0x30+bits) {
			t.Errorf("%s: the flags are not %d", cut(s), bits)
		}
	}
}

// TestP4_1Strings has bytes that no field may change, and the longest fields.
func TestP4_1Strings(t *testing.T) {
	long, data := strings.Repeat("\u20ac", 21845), strings.Repeat("\xff\x00", 32768)[:65535]
	for _, s := range []string{"", "\u00e9", "\ufeff", "\U0010ffff", "\x01", long} {
		want(t, api.Packet{Type: api.Connect, Level: 4, Client: s})
		want(t, api.Packet{Type: api.Connect, Level: 4, Client: "c", HasUser: true, User: s})
		want(t, api.Packet{Type: api.Connect, Level: 4, HasWill: true, Will: api.Message{Topic: s + "t", Payload: s}})
		want(t, api.Packet{Type: api.Publish, Topic: s})
		want(t, api.Packet{Type: api.Publish, Topic: s, Id: 1, Qos: 2, Payload: s})
		want(t, api.Packet{Type: api.Subscribe, Id: 1, Subs: []api.Sub{{Filter: s, Qos: 1}, {Filter: "a"}, {Filter: s}}})
		want(t, api.Packet{Type: api.Unsubscribe, Id: 1, Subs: []api.Sub{{Filter: s}, {Filter: "a"}, {Filter: s}}})
	}
	want(t, api.Packet{Type: api.Connect, Level: 4, Client: long, HasWill: true, Will: api.Message{Topic: long, Payload: data}, HasUser: true, User: long, HasPass: true, Pass: data})
	want(t, api.Packet{Type: api.Publish, Topic: long, Payload: data + data})
	over := strings.Repeat("x", 65536)
	want(t, api.Packet{Type: api.Connect, Level: 4, Client: over})
	want(t, api.Packet{Type: api.Connect, Level: 4, HasUser: true, HasPass: true, Pass: over})
	want(t, api.Packet{Type: api.Publish, Topic: over})
	want(t, api.Packet{Type: api.Subscribe, Id: 1, Subs: []api.Sub{{Filter: "a"}, {Filter: over}}})
}

// TestP4_1Lengths has packets on both sides of where the rest length takes one byte more.
func TestP4_1Lengths(t *testing.T) {
	for _, n := range []int{0, 1, 127, 128, 16383, 16384, 2097151, 2097152} {
		for rest := max(n-3, 3); rest <= n+3; rest++ {
			wantBytes(t, api.Packet{Type: api.Publish, Topic: "t", Payload: strings.Repeat("p", rest-3)},
				"\x30"+lengthOf(rest)+"\x00\x01t"+strings.Repeat("p", rest-3))
			wantBytes(t, api.Packet{Type: api.Suback, Id: 9, Codes: strings.Repeat("\x80", rest-2)},
				"\x90"+lengthOf(rest)+"\x00\x09"+strings.Repeat("\x80", rest-2))
		}
	}
	many := api.Packet{Type: api.Subscribe, Id: 1, Subs: make([]api.Sub, 7000)}
	for i := range many.Subs {
		many.Subs[i] = api.Sub{Filter: fmt.Sprint(i), Qos: byte(i % 3)}
	}
	want(t, many)
}

func TestP4_1Longest(t *testing.T) {
	p := api.Packet{Type: api.Publish, Topic: "t", Payload: strings.Repeat("p", api.MaxLen-2)}
	wantRefused(t, p)
	p.Payload = p.Payload[1:]
	if n := Size(p); n != 1+4+api.MaxLen {
		t.Errorf("Size = %d", n)
	}
	s, e := Encode(p)
	if e != api.OK || len(s) != 1+4+api.MaxLen || s[:8] != "\x30\xff\xff\xff\x7f\x00\x01t" || s[8:] != p.Payload {
		t.Errorf("Encode = %s, %d", cut(s), e)
	}
}

func TestP4_2Examples(t *testing.T) {
	s, e := All(api.Packet{Type: api.Pubrel, Id: 256}, api.Packet{Type: api.Pingreq})
	if s != hex(t, "62 02 01 00 c0 00") || e != api.OK {
		t.Errorf("%s, %d", cut(s), e)
	}
}

func TestP4_2None(t *testing.T) {
	for _, l := range [][]api.Packet{nil, {}} {
		if s, e := All(l...); s != "" || e != api.OK {
			t.Errorf("%s, %d; want nothing, 0", cut(s), e)
		}
	}
}

func TestP4_2Several(t *testing.T) {
	l := full()
	l = append(l, api.Packet{Type: api.Publish, Topic: "t", Payload: strings.Repeat("p", 70000)})
	l = append(l, full()...)
	for from := range l {
		for to := from; to <= len(l); to++ {
			want := ""
			for _, p := range l[from:to] {
				want += encodingOf(p)
			}
			if got, e := All(l[from:to]...); got != want || e != api.OK {
				t.Fatalf("packets %d to %d: %s, %d; want %s", from, to, cut(got), e, cut(want))
			}
		}
	}
}

func TestP4_2OneIsNotValid(t *testing.T) {
	for _, bad := range []api.Packet{{}, {Type: 15}, {Type: api.Puback}, {Type: api.Publish, Topic: "#"}, {Type: api.Pingreq, Keep: 1}} {
		for at := range full() {
			l := full()
			l[at] = bad
			wantAllRefused(t, l...)
			wantAllRefused(t, l[:at+1]...)
			wantAllRefused(t, l[at:]...)
		}
		wantAllRefused(t, bad, bad)
	}
}

// TestP4_3Apart holds the encodings of many packets, sorted, each against the next one: one that begins another stands right before such a one.
func TestP4_3Apart(t *testing.T) {
	type pair struct {
		bytes string
		p     api.Packet
	}
	var l []pair
	put := func(p api.Packet) {
		if s, e := Encode(p); e == api.OK {
			l = append(l, pair{s, p})
		}
	}
	for _, p := range full() {
		for _, q := range changed(p) {
			for _, r := range changed(q) {
				put(r)
			}
		}
	}
	for _, rest := range []int{120, 127, 128, 129, 255, 256, 16383, 16384, 16385} {
		put(api.Packet{Type: api.Publish, Topic: "t", Payload: strings.Repeat("\x00", rest)})
		put(api.Packet{Type: api.Publish, Topic: "t\x01", Payload: strings.Repeat("\x00", rest)})
		put(api.Packet{Type: api.Suback, Id: 1, Codes: strings.Repeat("\x00", rest)})
	}
	slices.SortFunc(l, func(a, b pair) int { return strings.Compare(a.bytes, b.bytes) })
	different := 0
	for i := range l[1:] {
		a, b := l[i], l[i+1]
		if packet.Same(a.p, b.p) {
			continue
		}
		different++
		if strings.HasPrefix(b.bytes, a.bytes) {
			t.Errorf("%s is %s; it begins that of %s", cut(a.bytes), short(a.p), short(b.p))
		}
	}
	if different < 100 {
		t.Errorf("only %d packets", different)
	}
}

// TestR4NothingIsChanged holds that the packets, what stands behind them in memory, and their Subs stay as they were.
func TestR4NothingIsChanged(t *testing.T) {
	l, was := full(), full()
	for i := range l {
		Encode(l[i])
		Size(l[i])
	}
	All(l[:len(l)-2]...)
	All(append(l[:3:3], api.Packet{})...)
	if !slices.EqualFunc(l, was, packet.Same) {
		t.Error("a packet has changed")
	}
	subs := append(make([]api.Sub, 0, 2), api.Sub{Filter: "a"}, api.Sub{Filter: "b"})
	Encode(api.Packet{Type: api.Subscribe, Id: 1, Subs: subs[:1]})
	if subs[1].Filter != "b" {
		t.Error("what stands behind the Subs has changed")
	}
}
