package read

import (
	"fmt"
	"reflect"
	"strings"
	"testing"
	"unsafe"

	"relayhouse/api"
	"relayhouse/packet"
	"relayhouse/write"
)

// firsts are the valid first bytes, written out.
const firsts = "\x10\x20\x30\x31\x32\x33\x34\x35\x38\x39\x3a\x3b\x3c\x3d\x40\x50\x62\x70\x82\x90\xa2\xb0\xc0\xd0\xe0"

// told keeps what a failing test tells of bytes readable.
func told(s string) string { return fmt.Sprintf("% x (%d bytes)", s[:min(len(s), 60)], len(s)) }

// toldPacket does the same for a packet.
func toldPacket(p api.Packet) string {
	for _, s := range stringsOf(&p) {
		*s = (*s)[:min(len(*s), 40)]
	}
	text := fmt.Sprintf("%#v", p)
	return text[:min(len(text), 500)]
}

// stringsOf are all strings of a packet but the filters.
func stringsOf(p *api.Packet) []*string {
	return []*string{&p.Topic, &p.Payload, &p.Client, &p.Will.Topic, &p.Will.Payload, &p.User, &p.Pass, &p.Codes}
}

// hex are the bytes that are written in the chapter's way.
func hex(t *testing.T, s string) string {
	t.Helper()
	var b []byte
	for _, word := range strings.Fields(s) {
		var c byte
		if _, err := fmt.Sscanf(word, "%02x", &c); err != nil {
			t.Fatal(err)
		}
		b = append(b, c)
	}
	return string(b)
}

func want(t *testing.T, s string, p api.Packet, used int, e api.Errno) {
	t.Helper()
	gotP, gotUsed, gotE := Decode(s)
	if !packet.Same(gotP, p) || gotUsed != used || gotE != e {
		t.Errorf("Decode(%s) = %s, %d, %d; want %s, %d, %d", told(s), toldPacket(gotP), gotUsed, gotE, toldPacket(p), used, e)
	}
}

// wantPacket asks for a packet that all the bytes are of.
func wantPacket(t *testing.T, s string, p api.Packet) {
	t.Helper()
	want(t, s, p, len(s), api.OK)
}

func wantError(t *testing.T, s string, e api.Errno) {
	t.Helper()
	want(t, s, api.Packet{}, 0, e)
}

// wantByWords asks for what the chapter's words say.
func wantByWords(t *testing.T, s string) {
	t.Helper()
	p, used, e := byWords(s)
	want(t, s, p, used, e)
}

// lengthOf is the encoding of a length with so many bytes at least.
func lengthOf(n, bytes int) string {
	if n < 128 && bytes <= 1 {
		return string([]byte{byte(n)})
	}
	return string([]byte{byte(n%128 + 128)}) + lengthOf(n/128, bytes-1)
}

// of is a packet's bytes, whether or not they are right.
func of(first byte, rest string) string {
	return string([]byte{first}) + lengthOf(len(rest), 1) + rest
}

func fieldOf(s string) string { return string([]byte{byte(len(s) / 256), byte(len(s))}) + s }

// byWords is what Decode answers, said in another way: a packet is guessed from the bytes without asking whether they are right, and it is the one if its encoding is these bytes.
func byWords(s string) (api.Packet, int, api.Errno) {
	if s == "" {
		return api.Packet{}, 0, api.ErrShort
	}
	if !strings.Contains(firsts, s[:1]) {
		return api.Packet{}, 0, api.ErrForm
	}
	end := 1
	for end < len(s) && s[end] >= 128 {
		end++
	}
	if end > 4 {
		return api.Packet{}, 0, api.ErrForm
	}
	n := 0
	for i := min(end, len(s)-1); i > 0; i-- {
		n = n*128 + int(s[i]&127)
	}
	if end >= len(s) || len(s)-end-1 < n {
		return api.Packet{}, 0, api.ErrShort
	}
	rest, used := s[end+1:end+1+n], end+1+n
	if s[0] == 0x10 && len(rest) >= 7 && rest[:6] == "\x00\x04MQTT" && rest[6] != 4 {
		return api.Packet{Type: api.Connect, Level: rest[6]}, used, api.OK
	}
	p := guess(s[0], rest)
	if code, e := write.Encode(p); e != api.OK || code != of(s[0], rest) {
		return api.Packet{}, 0, api.ErrForm
	}
	return p, used, api.OK
}

// guess is the packet that the bytes would be; it may be any packet if they are none.
func guess(first byte, rest string) (p api.Packet) {
	defer func() { recover() }()
	take := func(n int) string {
		s := rest[:n]
		rest = rest[n:]
		return s
	}
	number := func() byte { return take(1)[0] }
	word := func() int { return int(number())*256 + int(number()) }
	field := func() string { return take(word()) }
	p.Type = first >> 4
	switch p.Type {
	case api.Connect:
		take(6)
		p.Level = number()
		flags := number()
		has := func(flag byte) bool { return flags&flag > 0 }
		p.HasUser, p.HasPass, p.HasWill, p.Clean = has(128), has(64), has(4), has(2)
		p.Will.Retain, p.Will.Qos = has(32), flags>>3&3
		p.Keep, p.Client = uint16(word()), field()
		if p.HasWill {
			p.Will.Topic, p.Will.Payload = field(), field()
		}
		if p.HasUser {
			p.User = field()
		}
		if p.HasPass {
			p.Pass = field()
		}
	case api.Connack:
		p.Present, p.Code = number() == 1, number()
	case api.Publish:
		p.Dup, p.Qos, p.Retain, p.Topic = first&8 > 0, first>>1&3, first&1 > 0, field()
		if p.Qos > 0 {
			p.Id = uint16(word())
		}
		p.Payload = rest
	case api.Pingreq, api.Pingresp, api.Disconnect:
	default:
		p.Id = uint16(word())
		if p.Type == api.Suback {
			p.Codes = rest
			return
		}
		for rest != "" {
			p.Subs = append(p.Subs, api.Sub{Filter: field()})
			if p.Type == api.Subscribe {
				p.Subs[len(p.Subs)-1].Qos = number()
			}
		}
	}
	return
}

// full are valid packets in which every field that the type has is other than zero, as far as it can be.
func full() []api.Packet {
	subs := func(q byte) []api.Sub { return []api.Sub{{Filter: "a/+", Qos: q}, {Filter: "#", Qos: q}} }
	return []api.Packet{
		{Type: api.Connect, Level: 4, Clean: true, Keep: 258, Client: "c", HasWill: true,
			Will:    api.Message{Topic: "w", Payload: "p", Qos: 2, Retain: true},
			HasUser: true, User: "u", HasPass: true, Pass: "\xff"},
		{Type: api.Connack, Present: true},
		{Type: api.Connack, Code: 5},
		{Type: api.Publish, Topic: "a/b", Payload: "\xff", Qos: 1, Retain: true, Dup: true, Id: 7},
		{Type: api.Puback, Id: 1}, {Type: api.Pubrec, Id: 2}, {Type: api.Pubrel, Id: 3}, {Type: api.Pubcomp, Id: 4},
		{Type: api.Subscribe, Id: 5, Subs: subs(2)},
		{Type: api.Suback, Id: 6, Codes: "\x00\x01\x02\x80"},
		{Type: api.Unsubscribe, Id: 7, Subs: subs(0)},
		{Type: api.Unsuback, Id: 0xffff},
		{Type: api.Pingreq}, {Type: api.Pingresp}, {Type: api.Disconnect},
	}
}

// fullBytes are the encodings of full, written out.
func fullBytes(t *testing.T) []string {
	l := []string{
		"10 19 00 04 4d 51 54 54 04 f6 01 02 00 01 63 00 01 77 00 01 70 00 01 75 00 01 ff",
		"20 02 01 00",
		"20 02 00 05",
		"3b 08 00 03 61 2f 62 00 07 ff",
		"40 02 00 01", "50 02 00 02", "62 02 00 03", "70 02 00 04",
		"82 0c 00 05 00 03 61 2f 2b 02 00 01 23 02",
		"90 06 00 06 00 01 02 80",
		"a2 0a 00 07 00 03 61 2f 2b 00 01 23",
		"b0 02 ff ff",
		"c0 00", "d0 00", "e0 00",
	}
	for i := range l {
		l[i] = hex(t, l[i])
	}
	return l
}

// empty are valid packets in which every field is zero that may be.
func empty() []api.Packet {
	return []api.Packet{
		{Type: api.Connect, Level: 4},
		{Type: api.Connect, Level: 4, HasWill: true, Will: api.Message{Topic: "w"}},
		{Type: api.Connect, Level: 4, HasUser: true},
		{Type: api.Connect, Level: 4, HasUser: true, HasPass: true},
		{Type: api.Connack},
		{Type: api.Publish, Topic: "a"},
		{Type: api.Publish, Topic: "a", Qos: 1, Id: 1},
		{Type: api.Publish, Topic: "a", Qos: 2, Id: 1},
		{Type: api.Subscribe, Id: 1, Subs: []api.Sub{{Filter: "a"}}},
		{Type: api.Suback, Id: 1, Codes: "\x00"},
		{Type: api.Unsubscribe, Id: 1, Subs: []api.Sub{{Filter: "a"}}},
	}
}

// values are what a field of that type is set to in turn.
func values(kind reflect.Type) []any {
	switch kind.Kind() {
	case reflect.Bool:
		return []any{false, true}
	case reflect.Uint8:
		return []any{byte(0), byte(1), byte(2), byte(3), byte(5)}
	case reflect.Uint16:
		return []any{uint16(0), uint16(1), uint16(255), uint16(256), uint16(65535)}
	case reflect.String:
		return []any{"", "a", "a/b", "\x00\x01", "\xff", "\u20ac", strings.Repeat("x", 130), strings.Repeat("y", 65535)}
	case reflect.Slice:
		return []any{[]api.Sub{{Filter: "/"}}, []api.Sub{{Filter: "x", Qos: 1}, {Filter: "+/#"}, {Filter: "x", Qos: 2}}}
	}
	return []any{api.Message{}, api.Message{Topic: "t"}, api.Message{Topic: "t", Payload: "\xff", Qos: 1}, api.Message{Topic: "t", Retain: true}}
}

// many are packets of all types with all kinds of fields, all of them valid.
func many() []api.Packet {
	var l []api.Packet
	for _, p := range append(full(), empty()...) {
		l = append(l, p)
		for i := range reflect.TypeOf(p).NumField() {
			for _, v := range values(reflect.TypeOf(p).Field(i).Type) {
				q := packet.Copy(p)
				reflect.ValueOf(&q).Elem().Field(i).Set(reflect.ValueOf(v))
				if packet.Right(q) {
					l = append(l, q)
				}
			}
		}
	}
	for flags := range 16 {
		p := api.Packet{Type: api.Publish, Topic: "t", Payload: "p", Retain: flags&1 > 0, Qos: byte(flags >> 1 & 3), Dup: flags&8 > 0, Id: 258}
		if packet.Right(p) {
			l = append(l, p)
		}
	}
	for _, n := range []int{127, 128, 16383, 16384, 2097151, 2097152} {
		for size := n - 3; size <= n+3; size++ {
			l = append(l, api.Packet{Type: api.Publish, Topic: "t", Payload: strings.Repeat("\xfe", size-3)})
			l = append(l, api.Packet{Type: api.Suback, Id: 9, Codes: strings.Repeat("\x80", size-2)})
		}
	}
	return l
}

func encodingOf(t *testing.T, p api.Packet) string {
	t.Helper()
	s, e := write.Encode(p)
	if e != api.OK {
		t.Fatalf("Encode(%s): %d", toldPacket(p), e)
	}
	return s
}

// longer are a packet's bytes with its length in more bytes than it needs, in all ways.
func longer(s string) []string {
	end := 1
	for s[end] >= 128 {
		end++
	}
	rest := s[end+1:]
	var l []string
	for bytes := end + 1; bytes <= 4; bytes++ {
		l = append(l, s[:1]+lengthOf(len(rest), bytes)+rest)
	}
	return l
}

func TestP5_1First(t *testing.T) {
	for c := range 256 {
		want := strings.IndexByte(firsts, byte(c)) >= 0
		if got := First(byte(c)); got != want {
			t.Errorf("First(%02x) = %t; want %t", c, got, want)
		}
	}
}

func TestP5_1FirstBytesOfPackets(t *testing.T) {
	for _, p := range many() {
		if s := encodingOf(t, p); !First(s[0]) {
			t.Errorf("First(%02x) = false; %s begins with it", s[0], toldPacket(p))
		}
	}
}

func TestP5_2Examples(t *testing.T) {
	want(t, hex(t, "33 09 00 03 61 2f 62 00 07 68 69 ff"), api.Packet{Type: api.Publish, Topic: "a/b", Qos: 1, Id: 7, Retain: true, Payload: "hi"}, 11, api.OK)
	want(t, hex(t, "c0 00"), api.Packet{Type: api.Pingreq}, 2, api.OK)
	want(t, hex(t, "c0 80 00"), api.Packet{Type: api.Pingreq}, 3, api.OK)
	wantError(t, hex(t, "c0 01 00"), api.ErrForm)
	wantError(t, hex(t, "c1 00"), api.ErrForm)
	for _, s := range []string{"", "30", "30 05 00"} {
		wantError(t, hex(t, s), api.ErrShort)
	}
	for _, s := range []string{"36", "00", "f0"} {
		wantError(t, hex(t, s), api.ErrForm)
	}
	want(t, hex(t, "10 07 00 04 4d 51 54 54 03"), api.Packet{Type: api.Connect, Level: 3}, 9, api.OK)
	wantError(t, hex(t, "10 07 00 05 4d 51 54 54 03"), api.ErrForm)
	for _, s := range []string{"82 02 00 01", "82 06 00 00 00 01 61 00", "30 03 00 01 2b"} {
		wantError(t, hex(t, s), api.ErrForm)
	}
}

// TestP5_2WrongFirst holds that such a byte is refused before anything behind it is looked at.
func TestP5_2WrongFirst(t *testing.T) {
	tails := []string{"", "\x00", "\x80", "\x80\x80\x80\x80", "\x05", "\x02\x00\x01", "\x07\x00\x04MQTT\x03", "\x04\x00\x01aa"}
	for c := range 256 {
		for _, tail := range tails {
			s := string([]byte{byte(c)}) + tail
			if strings.IndexByte(firsts, byte(c)) < 0 {
				wantError(t, s, api.ErrForm)
			}
			wantByWords(t, s)
		}
	}
}

// TestP5_2Lengths holds that the length's fault, or that bytes are missing, is told before what is wrong in the rest.
func TestP5_2Lengths(t *testing.T) {
	for i := range len(firsts) {
		first := firsts[i : i+1]
		for _, tail := range []string{"", "\x80", "\xff\xff", "\x80\x80\x80", "\x01", "\xff\xff\xff\x7f", "\x81\x80\x80\x00", "\x06\x00\x04MQT", "\x08\x00\x04MQTT\x03", "\x05\x00\x00\x00\x00"} {
			wantError(t, first+tail, api.ErrShort)
		}
		for _, tail := range []string{"\x80\x80\x80\x80", "\x80\x80\x80\x80\x00", "\xff\xff\xff\xff\x7f", "\x82\x80\x80\x80\x00\x00\x01"} {
			wantError(t, first+tail, api.ErrForm)
		}
	}
	wantError(t, "\x30\xff\xff\xff\x7f\x00\x01+"+strings.Repeat("p", 1<<20), api.ErrShort)
}

func TestP5_2OtherLevels(t *testing.T) {
	const name = "\x00\x04MQTT"
	for level := range 256 {
		for _, tail := range []string{"", "\x00", "\xff\xff", "\x01\x00\x00\x00\x00", "\x02\x00\x0a\x00\x01c", "\x02\x00\x0a\x00\x01cc", strings.Repeat("\xff", 200)} {
			s := of(0x10, name+string([]byte{byte(level)})+tail)
			wantByWords(t, s)
			if level == 4 {
				continue
			}
			p := api.Packet{Type: api.Connect, Level: byte(level)}
			wantPacket(t, s, p)
			want(t, s+"\x04\x00", p, len(s), api.OK)
			for _, s := range longer(s) {
				wantPacket(t, s, p)
			}
		}
	}
}

// TestP5_2NoLevel has connects that have no other level, since they have no level, or aren't of this protocol.
func TestP5_2NoLevel(t *testing.T) {
	for _, rest := range []string{"", "\x00", "\x00\x04", "\x00\x04MQT", "\x00\x04MQTT", "\x00\x03MQTT\x03", "\x00\x05MQTT\x03", "\x00\x05MQTT\x03\x03", "\x00\x04MQTt\x03", "\x00\x04mqtt\x03", "\x00\x06MQIsdp\x03", "\x01\x04MQTT\x03", "\x00\x00\x03", "\x00\x04MQTT\x04", "\x00\x04MQT\xff\x03"} {
		wantError(t, of(0x10, rest), api.ErrForm)
		wantError(t, of(0x10, rest)+"\x03\x03\x03", api.ErrForm)
	}
	const rest = "\x00\x04MQTT\x03"
	wantPacket(t, of(0x30, rest), api.Packet{Type: api.Publish, Topic: "MQTT", Payload: "\x03"})
	for _, first := range []byte{0x20, 0x40, 0x50, 0x62, 0x70, 0x82, 0x90, 0xa2, 0xb0, 0xc0, 0xd0, 0xe0} {
		wantError(t, of(first, rest), api.ErrForm)
	}
}

func TestP5_2Full(t *testing.T) {
	bytes := fullBytes(t)
	for i, p := range full() {
		wantPacket(t, bytes[i], p)
	}
}

// TestP5_2ConnectFlags has all flags with as many fields behind them as there may be, and with fewer.
func TestP5_2ConnectFlags(t *testing.T) {
	found := 0
	for flags := range 256 {
		for fields := range 6 {
			s := of(0x10, "\x00\x04MQTT\x04"+string([]byte{byte(flags)})+"\x01\x02"+strings.Repeat("\x00\x01x", fields))
			wantByWords(t, s)
			if _, _, e := Decode(s); e == api.OK {
				found++
			}
		}
	}
	// Clean or not; without a will, or with one of 3 QoS, retained or not; without a user, with one, with both.
	if found != 2*(1+3*2)*3 {
		t.Errorf("%d valid ways", found)
	}
}

// TestP5_2Strings puts what is no text, and what is none of the kind that is asked for, into every field.
func TestP5_2Strings(t *testing.T) {
	accepted := 0
	for _, s := range []string{"", "a", "/", "+", "#", "a/+", "a/#", "a+", "#/a", "\x00", "a\x00", "\xff", "\xc3", "\xc3\xa9", "\xc0\x80", "\xed\xa0\x80", "\ufeff", "\U0010ffff", "\xf4\x90\x80\x80", strings.Repeat("x", 65535)} {
		f := fieldOf(s)
		for _, bytes := range []string{
			of(0x10, "\x00\x04MQTT\x04\x00\x00\x00"+f),
			of(0x10, "\x00\x04MQTT\x04\x04\x00\x00\x00\x01c"+f+"\x00\x01p"),
			of(0x10, "\x00\x04MQTT\x04\x04\x00\x00\x00\x01c\x00\x01w"+f),
			of(0x10, "\x00\x04MQTT\x04\xc0\x00\x00\x00\x01c"+f+"\x00\x01p"),
			of(0x10, "\x00\x04MQTT\x04\xc0\x00\x00\x00\x01c\x00\x01u"+f),
			of(0x10, f+"\x04\x00\x00\x00\x00\x01c"),
			of(0x30, f), of(0x30, f+s), of(0x32, f+"\x00\x01"), of(0x3d, f+"\x00\x01"+s), of(0x30, "\x00\x01t"+s),
			of(0x82, "\x00\x01"+f+"\x01"), of(0x82, "\x00\x01\x00\x01a\x00"+f+"\x02"), of(0x82, "\x00\x01"+f+"\x02\x00\x01a\x00"),
			of(0xa2, "\x00\x01"+f), of(0xa2, "\x00\x01\x00\x01a"+f), of(0xa2, "\x00\x01"+f+"\x00\x01a"),
			of(0x90, "\x00\x01"+s), of(0x90, "\x00\x01\x00"+s),
		} {
			wantByWords(t, bytes)
			if _, _, e := Decode(bytes); e == api.OK {
				accepted++
			}
		}
	}
	if accepted < 100 {
		t.Errorf("only %d were packets", accepted)
	}
}

// TestP5_2WrongRests has rests that are no packet's, each for a reason of its own.
func TestP5_2WrongRests(t *testing.T) {
	for _, s := range []string{
		"20 00", "20 01 00", "20 03 00 00 00", "20 02 02 00", "20 02 ff 00", "20 02 01 01", "20 02 00 06", "20 02 80 00",
		"30 00", "30 01 00", "30 02 00 00", "30 02 00 01", "30 03 00 02 61", "32 03 00 01 61", "32 04 00 01 61 00", "32 05 00 01 61 00 00",
		"38 03 00 01 61", "39 03 00 01 61", "34 05 00 01 61 00 00",
		"40 00", "40 01 01", "40 02 00 00", "40 03 00 01 00", "50 02 00 00", "62 02 00 00", "62 03 00 01 00", "70 02 00 00", "b0 02 00 00", "b0 01 01",
		"82 00", "82 01 00", "82 05 00 01 00 01 61", "82 06 00 01 00 01 61 03", "82 06 00 01 00 01 61 80", "82 07 00 01 00 01 61 00 00", "82 05 00 01 00 00 00",
		"82 06 00 01 00 02 61 00", "82 06 00 00 00 01 61 00",
		"90 00", "90 02 00 01", "90 03 00 00 00", "90 03 00 01 03", "90 03 00 01 81", "90 04 00 01 00 7f",
		"a2 00", "a2 02 00 01", "a2 05 00 00 00 01 61", "a2 06 00 01 00 01 61 00", "a2 04 00 01 00 00", "a2 05 00 01 00 02 61",
		"c0 01 00", "d0 01 00", "e0 02 00 01",
		"10 00", "10 0c 00 04 4d 51 54 54 04 01 00 00 00 00", "10 0b 00 04 4d 51 54 54 04 00 00 00 00", "10 0d 00 04 4d 51 54 54 04 00 00 00 00 00 00",
		"10 0c 00 04 4d 51 54 54 04 08 00 00 00 00", "10 0c 00 04 4d 51 54 54 04 20 00 00 00 00", "10 10 00 04 4d 51 54 54 04 40 00 00 00 00 00 02 61 61",
		"10 11 00 04 4d 51 54 54 04 1c 00 00 00 00 00 01 77 00 00", "10 0d 00 04 4d 51 54 54 04 00 00 00 00 01 00",
	} {
		wantError(t, hex(t, s), api.ErrForm)
		wantError(t, hex(t, s)+"\x00\x00\x00\x00", api.ErrForm)
		wantByWords(t, hex(t, s))
	}
}

// TestP5_2ChangedBytes has encodings of all types with one byte changed to every other one, put in, or taken out, and with two changed.
func TestP5_2ChangedBytes(t *testing.T) {
	var l []string
	for _, p := range append(full(), empty()...) {
		l = append(l, encodingOf(t, p))
	}
	ends := "\x00\x01\x02\x03\x04\x05\x10\x7f\x80\xc0\xff+#/a"
	for _, s := range l {
		for i := range len(s) {
			wantByWords(t, s[:i]+s[i+1:])
			for c := range 256 {
				wantByWords(t, s[:i]+string([]byte{byte(c)})+s[i+1:])
			}
			for k := range len(ends) {
				wantByWords(t, s[:i]+ends[k:k+1]+s[i:])
				wantByWords(t, s+ends[k:k+1])
				for j := i + 1; j < len(s); j++ {
					for m := range len(ends) {
						wantByWords(t, s[:i]+ends[k:k+1]+s[i+1:j]+ends[m:m+1]+s[j+1:])
					}
				}
			}
		}
	}
}

// TestP5_2AllShortRests has every short rest of bytes at which something changes, behind every valid first byte.
func TestP5_2AllShortRests(t *testing.T) {
	digits := "\x00\x01\x02\x03\x05\x06+#/a\x80"
	rests := []string{""}
	for i := 0; len(rests[i]) < 4; i++ {
		for k := range len(digits) {
			rests = append(rests, rests[i]+digits[k:k+1])
		}
	}
	for i := range len(firsts) {
		for _, rest := range rests {
			wantByWords(t, of(firsts[i], rest))
		}
	}
}

func TestP5_2Longest(t *testing.T) {
	s := "\x30\xff\xff\xff\x7f\x00\x01t" + strings.Repeat("p", api.MaxLen-3)
	wantError(t, s[:len(s)-1], api.ErrShort)
	want(t, s+"\x00", api.Packet{Type: api.Publish, Topic: "t", Payload: s[8:]}, 5+api.MaxLen, api.OK)
}

// TestP5_2LongestWrong is wrong at its very end, behind many filters.
func TestP5_2LongestWrong(t *testing.T) {
	filter := fieldOf(strings.Repeat("f", 254)) + "\x01"
	rest := "\x00\x01" + strings.Repeat(filter, (api.MaxLen-2)/len(filter))
	rest += strings.Repeat("\x00", api.MaxLen-len(rest))
	wantError(t, of(0x82, rest), api.ErrForm)
}

func TestP5_3WhatWasEncoded(t *testing.T) {
	for _, p := range many() {
		s := encodingOf(t, p)
		for _, behind := range []string{"", "\x00", "\xff\xff", "\xc0\x00", s[:min(len(s), 3)]} {
			want(t, s+behind, p, len(s), api.OK)
		}
		for _, s := range longer(s) {
			wantPacket(t, s, p)
			want(t, s+"\x80", p, len(s), api.OK)
		}
	}
}

// TestP5_3WhatWasDecoded encodes what is decoded from bytes that weren't made by encoding.
func TestP5_3WhatWasDecoded(t *testing.T) {
	decoded := 0
	for i := range len(firsts) {
		for _, rest := range []string{"", "\x00\x01", "\x01\x00", "\x00\x00", "\x00\x05", "\x00\x01a", "\x00\x01a\x00\x01", "\x00\x01a\x01\x00\x00", "\x00\x01\x00", "\x00\x01\x00\x01/", "\x00\x01\x00\x01/\x02", "\x00\x01\x80\x02", "\x00\x04MQTT\x04\x02\x00\x00\x00\x00", "\x00\x04MQTT\x04\x80\x00\x00\x00\x00\x00\x00"} {
			s := of(firsts[i], rest)
			for _, bytes := range append(longer(s), s) {
				p, used, e := Decode(bytes)
				if e != api.OK {
					continue
				}
				decoded++
				if got, e := write.Encode(p); got != s || e != api.OK || used != len(bytes) {
					t.Errorf("%s is %s, %d; encoded it is %s, %d", told(bytes), toldPacket(p), used, told(got), e)
				}
			}
		}
	}
	if decoded < 100 {
		t.Errorf("only %d were packets", decoded)
	}
}

func TestP5_3Prefixes(t *testing.T) {
	for _, p := range many() {
		s := encodingOf(t, p)
		for _, s := range append(longer(s), s) {
			for i := 0; i < len(s); i += 1 + i/100 {
				wantError(t, s[:i], api.ErrShort)
			}
			wantError(t, s[:len(s)-1], api.ErrShort)
		}
	}
}

// TestR4NothingIsShared holds that what is answered is memory of its own.
func TestR4NothingIsShared(t *testing.T) {
	for _, p := range full() {
		s := strings.Clone(encodingOf(t, p))
		from := uintptr(unsafe.Pointer(unsafe.StringData(s)))
		p, _, _ := Decode(s)
		l := stringsOf(&p)
		for i := range p.Subs {
			l = append(l, &p.Subs[i].Filter)
		}
		for _, x := range l {
			if at := uintptr(unsafe.Pointer(unsafe.StringData(*x))); *x != "" && at >= from && at < from+uintptr(len(s)) {
				t.Errorf("%q of %s lies in the bytes that were decoded", *x, toldPacket(p))
			}
		}
	}
	s := "\x82\x0c\x00\x05\x00\x03a/+\x02\x00\x01#\x02"
	p, _, _ := Decode(s)
	p.Subs[0].Filter, p.Subs[1].Qos = "x", 0
	wantByWords(t, s)
}
