package frame

import (
	"fmt"
	"math"
	"math/rand"
	"strings"
	"sync"
	"testing"

	"relayhouse/api"
	"relayhouse/packet"
	"relayhouse/write"
)

// firsts are the valid first bytes, written out.
const firsts = "\x10\x20\x30\x31\x32\x33\x34\x35\x38\x39\x3a\x3b\x3c\x3d\x40\x50\x62\x70\x82\x90\xa2\xb0\xc0\xd0\xe0"

func told(s string) string { return fmt.Sprintf("% x (%d bytes)", s[:min(len(s), 40)], len(s)) }

func toldPacket(p api.Packet) string {
	text := fmt.Sprintf("%#v", p)
	return text[:min(len(text), 500)]
}

func made(t *testing.T, most int) *Framer {
	t.Helper()
	f := New(most)
	if f == nil {
		t.Fatalf("New(%d) = nil", most)
	}
	return f
}

func wantNext(t *testing.T, f *Framer, p api.Packet, ok bool, e api.Errno) {
	t.Helper()
	gotP, gotOk, gotE := f.Next()
	if !packet.Same(gotP, p) || gotOk != ok || gotE != e {
		t.Errorf("Next() = %s, %t, %d; want %s, %t, %d", toldPacket(gotP), gotOk, gotE, toldPacket(p), ok, e)
	}
}

func wantPacket(t *testing.T, f *Framer, p api.Packet) {
	t.Helper()
	wantNext(t, f, p, true, api.OK)
}

func wantNone(t *testing.T, f *Framer) {
	t.Helper()
	wantNext(t, f, api.Packet{}, false, api.OK)
}

func wantError(t *testing.T, f *Framer, e api.Errno) {
	t.Helper()
	wantNext(t, f, api.Packet{}, false, e)
}

func wantLeft(t *testing.T, f *Framer, n int) {
	t.Helper()
	if got := f.Left(); got != n {
		t.Errorf("Left() = %d; want %d", got, n)
	}
}

// wantFault asks for an error that stays, whatever comes behind it.
func wantFault(t *testing.T, f *Framer, e api.Errno) {
	t.Helper()
	wantError(t, f, e)
	wantLeft(t, f, 0)
	for _, s := range []string{"", "\xc0\x00", "\x00", "\x30\xff\xff\xff\x7f"} {
		f.Push(s)
		wantLeft(t, f, 0)
		wantError(t, f, e)
		wantLeft(t, f, 0)
	}
}

// publishOf is a publish that has so many bytes in total, 5 or more, and its length in so many bytes at least.
func publishOf(size, lengthBytes int) (string, api.Packet) {
	for {
		rest := size - 1 - lengthBytes
		if length := lengthOf(rest, lengthBytes); len(length) == lengthBytes {
			p := api.Packet{Type: api.Publish, Topic: "t", Payload: strings.Repeat("p", rest-3)}
			return "\x30" + length + "\x00\x01t" + p.Payload, p
		}
		lengthBytes++
	}
}

// lengthOf is the encoding of a length with so many bytes at least.
func lengthOf(n, bytes int) string {
	if n < 128 && bytes <= 1 {
		return string([]byte{byte(n)})
	}
	return string([]byte{byte(n%128 + 128)}) + lengthOf(n/128, bytes-1)
}

// packets are some of every type.
func packets() []api.Packet {
	return []api.Packet{
		{Type: api.Connect, Level: 4, Client: "c", Keep: 258, Clean: true, HasUser: true, User: "u", HasPass: true, Pass: "\xff"},
		{Type: api.Connack, Code: 5},
		{Type: api.Publish, Topic: "a/b", Payload: "\xc0\x00", Qos: 1, Id: 7, Dup: true},
		{Type: api.Publish, Topic: "a", Payload: strings.Repeat("x", 200)},
		{Type: api.Puback, Id: 1}, {Type: api.Pubrec, Id: 2}, {Type: api.Pubrel, Id: 3}, {Type: api.Pubcomp, Id: 65535},
		{Type: api.Subscribe, Id: 5, Subs: []api.Sub{{Filter: "a/+", Qos: 1}, {Filter: "#", Qos: 2}}},
		{Type: api.Suback, Id: 6, Codes: "\x00\x01\x02\x80"},
		{Type: api.Unsubscribe, Id: 7, Subs: []api.Sub{{Filter: "a/+"}}},
		{Type: api.Unsuback, Id: 8},
		{Type: api.Pingreq}, {Type: api.Pingresp}, {Type: api.Disconnect},
	}
}

func encodingOf(t *testing.T, l ...api.Packet) string {
	t.Helper()
	s, e := write.All(l...)
	if e != api.OK {
		t.Fatalf("All(%d packets): %d", len(l), e)
	}
	return s
}

func TestP6_1Limits(t *testing.T) {
	for _, most := range []int{15, 14, 1, 0, -1, -16, 65537, 65538, 131072, math.MaxInt32, math.MinInt32, math.MaxInt, math.MinInt} {
		if New(most) != nil {
			t.Errorf("New(%d) is a framer", most)
		}
	}
	for most := 16; most <= 65536; most++ {
		f := made(t, most)
		wantLeft(t, f, 0)
		wantNone(t, f)
	}
}

// TestP6_1Limit holds that a framer has the limit that it was given.
func TestP6_1Limit(t *testing.T) {
	for _, most := range []int{16, 17, 127, 128, 129, 130, 131, 132, 1000, 16384, 16387, 16388, 65535, 65536} {
		for lengthBytes := 1; lengthBytes <= 4; lengthBytes++ {
			s, p := publishOf(most, lengthBytes)
			f := made(t, most)
			f.Push(s + s)
			wantPacket(t, f, p)
			wantPacket(t, f, p)
			wantNone(t, f)
			s, _ = publishOf(most+1, lengthBytes)
			f.Push(s)
			wantFault(t, f, api.ErrLong)
		}
	}
}

func TestP6_2Push(t *testing.T) {
	f := made(t, 100)
	f.Push("")
	wantLeft(t, f, 0)
	f.Push("\x30\x05\x00")
	wantLeft(t, f, 3)
	f.Push("")
	f.Push("\x01t")
	wantLeft(t, f, 5)
	wantNone(t, f)
	f.Push("12\xd0\x00\xe0")
	wantLeft(t, f, 10)
	wantPacket(t, f, api.Packet{Type: api.Publish, Topic: "t", Payload: "12"})
	wantPacket(t, f, api.Packet{Type: api.Pingresp})
	f.Push("\x00")
	wantPacket(t, f, api.Packet{Type: api.Disconnect})
	wantLeft(t, f, 0)
}

// TestP6_2AnyBytes holds that Push takes what it is given as it is, and asks nothing of it.
func TestP6_2AnyBytes(t *testing.T) {
	for c := range 256 {
		f := made(t, 16)
		f.Push(string([]byte{byte(c)}))
		f.Push("\xff\xff\xff\xff\x00")
		wantLeft(t, f, 6)
	}
	f := made(t, 16)
	f.Push(strings.Repeat("\xff", 1<<20))
	wantLeft(t, f, 1<<20)
}

// TestP6_2NoFramer holds what framers answer that New did not create.
func TestP6_2NoFramer(t *testing.T) {
	for _, f := range []*Framer{nil, {}} {
		for _, s := range []string{"", "\xc0\x00", "\x00"} {
			f.Push(s)
			wantError(t, f, api.ErrNone)
			wantLeft(t, f, 0)
			if f != nil && f.bytes != nil {
				t.Errorf("% x is kept", f.bytes)
			}
		}
	}
}

func TestP6_3Examples(t *testing.T) {
	f := made(t, 16)
	f.Push("\xc0")
	wantNone(t, f)
	f.Push("\x00\xe0")
	wantPacket(t, f, api.Packet{Type: api.Pingreq})
	wantNone(t, f)
	wantLeft(t, f, 1)
	f.Push("\x00")
	wantPacket(t, f, api.Packet{Type: api.Disconnect})
	wantNone(t, f)
	wantLeft(t, f, 0)
	f.Push("\x30\x0f")
	wantError(t, f, api.ErrLong)
	f.Push("\xc0\x00")
	wantError(t, f, api.ErrLong)
	wantLeft(t, f, 0)
	f = made(t, 16)
	f.Push("\x30\x0e\x00")
	wantNone(t, f)
	f.Push("\xff")
	wantLeft(t, f, 4)
}

// TestP6_3None asks again and again while nothing comes: nothing is lost by it.
func TestP6_3None(t *testing.T) {
	f := made(t, 100)
	s := "\x32\x07\x00\x01t\x01\x02xy"
	for i := range len(s) {
		for range 3 {
			wantNone(t, f)
			wantLeft(t, f, i)
		}
		f.Push(s[i : i+1])
	}
	wantPacket(t, f, api.Packet{Type: api.Publish, Topic: "t", Qos: 1, Id: 258, Payload: "xy"})
	wantNone(t, f)
	wantLeft(t, f, 0)
}

func TestP6_3EveryType(t *testing.T) {
	f := made(t, 1000)
	s := encodingOf(t, packets()...)
	f.Push(s)
	left := len(s)
	for _, p := range packets() {
		wantPacket(t, f, p)
		left -= write.Size(p)
		wantLeft(t, f, left)
	}
	wantNone(t, f)
}

// TestP6_3FirstByte holds that a wrong one is refused as soon as it is there, and before what stands behind it.
func TestP6_3FirstByte(t *testing.T) {
	for c := range 256 {
		first := string([]byte{byte(c)})
		for _, tail := range []string{"", "\x00", "\x80", "\x7f", "\xff\xff\xff\x7f", "\x02\x00\x01"} {
			f := made(t, 64)
			f.Push("\xc0\x00" + first + tail)
			wantPacket(t, f, api.Packet{Type: api.Pingreq})
			if strings.IndexByte(firsts, byte(c)) < 0 {
				wantFault(t, f, api.ErrForm)
			} else if tail == "" || tail == "\x80" {
				wantNone(t, f)
				wantLeft(t, f, 1+len(tail))
			}
		}
	}
}

// TestP6_3Length holds that a wrong length is refused as soon as it is there, and one that has no end yet is waited for.
func TestP6_3Length(t *testing.T) {
	for i := range len(firsts) {
		first := firsts[i : i+1]
		for n := range 4 {
			f := made(t, 16)
			f.Push(first + strings.Repeat("\xff", n))
			wantNone(t, f)
			wantLeft(t, f, 1+n)
			f.Push(strings.Repeat("\x80", 4-n))
			wantFault(t, f, api.ErrForm)
		}
		f := made(t, 16)
		f.Push(first + "\xff\xff\xff\xff\x01" + strings.Repeat("x", 100))
		wantFault(t, f, api.ErrForm)
	}
}

// TestP6_3Long holds that a packet beyond the limit is refused as soon as its length is there, and before what is wrong in its rest.
func TestP6_3Long(t *testing.T) {
	for i := range len(firsts) {
		first := firsts[i : i+1]
		for _, head := range []string{"\x0f", "\x7f", "\x8e\x00", "\x8d\x80\x00", "\x8c\x80\x80\x00", "\x80\x01", "\xff\xff\xff\x7f"} {
			for _, tail := range []string{"", "\x00", strings.Repeat("\xff", 200)} {
				f := made(t, 16)
				f.Push(first + head + tail)
				wantFault(t, f, api.ErrLong)
			}
		}
		for _, head := range []string{"\x0e", "\x8d\x00", "\x8c\x80\x00", "\x8b\x80\x80\x00"} {
			f := made(t, 16)
			f.Push(first + head)
			wantNone(t, f)
			f.Push(strings.Repeat("\xff", 15-len(head)-1))
			wantNone(t, f)
			wantLeft(t, f, 15)
			f.Push("\xff")
			wantLeft(t, f, 16)
			wantFault(t, f, api.ErrForm)
		}
	}
}

// TestP6_3OtherPacketsLong holds that the limit is one packet's, not the buffer's.
func TestP6_3OtherPacketsLong(t *testing.T) {
	f := made(t, 16)
	f.Push(strings.Repeat("\xc0\x00", 100) + "\x30\x0f")
	for range 100 {
		wantPacket(t, f, api.Packet{Type: api.Pingreq})
	}
	wantFault(t, f, api.ErrLong)
}

// TestP6_3Malformed has packets that are whole, but none: they are refused when all of their bytes are there, not sooner.
func TestP6_3Malformed(t *testing.T) {
	for _, s := range []string{"\xc0\x01\x00", "\x20\x02\x02\x00", "\x30\x03\x00\x01+", "\x38\x03\x00\x01a", "\x40\x02\x00\x00", "\x82\x02\x00\x01", "\x90\x03\x00\x01\x03", "\x10\x07\x00\x05MQTT\x03", "\x10\x06\x00\x04MQTT", "\x30\x03\x00\x02a"} {
		f := made(t, 16)
		f.Push("\xd0\x00" + s[:len(s)-1])
		wantPacket(t, f, api.Packet{Type: api.Pingresp})
		wantNone(t, f)
		wantLeft(t, f, len(s)-1)
		f.Push(s[len(s)-1:] + "\xd0\x00")
		wantFault(t, f, api.ErrForm)
	}
}

func TestP6_3OtherLevel(t *testing.T) {
	f := made(t, 16)
	f.Push("\x10\x09\x00\x04MQTT\x05\xff\xff\xc0\x80\x00")
	wantPacket(t, f, api.Packet{Type: api.Connect, Level: 5})
	wantLeft(t, f, 3)
	wantPacket(t, f, api.Packet{Type: api.Pingreq})
	wantLeft(t, f, 0)
}

// TestP6_3Apart holds that framers share nothing, and that nobody changes one by what it has returned.
func TestP6_3Apart(t *testing.T) {
	f, g := made(t, 64), made(t, 64)
	s := "\x82\x06\x00\x01\x00\x01a\x00"
	f.Push(s + s)
	g.Push(s + "\x00")
	want := api.Packet{Type: api.Subscribe, Id: 1, Subs: []api.Sub{{Filter: "a"}}}
	p, _, _ := f.Next()
	p.Subs[0] = api.Sub{Filter: "b", Qos: 2}
	p.Subs = append(p.Subs, p.Subs...)
	wantPacket(t, g, want)
	wantFault(t, g, api.ErrForm)
	wantPacket(t, f, want)
	wantNone(t, f)
}

// TestP6_3NothingPutOver holds that what was returned stays as it was when more bytes come.
func TestP6_3NothingPutOver(t *testing.T) {
	f := made(t, 65536)
	var got, want []api.Packet
	for n := range 300 {
		p := api.Packet{Type: api.Publish, Topic: "t", Payload: strings.Repeat(string([]byte{byte(n)}), n)}
		want = append(want, p)
		s := encodingOf(t, p)
		f.Push(s[:n%len(s)])
		wantNone(t, f)
		f.Push(s[n%len(s):])
		q, _, _ := f.Next()
		got = append(got, q)
	}
	for i := range want {
		if !packet.Same(got[i], want[i]) {
			t.Errorf("packet %d became %s", i, toldPacket(got[i]))
		}
	}
}

func TestP6_4Left(t *testing.T) {
	f := made(t, 16)
	total := 0
	for n := range 100 {
		f.Push(strings.Repeat("\xe0\x00", n))
		total += 2 * n
		wantLeft(t, f, total)
	}
	for total > 0 {
		wantPacket(t, f, api.Packet{Type: api.Disconnect})
		total -= 2
		wantLeft(t, f, total)
	}
	f.Push("\x20")
	wantLeft(t, f, 1)
	f.Push("\x02\x00\xff")
	wantLeft(t, f, 4)
	wantError(t, f, api.ErrForm)
	wantLeft(t, f, 0)
}

// TestP6_4Kept holds that no more is kept than a few times what is left, and nothing once nothing is.
func TestP6_4Kept(t *testing.T) {
	f := made(t, 16)
	f.Push(strings.Repeat("\xc0\x00", 1<<19) + "\xc0")
	for range 1 << 19 {
		wantPacket(t, f, api.Packet{Type: api.Pingreq})
		if len(f.bytes) > 2*f.Left() {
			t.Fatalf("%d bytes are kept for %d", len(f.bytes), f.Left())
		}
	}
	if cap(f.bytes) > 100 {
		t.Errorf("room for %d bytes is kept for 1", cap(f.bytes))
	}
	f.Push("\x00")
	wantPacket(t, f, api.Packet{Type: api.Pingreq})
	if f.bytes != nil {
		t.Errorf("room for %d bytes is kept for none", cap(f.bytes))
	}
	f.Push("\x00" + strings.Repeat("x", 1<<20))
	wantError(t, f, api.ErrForm)
	if f.bytes != nil {
		t.Errorf("room for %d bytes is kept behind an error", cap(f.bytes))
	}
}

// whole is what a stream holds, said in another way: its packets, and the error that ends it, if any, and how many bytes are left. It decides on each packet with all the bytes before it.
func whole(s string, most int) (l []api.Packet, e api.Errno, left int) {
	for s != "" {
		if strings.IndexByte(firsts, s[0]) < 0 {
			return l, api.ErrForm, 0
		}
		end := 1
		for end < len(s) && s[end] >= 128 {
			end++
		}
		if end > 4 {
			return l, api.ErrForm, 0
		}
		if end == len(s) {
			return l, api.OK, len(s)
		}
		size := 0
		for i := end; i > 0; i-- {
			size = size*128 + int(s[i]&127)
		}
		size += end + 1
		if size > most {
			return l, api.ErrLong, 0
		}
		if size > len(s) {
			return l, api.OK, len(s)
		}
		p, ok := known(s[:size])
		if !ok {
			return l, api.ErrForm, 0
		}
		l, s = append(l, p), s[size:]
	}
	return l, api.OK, 0
}

// known is the packet of the streams' ones that has these bytes.
func known(s string) (api.Packet, bool) {
	p, ok := knownCodes()[s]
	return p, ok
}

var knownCodes = sync.OnceValue(func() map[string]api.Packet {
	m := map[string]api.Packet{
		"\x10\x09\x00\x04MQTT\x05\xff\xff": {Type: api.Connect, Level: 5},
		"\xc0\x80\x80\x80\x00":             {Type: api.Pingreq},
		"\x30\x06\x00\x01tppp":             {Type: api.Publish, Topic: "t", Payload: "ppp"},
	}
	for _, p := range packets() {
		code, _ := write.Encode(p)
		m[code] = p
	}
	return m
})

// streams are of all kinds: with and without an error, at the beginning and behind packets.
func streams(t *testing.T) []string {
	all := encodingOf(t, packets()...)
	odd := "\x10\x09\x00\x04MQTT\x05\xff\xff\xc0\x80\x80\x80\x00"
	ends := []string{"", "\x30", "\x30\x80", "\x30\x80\x80\x80", "\x32\x0e\x00\x01t", "\x00", "\x36\x00", "\x30\x80\x80\x80\x80\x00", "\x30\xff\xff\xff\x7f", "\x30\xff\x01\x00\x01t", "\xc0\x01\x00", "\x40\x02\x00\x00", "\x20\x02\x02"}
	var l []string
	for _, begin := range []string{"", "\xc0\x00", odd, "\x30\x06\x00\x01tppp\xd0\x00", all, odd + all} {
		for _, end := range ends {
			l = append(l, begin+end, begin+end+"\xc0\x00\xc0\x00")
		}
	}
	return l
}

// run pushes the pieces, asks often times for the next packet behind each, and then up to the end.
func run(f *Framer, pieces []string, often int) (l []api.Packet, e api.Errno) {
	ask := func() bool {
		p, ok, g := f.Next()
		if ok {
			l = append(l, p)
		}
		e = g
		return ok
	}
	for _, s := range pieces {
		f.Push(s)
		for range often {
			ask()
		}
	}
	for ask() {
	}
	return l, e
}

func wantWhole(t *testing.T, most int, pieces []string, often int) {
	t.Helper()
	s := strings.Join(pieces, "")
	want, wantE, wantLeft := whole(s, most)
	f := made(t, most)
	got, e := run(f, pieces, often)
	same := len(got) == len(want)
	for i := 0; same && i < len(got); i++ {
		same = packet.Same(got[i], want[i])
	}
	if !same || e != wantE || f.Left() != wantLeft {
		t.Errorf("%s in %d pieces, limit %d: %d packets, %d, %d left; want %d, %d, %d", told(s), len(pieces), most, len(got), e, f.Left(), len(want), wantE, wantLeft)
	}
}

var limits = []int{16, 100, 205, 206, 207, 65536}

func TestP6_5OnePiece(t *testing.T) {
	for _, s := range streams(t) {
		for _, most := range limits {
			for often := range 3 {
				wantWhole(t, most, []string{s}, often)
			}
		}
	}
}

func TestP6_5SingleBytes(t *testing.T) {
	for _, s := range streams(t) {
		var l []string
		for i := range len(s) {
			l = append(l, s[i:i+1], "")
		}
		for _, most := range limits {
			for often := range 3 {
				wantWhole(t, most, l, often)
			}
		}
	}
}

func TestP6_5TwoPieces(t *testing.T) {
	for _, s := range streams(t) {
		for i := range len(s) + 1 {
			for _, most := range []int{16, 65536} {
				for _, often := range []int{0, 1, 40} {
					wantWhole(t, most, []string{s[:i], s[i:]}, often)
				}
			}
		}
	}
}

func TestP6_5AnyPieces(t *testing.T) {
	r := rand.New(rand.NewSource(6))
	for _, s := range streams(t) {
		for range 100 {
			var l []string
			for left := s; left != ""; {
				n := min(1+r.Intn(1+r.Intn(60)), len(left))
				l, left = append(l, left[:n]), left[n:]
			}
			wantWhole(t, limits[r.Intn(len(limits))], l, r.Intn(4))
		}
	}
}

// TestP6_5AnyOrder asks and pushes by turns as it comes, and holds each answer against what has come so far.
func TestP6_5AnyOrder(t *testing.T) {
	r := rand.New(rand.NewSource(65))
	for _, s := range streams(t) {
		for range 20 {
			f, n, asked := made(t, 300), 0, 0
			for n < len(s) || asked < 100 {
				if r.Intn(2) == 0 && n < len(s) {
					k := min(n+r.Intn(10), len(s))
					f.Push(s[n:k])
					n = k
					continue
				}
				l, e, _ := whole(s[:n], 300)
				if asked < len(l) {
					wantPacket(t, f, l[asked])
				} else {
					wantError(t, f, e)
				}
				if asked < len(l) || n == len(s) {
					asked++
				}
			}
		}
	}
}

// TestP6_5Longest has the longest packets byte by byte, which takes long if all that has come is looked at each time.
func TestP6_5Longest(t *testing.T) {
	f := made(t, 65536)
	for range 20 {
		s, p := publishOf(65536, 1)
		for i := range len(s) {
			if _, ok, e := f.Next(); ok || e != api.OK {
				t.Fatalf("%t, %d at the byte %d", ok, e, i)
			}
			f.Push(s[i : i+1])
		}
		wantPacket(t, f, p)
	}
}
