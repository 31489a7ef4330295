package out

import (
	"fmt"
	"math"
	"math/rand"
	"slices"
	"strings"
	"testing"

	"relayhouse/api"
	"relayhouse/packet"
)

// noWindows and noLimits are numbers that are none, some of which have the low bits of one.
var noWindows = []int{
	0, -1, -2, -1023, -1024, -1025, 1025, 1026, 2048, 65535, 65536, 65537, 1<<31 - 1, 1 << 31, 1<<32 + 1, 1<<32 + 1024, 1<<63 - 1024,
	-1 << 31, -1<<32 + 1, math.MinInt + 1, math.MinInt, math.MaxInt,
}

var noLimits = noWindows

// someLimits are numbers that are windows and limits.
var someLimits = []int{1, 2, 3, 64, 1023, 1024}

// names are topics that a message may have.
var names = []string{"a", "/", "a/b", "//", "$s", "\x01", "\u00e9", "\U0010ffff", " ", strings.Repeat("a", 65535)}

// noNames are topics that no message may have.
var noNames = []string{"", "+", "#", "a+", "a/#", "+/a", "\x00", "a\x00", "\xff", "\xed\xa0\x80", "a\xc3", strings.Repeat("a", 65536)}

// payloads are payloads: any bytes are.
var payloads = []string{"", "1", "\x00", "\xff+#", "\xed\xa0\x80", strings.Repeat("p", 65536)}

// nth is a message that differs from all others of its kind.
func nth(n int, qos byte) api.Message {
	return api.Message{Topic: fmt.Sprint("t/", n), Payload: fmt.Sprint(n), Qos: qos, Retain: n%2 == 0}
}

// from are messages with these QoS, from the one of that number on.
func from(first int, qoses ...byte) []api.Message {
	var l []api.Message
	for i, qos := range qoses {
		l = append(l, nth(first+i, qos))
	}
	return l
}

// first is the packet of a message as it is sent at first.
func first(m api.Message, id uint16) api.Packet {
	return api.Packet{Type: api.Publish, Topic: m.Topic, Payload: m.Payload, Qos: m.Qos, Retain: m.Retain, Id: id}
}

// again is the packet of a message as it is sent again.
func again(m api.Message, id uint16) api.Packet {
	p := first(m, id)
	p.Dup = true
	return p
}

// answer is a packet of a type that has an id alone.
func answer(kind byte, id uint16) api.Packet { return api.Packet{Type: kind, Id: id} }

// short keeps what a failing test tells readable.
func short(v any) string {
	s := fmt.Sprintf("%+v", v)
	return s[:min(len(s), 400)]
}

func wantPackets(t *testing.T, call string, got []api.Packet, want ...api.Packet) {
	t.Helper()
	if !slices.EqualFunc(got, want, packet.Same) {
		t.Fatalf("%s = %d: %s; want %d: %s", call, len(got), short(got), len(want), short(want))
	}
}

func wantPut(t *testing.T, x *Table, m api.Message, want bool) {
	t.Helper()
	if got := x.Put(m); got != want {
		t.Fatalf("Put(%s) = %t; want %t", short(m), got, want)
	}
}

func wantPump(t *testing.T, x *Table, want ...api.Packet) {
	t.Helper()
	wantPackets(t, "Pump()", x.Pump(), want...)
}

func wantResume(t *testing.T, x *Table, want ...api.Packet) {
	t.Helper()
	wantPackets(t, "Resume()", x.Resume(), want...)
}

func wantAck(t *testing.T, x *Table, p api.Packet, want ...api.Packet) {
	t.Helper()
	got, ok := x.Ack(p)
	if !ok {
		t.Fatalf("Ack(%s) = %s, false; want true", short(p), short(got))
	}
	wantPackets(t, "Ack()", got, want...)
}

func wantNoAck(t *testing.T, x *Table, p api.Packet) {
	t.Helper()
	if got, ok := x.Ack(p); len(got) != 0 || ok {
		t.Fatalf("Ack(%s) = %s, %t; want none, false", short(p), short(got), ok)
	}
}

func wantCounts(t *testing.T, x *Table, flight, waits int) {
	t.Helper()
	if x.Flight() != flight || x.Waits() != waits {
		t.Fatalf("Flight(), Waits() = %d, %d; want %d, %d", x.Flight(), x.Waits(), flight, waits)
	}
}

// of is a table to which these messages were put.
func of(t *testing.T, window, most int, l ...api.Message) *Table {
	t.Helper()
	x := New(window, most)
	if x == nil {
		t.Fatalf("New(%d, %d) = nil", window, most)
	}
	for _, m := range l {
		wantPut(t, x, m, true)
	}
	return x
}

// pumped is a table of window 4 with four messages in flight: of QoS 1; of QoS 2, which awaits a PUBREC; of QoS 2, which awaits a PUBCOMP; of QoS 1. A fifth waits.
func pumped(t *testing.T) *Table {
	t.Helper()
	x := of(t, 4, 3, from(1, 1, 2, 2)...)
	wantPump(t, x, first(nth(1, 1), 1), first(nth(2, 2), 2), first(nth(3, 2), 3))
	wantPut(t, x, nth(4, 1), true)
	wantPump(t, x, first(nth(4, 1), 4))
	wantAck(t, x, answer(api.Pubrec, 3), answer(api.Pubrel, 3))
	wantPut(t, x, nth(5, 1), true)
	wantPumped(t, x)
	return x
}

// wantPumped holds a table against what pumped makes.
func wantPumped(t *testing.T, x *Table) {
	t.Helper()
	wantCounts(t, x, 4, 1)
	wantResume(t, x, again(nth(1, 1), 1), again(nth(2, 2), 2), answer(api.Pubrel, 3), again(nth(4, 1), 4))
	wantPump(t, x)
}

func TestP13_1New(t *testing.T) {
	for _, window := range someLimits {
		for _, most := range someLimits {
			x := of(t, window, most)
			for range 2 {
				wantCounts(t, x, 0, 0)
				wantPump(t, x)
				wantResume(t, x)
				wantNoAck(t, x, answer(api.Puback, 1))
			}
		}
	}
}

// TestP13_1EveryWindow fills a window of each size.
func TestP13_1EveryWindow(t *testing.T) {
	m := nth(1, 1)
	for window := 1; window <= 1024; window++ {
		x := of(t, window, 1)
		for id := range window {
			wantPut(t, x, m, true)
			wantPump(t, x, first(m, uint16(id+1)))
		}
		wantPut(t, x, m, true)
		wantPump(t, x)
		wantCounts(t, x, window, 1)
	}
}

// TestP13_1EveryLimit fills a queue of each limit.
func TestP13_1EveryLimit(t *testing.T) {
	for most := 1; most <= 1024; most++ {
		x := of(t, 1, most)
		for i := range most {
			wantPut(t, x, nth(i, byte(i%3)), true)
		}
		wantPut(t, x, nth(most, 0), false)
		wantCounts(t, x, 0, most)
	}
}

func TestP13_1NoTable(t *testing.T) {
	for _, no := range noWindows {
		for _, some := range slices.Concat(someLimits, noLimits) {
			if New(no, some) != nil {
				t.Errorf("New(%d, %d) is a table; want nil", no, some)
			}
			if New(some, no) != nil {
				t.Errorf("New(%d, %d) is a table; want nil", some, no)
			}
		}
	}
}

// TestP13_1Apart has tables that were made alike, which have nothing to do with each other.
func TestP13_1Apart(t *testing.T) {
	a, b := of(t, 1, 2, nth(1, 1)), of(t, 1, 2)
	wantCounts(t, b, 0, 0)
	wantPump(t, a, first(nth(1, 1), 1))
	wantNoAck(t, b, answer(api.Puback, 1))
	wantPut(t, b, nth(2, 2), true)
	wantPump(t, b, first(nth(2, 2), 1))
	a.Reset()
	wantResume(t, b, again(nth(2, 2), 1))
	wantCounts(t, a, 0, 0)
}

// TestP13_2Examples makes the calls of the chapter's examples that are about Put.
func TestP13_2Examples(t *testing.T) {
	a, b, c := nth(1, 1), nth(2, 0), nth(3, 2)
	x := of(t, 1, 3, a, b, c)
	wantPut(t, x, c, false)
	wantCounts(t, x, 0, 3)
	wantPump(t, x, first(a, 1), first(b, 0))
}

// TestP13_2AnyMessage puts messages with all kinds of fields, and with every QoS: those that a broker may send are in the queue.
func TestP13_2AnyMessage(t *testing.T) {
	x := of(t, 1, 1)
	for _, name := range slices.Concat(names, noNames) {
		for _, payload := range payloads {
			for qos := range 256 {
				if len(name)+len(payload) > 60000 && qos > 4 && qos < 254 {
					continue
				}
				m := api.Message{Topic: name, Payload: payload, Qos: byte(qos), Retain: qos%2 == 0}
				isRight := slices.Contains(names, name) && qos <= 2
				wantPut(t, x, m, isRight)
				if !isRight {
					wantCounts(t, x, 0, 0)
					wantPump(t, x)
					continue
				}
				wantCounts(t, x, 0, 1)
				wantPut(t, x, m, false)
				id := uint16(min(qos, 1))
				wantPump(t, x, first(m, id))
				x.Reset()
			}
		}
	}
}

// TestP13_2Longest puts messages whose packets are as long as packets may be, and longer by one: an id takes two bytes.
func TestP13_2Longest(t *testing.T) {
	payload := strings.Repeat("p", api.MaxLen-2)
	x := of(t, 1, 3)
	for qos, most := range []int{api.MaxLen - 3, api.MaxLen - 5, api.MaxLen - 5} {
		m := api.Message{Topic: "t", Qos: byte(qos), Payload: payload[:most+1]}
		wantPut(t, x, m, false)
		wantCounts(t, x, 0, 0)
		// Once with an id is enough: what is put takes much memory.
		if qos < 2 {
			m.Payload = payload[:most]
			wantPut(t, x, m, true)
			wantPump(t, x, first(m, uint16(qos)))
			x.Reset()
		}
	}
}

// TestP13_2Refused puts what can't be put, at every length of the queue: nothing changes.
func TestP13_2Refused(t *testing.T) {
	wrong := []api.Message{{}, {Qos: 1}, {Topic: "a", Qos: 3}, {Topic: "a/+", Payload: "1"}, {Topic: "#", Qos: 2, Retain: true}}
	for waits := range 6 {
		x := of(t, 2, 5, from(1, 1, 2)...)
		x.Pump()
		waiting := from(3, []byte{0, 1, 2, 0, 1}[:waits]...)
		for _, m := range waiting {
			wantPut(t, x, m, true)
		}
		if waits == 5 {
			wrong = append(wrong, from(9, 0, 1, 2)...)
		}
		for _, m := range wrong {
			wantPut(t, x, m, false)
			wantCounts(t, x, 2, waits)
		}
		wantResume(t, x, again(nth(1, 1), 1), again(nth(2, 2), 2))
		for len(waiting) > 0 {
			wantAckAll(t, x)
			want := sendable(waiting, 2)
			wantPump(t, x, want...)
			waiting = waiting[len(want):]
		}
		wantCounts(t, x, x.Flight(), 0)
	}
}

// wantAckAll acknowledges all that is in flight.
func wantAckAll(t *testing.T, x *Table) {
	t.Helper()
	for _, p := range x.Resume() {
		switch {
		case p.Type == api.Pubrel:
			wantAck(t, x, answer(api.Pubcomp, p.Id))
		case p.Qos == 1:
			wantAck(t, x, answer(api.Puback, p.Id))
		default:
			wantAck(t, x, answer(api.Pubrec, p.Id), answer(api.Pubrel, p.Id))
			wantAck(t, x, answer(api.Pubcomp, p.Id))
		}
	}
	wantResume(t, x)
}

// TestP13_3Examples makes the calls of the chapter's examples that are about Pump.
func TestP13_3Examples(t *testing.T) {
	a, b, c := nth(1, 1), nth(2, 0), nth(3, 2)
	x := of(t, 1, 3, a, b, c)
	wantPump(t, x, first(a, 1), first(b, 0))
	wantCounts(t, x, 1, 1)
	wantPump(t, x)
	wantAck(t, x, answer(api.Puback, 1))
	wantPump(t, x, first(c, 1))
	wantCounts(t, x, 1, 0)
	wantPump(t, x)
}

// TestP13_3EveryQos pumps messages of all sequences of up to five QoS through all small windows, again and again while nothing is acknowledged.
func TestP13_3EveryQos(t *testing.T) {
	for n := range 6 {
		for code := range int(math.Pow(3, float64(n))) {
			var qoses []byte
			for range n {
				qoses = append(qoses, byte(code%3))
				code /= 3
			}
			for window := 1; window <= 6; window++ {
				x := of(t, window, 5, from(1, qoses...)...)
				want := sendable(from(1, qoses...), window)
				wantPump(t, x, want...)
				flight := 0
				for _, p := range want {
					flight += int(min(p.Qos, 1))
				}
				wantCounts(t, x, flight, n-len(want))
				wantPump(t, x)
				wantCounts(t, x, flight, n-len(want))
			}
		}
	}
}

// sendable are the packets of these messages up to the first one for which the window has no place.
func sendable(l []api.Message, window int) []api.Packet {
	var packets []api.Packet
	id := uint16(0)
	for _, m := range l {
		if m.Qos == 0 {
			packets = append(packets, first(m, 0))
			continue
		}
		if int(id) == window {
			break
		}
		id++
		packets = append(packets, first(m, id))
	}
	return packets
}

// TestP13_3Full has a full window: messages of QoS 0 leave the queue at once, if no other one stands before them.
func TestP13_3Full(t *testing.T) {
	for _, window := range []int{1, 2, 3, 64, 1024} {
		x := of(t, window, 1024)
		for i := range window {
			wantPut(t, x, nth(i, byte(1+i%2)), true)
		}
		if got := len(x.Pump()); got != window {
			t.Fatalf("Pump() = %d packets; want %d", got, window)
		}
		for i := range 5 {
			wantPut(t, x, nth(i, 0), true)
			wantPump(t, x, first(nth(i, 0), 0))
			wantCounts(t, x, window, 0)
		}
		for _, m := range from(1, 0, 1, 0, 0, 2) {
			wantPut(t, x, m, true)
		}
		wantPump(t, x, first(nth(1, 0), 0))
		wantPump(t, x)
		wantCounts(t, x, window, 4)
		wantAck(t, x, answer(api.Puback, 1))
		wantPump(t, x, first(nth(2, 1), 1), first(nth(3, 0), 0), first(nth(4, 0), 0))
		wantPump(t, x)
		wantCounts(t, x, window, 1)
	}
}

// TestP13_3LowestId acknowledges messages in any order: their ids are allocated again in order, and the new messages stand behind those that are still in flight.
func TestP13_3LowestId(t *testing.T) {
	r := rand.New(rand.NewSource(133))
	for _, window := range []int{1, 2, 5, 63, 64, 65, 130, 1024} {
		x, next := of(t, window, 1024), 0
		var flight []api.Packet
		for range 10 {
			held := slices.Clone(flight)
			for id := range window {
				if !slices.ContainsFunc(held, func(p api.Packet) bool { return int(p.Id) == id+1 }) {
					wantPut(t, x, nth(next, 1), true)
					flight = append(flight, again(nth(next, 1), uint16(id+1)))
					next++
				}
			}
			for i, p := range x.Pump() {
				want := flight[len(held)+i]
				want.Dup = false
				wantPackets(t, "Pump()", []api.Packet{p}, want)
			}
			wantResume(t, x, flight...)
			for range r.Intn(window + 1) {
				at := r.Intn(len(flight))
				wantAck(t, x, answer(api.Puback, flight[at].Id))
				flight = slices.Delete(flight, at, at+1)
			}
			wantResume(t, x, flight...)
		}
	}
}

// TestP13_3HeldTillPubcomp has a message of QoS 2: it keeps its id and its place in the window till the PUBCOMP.
func TestP13_3HeldTillPubcomp(t *testing.T) {
	x := of(t, 1, 2, from(1, 2, 1)...)
	wantPump(t, x, first(nth(1, 2), 1))
	wantPump(t, x)
	wantAck(t, x, answer(api.Pubrec, 1), answer(api.Pubrel, 1))
	wantPump(t, x)
	wantCounts(t, x, 1, 1)
	wantAck(t, x, answer(api.Pubcomp, 1))
	wantPump(t, x, first(nth(2, 1), 1))
	x = of(t, 2, 2, from(1, 2, 1)...)
	wantPump(t, x, first(nth(1, 2), 1), first(nth(2, 1), 2))
	wantAck(t, x, answer(api.Pubrec, 1), answer(api.Pubrel, 1))
	wantAck(t, x, answer(api.Puback, 2))
	wantPut(t, x, nth(3, 2), true)
	wantPump(t, x, first(nth(3, 2), 2))
}

// TestP13_4Examples makes the calls of the chapter's examples.
func TestP13_4Examples(t *testing.T) {
	a, b, c := nth(1, 1), nth(2, 0), nth(3, 2)
	x := of(t, 1, 3, a, b, c)
	wantPut(t, x, c, false)
	wantPump(t, x, first(a, 1), first(b, 0))
	wantPump(t, x)
	wantResume(t, x, again(a, 1))
	wantNoAck(t, x, answer(api.Pubrec, 1))
	wantNoAck(t, x, answer(api.Puback, 2))
	wantAck(t, x, answer(api.Puback, 1))
	wantPump(t, x, first(c, 1))
	wantAck(t, x, answer(api.Pubrec, 1), answer(api.Pubrel, 1))
	wantAck(t, x, answer(api.Pubrec, 1), answer(api.Pubrel, 1))
	wantResume(t, x, answer(api.Pubrel, 1))
	wantAck(t, x, answer(api.Pubcomp, 1))
	wantNoAck(t, x, answer(api.Pubcomp, 1))
	wantCounts(t, x, 0, 0)
}

// TestP13_4EveryType acknowledges every message of pumped, and ids that none has, by packets of every type.
func TestP13_4EveryType(t *testing.T) {
	for kind := range 256 {
		for _, id := range []uint16{0, 1, 2, 3, 4, 5, 6, 255, 256, 257, 258, 259, 260, 65535} {
			p, x := answer(byte(kind), id), pumped(t)
			switch {
			case kind == api.Puback && (id == 1 || id == 4):
				wantAck(t, x, p)
				wantCounts(t, x, 3, 1)
				wantNoAck(t, x, p)
				wantPump(t, x, first(nth(5, 1), id))
			case kind == api.Pubrec && id == 2:
				wantAck(t, x, p, answer(api.Pubrel, 2))
				wantResume(t, x, again(nth(1, 1), 1), answer(api.Pubrel, 2), answer(api.Pubrel, 3), again(nth(4, 1), 4))
				wantCounts(t, x, 4, 1)
			case kind == api.Pubrec && id == 3:
				wantAck(t, x, p, answer(api.Pubrel, 3))
				wantPumped(t, x)
			case kind == api.Pubcomp && id == 3:
				wantAck(t, x, p)
				wantCounts(t, x, 3, 1)
				wantNoAck(t, x, p)
				wantPump(t, x, first(nth(5, 1), 3))
			default:
				wantNoAck(t, x, p)
				wantPumped(t, x)
			}
		}
	}
}

// TestP13_4OtherFields has acknowledgements with fields beside Type and Id, which are not used.
func TestP13_4OtherFields(t *testing.T) {
	odd := api.Packet{
		Dup: true, Qos: 2, Retain: true, Topic: "a/+", Payload: "b", Level: 3, Clean: true, Keep: 1, Client: "c", HasWill: true,
		Will: api.Message{Topic: "w", Qos: 9}, HasUser: true, HasPass: true, User: "u", Pass: "p", Present: true, Code: 128,
		Subs: []api.Sub{{Filter: "a", Qos: 1}}, Codes: "\x80",
	}
	ack := func(kind byte, id uint16) api.Packet {
		odd.Type, odd.Id = kind, id
		return odd
	}
	x := pumped(t)
	wantNoAck(t, x, ack(api.Puback, 2))
	wantNoAck(t, x, ack(api.Pubrec, 1))
	wantNoAck(t, x, ack(api.Pubcomp, 2))
	wantNoAck(t, x, ack(api.Publish, 1))
	wantPumped(t, x)
	wantAck(t, x, ack(api.Puback, 4))
	wantAck(t, x, ack(api.Pubrec, 2), answer(api.Pubrel, 2))
	wantAck(t, x, ack(api.Pubrec, 2), answer(api.Pubrel, 2))
	wantAck(t, x, ack(api.Pubcomp, 3))
	wantResume(t, x, again(nth(1, 1), 1), answer(api.Pubrel, 2))
	if !packet.Same(odd, ack(api.Pubcomp, 3)) || odd.Subs[0] != (api.Sub{Filter: "a", Qos: 1}) {
		t.Errorf("Ack() has changed the packet")
	}
}

// TestP13_4WaitingIsNotInFlight acknowledges messages that wait: they have no ids yet.
func TestP13_4WaitingIsNotInFlight(t *testing.T) {
	x := of(t, 2, 3, from(1, 1, 2, 1)...)
	for id := range uint16(4) {
		for kind := range byte(16) {
			wantNoAck(t, x, answer(kind, id))
		}
	}
	wantPump(t, x, first(nth(1, 1), 1), first(nth(2, 2), 2))
	wantNoAck(t, x, answer(api.Puback, 3))
	wantAck(t, x, answer(api.Puback, 1))
	wantPump(t, x, first(nth(3, 1), 1))
}

// TestP13_4OutOfOrder acknowledges each of five messages ahead of the others: these stay, in their order.
func TestP13_4OutOfOrder(t *testing.T) {
	for at := range 5 {
		x := of(t, 5, 5, from(1, 1, 2, 1, 2, 1)...)
		x.Pump()
		want := x.Resume()
		id := uint16(at + 1)
		if want[at].Qos == 2 {
			wantAck(t, x, answer(api.Pubrec, id), answer(api.Pubrel, id))
			released := slices.Clone(want)
			released[at] = answer(api.Pubrel, id)
			wantResume(t, x, released...)
			wantAck(t, x, answer(api.Pubcomp, id))
		} else {
			wantAck(t, x, answer(api.Puback, id))
		}
		wantResume(t, x, slices.Delete(want, at, at+1)...)
		wantPut(t, x, nth(6, 2), true)
		wantPump(t, x, first(nth(6, 2), id))
		wantResume(t, x, append(want[:4:4], again(nth(6, 2), id))...)
	}
}

func TestP13_5Resume(t *testing.T) {
	x := pumped(t)
	for range 3 {
		wantPumped(t, x)
	}
	wantAck(t, x, answer(api.Puback, 1))
	wantPump(t, x, first(nth(5, 1), 1))
	wantResume(t, x, again(nth(2, 2), 2), answer(api.Pubrel, 3), again(nth(4, 1), 4), again(nth(5, 1), 1))
}

// TestP13_5AnyMessage resumes messages of all kinds: those of QoS 0 and those that wait are never sent again.
func TestP13_5AnyMessage(t *testing.T) {
	for _, name := range names {
		for _, payload := range payloads {
			for _, isRetained := range []bool{false, true} {
				m := api.Message{Topic: name, Payload: payload, Retain: isRetained}
				x := of(t, 2, 4)
				for _, qos := range []byte{0, 2, 1, 1} {
					m.Qos = qos
					wantPut(t, x, m, true)
				}
				wantResume(t, x)
				zero, one, two := m, m, m
				zero.Qos, one.Qos, two.Qos = 0, 1, 2
				wantPump(t, x, first(zero, 0), first(two, 1), first(one, 2))
				wantResume(t, x, again(two, 1), again(one, 2))
				wantAck(t, x, answer(api.Pubrec, 1), answer(api.Pubrel, 1))
				wantResume(t, x, answer(api.Pubrel, 1), again(one, 2))
			}
		}
	}
}

// TestP13_5NewMemory changes what was answered, and what lies behind it: neither the table nor another answer changes.
func TestP13_5NewMemory(t *testing.T) {
	spoil := func(l []api.Packet) {
		_ = append(l, answer(api.Suback, 9))
		l = l[:cap(l)]
		for i := range l {
			l[i] = answer(api.Suback, 9)
		}
	}
	x := of(t, 3, 3, from(1, 1, 2, 0)...)
	spoil(x.Pump())
	want := []api.Packet{again(nth(1, 1), 1), again(nth(2, 2), 2)}
	kept := x.Resume()
	spoil(x.Resume())
	wantResume(t, x, want...)
	wantPackets(t, "Resume()", kept, want...)
	l, _ := x.Ack(answer(api.Pubrec, 2))
	spoil(l)
	wantAck(t, x, answer(api.Pubrec, 2), answer(api.Pubrel, 2))
	wantResume(t, x, want[0], answer(api.Pubrel, 2))
	wantAck(t, x, answer(api.Puback, 1))
	wantPackets(t, "Resume()", kept, want...)
}

func TestP13_6Counts(t *testing.T) {
	x := of(t, 3, 5)
	for i, qos := range []byte{1, 0, 2, 0, 1} {
		wantCounts(t, x, 0, i)
		wantPut(t, x, nth(i, qos), true)
	}
	wantCounts(t, x, 0, 5)
	x.Pump()
	wantCounts(t, x, 3, 0)
	for i := range 5 {
		wantPut(t, x, nth(i, 1), true)
		wantCounts(t, x, 3, i+1)
	}
	wantAck(t, x, answer(api.Pubrec, 2), answer(api.Pubrel, 2))
	wantCounts(t, x, 3, 5)
	wantAck(t, x, answer(api.Pubcomp, 2))
	wantCounts(t, x, 2, 5)
	wantAck(t, x, answer(api.Puback, 3))
	wantCounts(t, x, 1, 5)
	x.Pump()
	wantCounts(t, x, 3, 3)
}

// TestP13_6Reset resets tables in all kinds of states: they are as new ones with their window and limit are.
func TestP13_6Reset(t *testing.T) {
	for _, window := range []int{1, 2, 3, 64, 65, 1024} {
		for _, most := range []int{1, 2, 3, 65, 1024} {
			x := of(t, window, most)
			for round := range 4 {
				fill(x, round*window/3)
				for range 2 {
					x.Reset()
					wantCounts(t, x, 0, 0)
					wantPump(t, x)
					wantResume(t, x)
					for id := range uint16(window + 2) {
						wantNoAck(t, x, answer(api.Puback, id))
						wantNoAck(t, x, answer(api.Pubrec, id))
						wantNoAck(t, x, answer(api.Pubcomp, id))
					}
				}
				wantRoom(t, x, window, most)
				x.Reset()
			}
		}
	}
}

// fill brings up to that many messages into flight, of which some are acknowledged, and fills the queue.
func fill(x *Table, flight int) {
	for i := range flight {
		x.Put(nth(i, byte(1+i%2)))
		x.Pump()
	}
	for id := range uint16(flight) {
		if id%5 == 0 {
			x.Ack(answer(api.Puback, id))
			x.Ack(answer(api.Pubrec, id+1))
		}
	}
	for i := range 1024 {
		x.Put(nth(i, byte(1+i%2)))
	}
}

// wantRoom fills a table without messages: it has room for as many as a new one.
func wantRoom(t *testing.T, x *Table, window, most int) {
	t.Helper()
	for i := range window {
		wantPut(t, x, nth(i, byte(1+i%2)), true)
		wantPump(t, x, first(nth(i, byte(1+i%2)), uint16(i+1)))
	}
	for i := range most {
		wantPut(t, x, nth(i, 2), true)
	}
	wantPut(t, x, nth(0, 2), false)
	wantPump(t, x)
	wantCounts(t, x, window, most)
}

// TestP13_6NoTable has tables that New did not create; the chapter tells of them ahead of its promises.
func TestP13_6NoTable(t *testing.T) {
	for _, x := range []*Table{nil, {}, new(Table), New(0, 1), New(1, 1025)} {
		for range 3 {
			for _, m := range append(from(1, 0, 1, 2, 3), api.Message{}) {
				wantPut(t, x, m, false)
			}
			wantPump(t, x)
			for kind := range byte(16) {
				for id := range uint16(4) {
					wantNoAck(t, x, answer(kind, id))
				}
			}
			wantResume(t, x)
			wantCounts(t, x, 0, 0)
			x.Reset()
		}
	}
}

// TestP13_6NothingKept looks for messages that need not be kept any more.
func TestP13_6NothingKept(t *testing.T) {
	x := pumped(t)
	wantAck(t, x, answer(api.Pubrec, 2), answer(api.Pubrel, 2))
	wantAck(t, x, answer(api.Puback, 1))
	for _, s := range x.flight {
		if s.awaits() == api.Pubcomp && (s.Topic != "" || s.Payload != "") {
			t.Errorf("%s is kept though it is acknowledged", short(s.Packet))
		}
	}
	for _, s := range x.flight[len(x.flight):cap(x.flight)] {
		if s != nil {
			t.Errorf("%s is kept though it is removed", short(s.Packet))
		}
	}
	x.Reset()
	if cap(x.flight) != 0 || x.ids.Len() != 0 {
		t.Errorf("%d places and %d ids are kept though the table was reset", cap(x.flight), x.ids.Len())
	}
}

// twin is a table beside a plain reading of the chapter.
type twin struct {
	t            *testing.T
	x            *Table
	window, most int
	waiting      []api.Message
	flight       []flying
	next         int
}

// flying is a message in flight, with what it awaits.
type flying struct {
	m       api.Message
	id      uint16
	awaited byte
}

func newTwin(t *testing.T, window, most int) *twin {
	t.Helper()
	return &twin{t: t, x: of(t, window, most), window: window, most: most}
}

func (w *twin) put(qos byte) {
	w.t.Helper()
	m := nth(w.next, qos)
	w.next++
	fits := qos <= 2 && len(w.waiting) < w.most
	wantPut(w.t, w.x, m, fits)
	if fits {
		w.waiting = append(w.waiting, m)
	}
}

func (w *twin) pump() {
	w.t.Helper()
	var want []api.Packet
	for len(w.waiting) > 0 {
		m := w.waiting[0]
		if m.Qos > 0 && len(w.flight) == w.window {
			break
		}
		w.waiting = w.waiting[1:]
		id := uint16(0)
		if m.Qos > 0 {
			for id = 1; w.at(id) >= 0; {
				id++
			}
			w.flight = append(w.flight, flying{m, id, []byte{api.Puback, api.Pubrec}[m.Qos-1]})
		}
		want = append(want, first(m, id))
	}
	wantPump(w.t, w.x, want...)
}

// at is where the message with an id is in flight, or -1.
func (w *twin) at(id uint16) int {
	return slices.IndexFunc(w.flight, func(f flying) bool { return f.id == id })
}

func (w *twin) ack(kind byte, id uint16) {
	w.t.Helper()
	at, awaited := w.at(id), byte(0)
	if at >= 0 {
		awaited = w.flight[at].awaited
	}
	switch [2]byte{awaited, kind} {
	case [2]byte{api.Puback, api.Puback}, [2]byte{api.Pubcomp, api.Pubcomp}:
		wantAck(w.t, w.x, answer(kind, id))
		w.flight = slices.Delete(w.flight, at, at+1)
	case [2]byte{api.Pubrec, api.Pubrec}, [2]byte{api.Pubcomp, api.Pubrec}:
		wantAck(w.t, w.x, answer(kind, id), answer(api.Pubrel, id))
		w.flight[at].awaited = api.Pubcomp
	default:
		wantNoAck(w.t, w.x, answer(kind, id))
	}
}

func (w *twin) reset() {
	w.x.Reset()
	w.waiting, w.flight = nil, nil
}

func (w *twin) check() {
	w.t.Helper()
	wantCounts(w.t, w.x, len(w.flight), len(w.waiting))
	var want []api.Packet
	for _, f := range w.flight {
		if f.awaited == api.Pubcomp {
			want = append(want, answer(api.Pubrel, f.id))
		} else {
			want = append(want, again(f.m, f.id))
		}
	}
	wantResume(w.t, w.x, want...)
}

// TestP13_7EveryCalls makes every sequence of five calls, for windows of 1 and 2, on a table that was reset after all sequences before.
func TestP13_7EveryCalls(t *testing.T) {
	calls := []func(w *twin){
		func(w *twin) { w.put(0) }, func(w *twin) { w.put(1) }, func(w *twin) { w.put(2) }, func(w *twin) { w.pump() },
		func(w *twin) { w.ack(api.Puback, 1) }, func(w *twin) { w.ack(api.Pubrec, 1) }, func(w *twin) { w.ack(api.Pubcomp, 1) },
		func(w *twin) { w.ack(api.Puback, 2) }, func(w *twin) { w.ack(api.Pubrec, 2) }, func(w *twin) { w.ack(api.Pubcomp, 2) },
		func(w *twin) { w.reset() },
	}
	const length = 5
	for window := 1; window <= 2; window++ {
		w := newTwin(t, window, 2)
		for code := range int(math.Pow(float64(len(calls)), length)) {
			w.reset()
			for range length {
				calls[code%len(calls)](w)
				w.check()
				code /= len(calls)
			}
		}
	}
}

// TestP13_7AnyCalls makes calls at random, in long runs in which messages or acknowledgements prevail.
func TestP13_7AnyCalls(t *testing.T) {
	r := rand.New(rand.NewSource(137))
	for _, window := range []int{1, 2, 3, 17, 64, 100, 1024} {
		for _, most := range []int{1, 2, 5, 100, 1024} {
			w := newTwin(t, window, most)
			for step := range 2000 + 4*window {
				w.any(r, step/(window+most+50)%2 == 0)
				if len(w.flight) < 20 || step%101 == 0 {
					w.check()
				}
			}
			w.check()
		}
	}
}

// any makes a call at random.
func (w *twin) any(r *rand.Rand, isFilling bool) {
	w.t.Helper()
	puts := 30
	if isFilling {
		puts = 70
	}
	switch n := r.Intn(100); {
	case n == 0 && r.Intn(20) == 0:
		w.reset()
	case n < puts:
		w.put(byte(r.Intn(3)))
	case n < puts+2:
		w.put(byte(3 + r.Intn(253)))
	case n < puts+12:
		w.pump()
	default:
		kind := []byte{api.Puback, api.Pubrec, api.Pubcomp, byte(r.Intn(256))}[min(r.Intn(10)/3, 3)]
		w.ack(kind, uint16(r.Intn(min(len(w.flight), w.window)+2)))
	}
}

// TestP13_7Client has a client that acknowledges what it receives, early or late, in any order: it receives everything, each once and in order, with ids that differ and are no more than the window.
func TestP13_7Client(t *testing.T) {
	r := rand.New(rand.NewSource(138))
	for _, window := range []int{1, 2, 3, 10, 64, 1024} {
		for _, most := range []int{1, 3, 50, 1024} {
			const all = 3000
			x := of(t, window, most)
			var open []api.Packet
			var put, got int
			for got < all || len(open) > 0 {
				for put < all && r.Intn(8) > 0 && x.Put(nth(put, byte(put*put%7%3))) {
					put++
				}
				for _, p := range x.Pump() {
					if p.Topic != nth(got, 0).Topic || p.Dup {
						t.Fatalf("%s comes after %d messages", short(p), got)
					}
					got++
					if p.Qos > 0 {
						open = append(open, p)
					}
				}
				wantApart(t, x, open, window)
				for range r.Intn(len(open) + 1) {
					open = acknowledge(t, x, open, r.Intn(len(open)))
				}
			}
			wantCounts(t, x, 0, 0)
		}
	}
}

// wantApart holds the messages in flight against the window: their ids differ.
func wantApart(t *testing.T, x *Table, open []api.Packet, window int) {
	t.Helper()
	seen := map[uint16]int{}
	for _, p := range x.Resume() {
		seen[p.Id]++
		if p.Id == 0 || int(p.Id) > window || seen[p.Id] > 1 {
			t.Fatalf("%s is in flight %d times", short(p), seen[p.Id])
		}
	}
	if x.Flight() != len(open) || len(seen) != len(open) || len(open) > window {
		t.Fatalf("Flight() = %d; want %d of %d", x.Flight(), len(open), window)
	}
}

// acknowledge sends the next acknowledgement of one of the packets that a client has received; what is left is returned.
func acknowledge(t *testing.T, x *Table, open []api.Packet, at int) []api.Packet {
	t.Helper()
	p := open[at]
	switch {
	case p.Type == api.Pubrel:
		wantAck(t, x, answer(api.Pubcomp, p.Id))
	case p.Qos == 2:
		wantAck(t, x, answer(api.Pubrec, p.Id), answer(api.Pubrel, p.Id))
		open[at] = answer(api.Pubrel, p.Id)
		return open
	default:
		wantAck(t, x, answer(api.Puback, p.Id))
	}
	return slices.Delete(open, at, at+1)
}
