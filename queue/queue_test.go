package queue

import (
	"fmt"
	"math"
	"math/rand"
	"slices"
	"strings"
	"testing"
	"unsafe"

	"relayhouse/api"
)

// noLimits are numbers that are no limits, some of which have the low bits of one.
var noLimits = []int{
	0, -1, -2, -1023, -1024, -1025, 1025, 1026, 2048, 65535, 65536, 65537, 1<<31 - 1, 1 << 31, 1<<32 + 1, 1<<32 + 1024, 1<<63 - 1024,
	-1 << 31, -1<<32 + 1, math.MinInt + 1, math.MinInt, math.MaxInt,
}

// kinds are messages of all kinds, of which a broker may send few.
var kinds = []api.Message{
	{}, {Topic: "a"}, {Payload: "a"}, {Qos: 1}, {Retain: true}, {Topic: "a", Payload: "a"}, {Topic: "a/b", Payload: "1", Qos: 2, Retain: true},
	{Topic: "+/#", Payload: "\x00"}, {Topic: "\x00", Payload: "\xff"}, {Topic: "\xed\xa0\x80", Qos: 3}, {Topic: "$s", Qos: 128}, {Qos: 255, Retain: true},
	{Topic: strings.Repeat("a", 65536)}, {Payload: strings.Repeat("b", 1<<20)},
}

// nth is a message that differs from all others of its kind.
func nth(n int) api.Message {
	return api.Message{Topic: fmt.Sprint("t/", n), Payload: fmt.Sprint(n), Qos: byte(n % 3), Retain: n%2 == 0}
}

// from are n messages, from the one of that number on.
func from(first, n int) []api.Message {
	var l []api.Message
	for i := range n {
		l = append(l, nth(first+i))
	}
	return l
}

// short keeps what a failing test tells readable.
func short(v any) string {
	s := fmt.Sprintf("%+v", v)
	return s[:min(len(s), 400)]
}

func wantPush(t *testing.T, q *Queue, m api.Message, want bool) {
	t.Helper()
	if got := q.Push(m); got != want {
		t.Fatalf("Push(%s) = %t; want %t", short(m), got, want)
	}
}

func wantPop(t *testing.T, q *Queue, want api.Message) {
	t.Helper()
	if got, ok := q.Pop(); got != want || !ok {
		t.Fatalf("Pop() = %s, %t; want %s, true", short(got), ok, short(want))
	}
}

func wantNoPop(t *testing.T, q *Queue) {
	t.Helper()
	if got, ok := q.Pop(); got != (api.Message{}) || ok {
		t.Fatalf("Pop() = %s, %t; want none, false", short(got), ok)
	}
}

func wantPeek(t *testing.T, q *Queue, want []api.Message) {
	t.Helper()
	var first api.Message
	if len(want) > 0 {
		first = want[0]
	}
	if got, ok := q.Peek(); got != first || ok != (len(want) > 0) {
		t.Fatalf("Peek() = %s, %t; want %s, %t", short(got), ok, short(first), len(want) > 0)
	}
}

// wantQueue holds all that a queue tells against the messages that are to wait in it.
func wantQueue(t *testing.T, q *Queue, most int, want []api.Message) {
	t.Helper()
	if got := q.Len(); got != len(want) {
		t.Fatalf("Len() = %d; want %d", got, len(want))
	}
	if got := q.Room(); got != most-len(want) {
		t.Fatalf("Room() = %d; want %d", got, most-len(want))
	}
	if got := q.All(); !slices.Equal(got, want) {
		t.Fatalf("All() = %d: %s; want %d: %s", len(got), short(got), len(want), short(want))
	}
	wantPeek(t, q, want)
}

// of is a queue to which these messages were pushed.
func of(t *testing.T, most int, l ...api.Message) *Queue {
	t.Helper()
	q := New(most)
	if q == nil {
		t.Fatalf("New(%d) = nil", most)
	}
	for _, m := range l {
		wantPush(t, q, m, true)
	}
	return q
}

// pull pops a message, whichever it is.
func pull(t *testing.T, q *Queue) {
	t.Helper()
	n := q.Len()
	if _, ok := q.Pop(); !ok || q.Len() != n-1 {
		t.Fatalf("Pop() is %t; Len() = %d before it, %d after it", ok, n, q.Len())
	}
}

// shifted is a queue whose messages are as of makes it, but through which others have gone before.
func shifted(t *testing.T, most, before int, l ...api.Message) *Queue {
	t.Helper()
	q := of(t, most)
	for i, m := range append(from(-before, before), l...) {
		if q.Room() == 0 {
			pull(t, q)
		}
		wantPush(t, q, m, true)
		if i < before && q.Len() > most/2 {
			pull(t, q)
		}
	}
	for q.Len() > len(l) {
		pull(t, q)
	}
	wantQueue(t, q, most, l)
	return q
}

func TestP12_1Examples(t *testing.T) {
	if New(0) != nil || New(1025) != nil {
		t.Errorf("New() is a queue; want nil")
	}
}

// TestP12_1EveryLimit fills a queue of each limit.
func TestP12_1EveryLimit(t *testing.T) {
	for most := 1; most <= 1024; most++ {
		q := of(t, most)
		wantQueue(t, q, most, nil)
		wantNoPop(t, q)
		l := from(0, most)
		for _, m := range l {
			wantPush(t, q, m, true)
		}
		wantPush(t, q, nth(-1), false)
		wantQueue(t, q, most, l)
	}
}

func TestP12_1NoLimit(t *testing.T) {
	for _, most := range noLimits {
		if q := New(most); q != nil {
			t.Errorf("New(%d) = %s; want nil", most, short(*q))
		}
	}
}

// TestP12_1Apart has queues of one limit, which have nothing to do with each other.
func TestP12_1Apart(t *testing.T) {
	first, second := of(t, 2), of(t, 2)
	wantPush(t, first, nth(1), true)
	wantQueue(t, second, 2, nil)
	wantPush(t, second, nth(2), true)
	wantPush(t, second, nth(3), true)
	wantQueue(t, first, 2, from(1, 1))
	wantQueue(t, New(2), 2, nil)
	wantPop(t, second, nth(2))
	first.Clear()
	wantQueue(t, first, 2, nil)
	wantQueue(t, second, 2, from(3, 1))
}

func TestP12_2Examples(t *testing.T) {
	a, b, c := nth(1), nth(2), nth(3)
	q := of(t, 2, a, b)
	wantPush(t, q, c, false)
	wantQueue(t, q, 2, []api.Message{a, b})
	wantPeek(t, q, []api.Message{a})
	wantPop(t, q, a)
	wantPush(t, q, c, true)
	wantQueue(t, q, 2, []api.Message{b, c})
	q.Clear()
	wantNoPop(t, q)
}

// TestP12_2AnyMessage has messages of all kinds, each alone and all together: what waits is told as it was pushed.
func TestP12_2AnyMessage(t *testing.T) {
	for _, m := range kinds {
		q := of(t, 3, m, m)
		wantQueue(t, q, 3, []api.Message{m, m})
		wantPop(t, q, m)
		wantQueue(t, q, 3, []api.Message{m})
		wantPop(t, q, m)
		wantQueue(t, q, 3, nil)
		wantNoPop(t, q)
	}
	q := of(t, len(kinds), kinds...)
	wantQueue(t, q, len(kinds), kinds)
	wantPush(t, q, kinds[0], false)
	for i, m := range kinds {
		wantQueue(t, q, len(kinds), kinds[i:])
		wantPop(t, q, m)
	}
	wantNoPop(t, q)
}

func TestP12_2EveryQos(t *testing.T) {
	q := of(t, 512)
	var want []api.Message
	for qos := range 256 {
		for _, isRetained := range []bool{false, true} {
			want = append(want, api.Message{Topic: "a", Payload: "b", Qos: byte(qos), Retain: isRetained})
			wantPush(t, q, want[len(want)-1], true)
		}
	}
	wantQueue(t, q, 512, want)
	for _, m := range want {
		wantPop(t, q, m)
	}
	wantNoPop(t, q)
}

// TestP12_2PushFull pushes to full queues, in which the messages stand where they have got: nothing changes.
func TestP12_2PushFull(t *testing.T) {
	for _, most := range []int{1, 2, 3, 4, 5, 8, 15, 16, 17, 100, 1023, 1024} {
		for _, before := range []int{0, 1, most / 2, most - 1, most, most + 1, 2*most + 1, 3 * most} {
			want := from(0, most)
			q := shifted(t, most, before, want...)
			for range 3 {
				wantPush(t, q, nth(-7), false)
				wantPush(t, q, api.Message{}, false)
				wantQueue(t, q, most, want)
			}
			wantPop(t, q, want[0])
			wantPush(t, q, nth(most), true)
			wantPush(t, q, nth(-7), false)
			wantQueue(t, q, most, from(1, most))
		}
	}
}

// TestP12_2PeekStays asks for the first message again and again: nothing is removed.
func TestP12_2PeekStays(t *testing.T) {
	for n := range 6 {
		want := from(0, n)
		q := of(t, 5, want...)
		for range 4 {
			wantPeek(t, q, want)
		}
		wantQueue(t, q, 5, want)
	}
}

// TestP12_2Empty peeks at and pops from empty queues, new ones and others: nothing changes.
func TestP12_2Empty(t *testing.T) {
	for _, most := range []int{1, 2, 3, 7, 1024} {
		for before := range 2*min(most, 20) + 2 {
			q := shifted(t, most, before)
			for range 3 {
				wantNoPop(t, q)
				wantQueue(t, q, most, nil)
			}
			want := from(0, most)
			for _, m := range want {
				wantPush(t, q, m, true)
			}
			wantQueue(t, q, most, want)
		}
	}
}

// TestP12_2Clear clears queues of every length: they are as new ones with their limit are.
func TestP12_2Clear(t *testing.T) {
	for _, most := range []int{1, 2, 3, 9, 64} {
		for n := range most + 1 {
			for before := range 12 {
				q := shifted(t, most, before, from(0, n)...)
				for range 2 {
					q.Clear()
					wantQueue(t, q, most, nil)
					wantNoPop(t, q)
				}
				want := from(n, most)
				for _, m := range want {
					wantPush(t, q, m, true)
				}
				wantPush(t, q, nth(-1), false)
				wantQueue(t, q, most, want)
			}
		}
	}
}

func TestP12_3Examples(t *testing.T) {
	a, b, c := nth(1), nth(2), nth(3)
	q := of(t, 2, a, b)
	wantPush(t, q, c, false)
	if q.Len() != 2 || q.Room() != 0 {
		t.Errorf("Len(), Room() = %d, %d; want 2, 0", q.Len(), q.Room())
	}
	wantPop(t, q, a)
	wantPush(t, q, c, true)
	if got := q.All(); !slices.Equal(got, []api.Message{b, c}) {
		t.Errorf("All() = %s", short(got))
	}
}

// TestP12_3EveryLength pushes and pops every number of messages, one by one.
func TestP12_3EveryLength(t *testing.T) {
	for _, most := range []int{1, 2, 3, 10, 33, 100} {
		for n := range most + 1 {
			q := of(t, most)
			for i := range n {
				wantQueue(t, q, most, from(0, i))
				wantPush(t, q, nth(i), true)
			}
			for i := range n {
				wantQueue(t, q, most, from(i, n-i))
				wantPop(t, q, nth(i))
			}
			wantQueue(t, q, most, nil)
		}
	}
}

// TestP12_3NewMemory changes what All answered, and what lies behind it: neither the queue nor another answer changes.
func TestP12_3NewMemory(t *testing.T) {
	for before := range 14 {
		for n := 1; n <= 6; n++ {
			want := from(0, n)
			q := shifted(t, 6, before, want...)
			first, second := q.All(), q.All()
			for i := range first {
				first[i] = nth(-1)
			}
			_ = append(first, nth(-2), nth(-3))
			first = first[:cap(first)]
			for i := range first {
				first[i] = nth(-4)
			}
			wantQueue(t, q, 6, want)
			for i := range 6 - n {
				wantPush(t, q, nth(n+i), true)
			}
			wantQueue(t, q, 6, from(0, 6))
			if !slices.Equal(second, want) {
				t.Fatalf("All() = %s; want %s", short(second), short(want))
			}
		}
	}
}

// TestP12_3AnswersStay changes the queue after it was asked: its answers stay as they are.
func TestP12_3AnswersStay(t *testing.T) {
	q := of(t, 8)
	var answers [][]api.Message
	for i := range 40 {
		if q.Room() == 0 {
			for range 1 + i%5 {
				pull(t, q)
			}
		}
		wantPush(t, q, nth(i), true)
		answers = append(answers, q.All())
	}
	q.Clear()
	for i, got := range answers {
		if want := from(i+1-len(got), len(got)); len(got) == 0 || !slices.Equal(got, want) {
			t.Fatalf("All() = %s; want %s", short(got), short(want))
		}
	}
}

// TestP12_2NoQueue has queues that New did not create; the chapter tells of them ahead of its promises.
func TestP12_2NoQueue(t *testing.T) {
	for _, q := range []*Queue{nil, {}, new(Queue), New(0)} {
		for range 3 {
			for _, m := range kinds {
				wantPush(t, q, m, false)
			}
			wantNoPop(t, q)
			wantQueue(t, q, 0, nil)
			q.Clear()
			wantQueue(t, q, 0, nil)
		}
	}
}

// TestP12_2NothingKept looks for strings that were handed in, or that were popped: a queue is not to hold any.
func TestP12_2NothingKept(t *testing.T) {
	r := rand.New(rand.NewSource(122))
	q := of(t, 20)
	for i := range 3000 {
		if r.Intn(2) == 0 {
			q.Pop()
		} else if m := nth(i); q.Push(m) {
			last := q.waiting()[q.Len()-1]
			if last != m || unsafe.StringData(last.Topic) == unsafe.StringData(m.Topic) || unsafe.StringData(last.Payload) == unsafe.StringData(m.Payload) {
				t.Fatalf("%s is kept as it was handed in", short(m))
			}
		}
		held := 0
		for _, m := range q.messages[:cap(q.messages)] {
			if m != (api.Message{}) {
				held++
			}
		}
		if held != q.Len() || cap(q.messages) > 4*20 {
			t.Fatalf("%d messages are held in %d places; want %d", held, cap(q.messages), q.Len())
		}
	}
}

// twin is a queue beside a plain list of what is to wait in it.
type twin struct {
	t    *testing.T
	q    *Queue
	most int
	want []api.Message
	next int
}

func newTwin(t *testing.T, most int) *twin {
	t.Helper()
	return &twin{t: t, q: of(t, most), most: most}
}

func (w *twin) push() {
	w.t.Helper()
	fits := len(w.want) < w.most
	wantPush(w.t, w.q, nth(w.next), fits)
	if fits {
		w.want = append(w.want, nth(w.next))
	}
	w.next++
}

func (w *twin) pop() {
	w.t.Helper()
	if len(w.want) == 0 {
		wantNoPop(w.t, w.q)
		return
	}
	wantPop(w.t, w.q, w.want[0])
	w.want = w.want[1:]
}

func (w *twin) clear() {
	w.t.Helper()
	w.q.Clear()
	w.want = nil
}

func (w *twin) check() {
	w.t.Helper()
	wantQueue(w.t, w.q, w.most, w.want)
}

// TestP12_4EveryCalls makes every sequence of nine pushes, pops and clears.
func TestP12_4EveryCalls(t *testing.T) {
	const calls = 9
	for most := 1; most <= 4; most++ {
		for code := range int(math.Pow(3, calls)) {
			w := newTwin(t, most)
			for range calls {
				switch code % 3 {
				case 0:
					w.push()
				case 1:
					w.pop()
				case 2:
					w.clear()
				}
				w.check()
				code /= 3
			}
		}
	}
}

// TestP12_4AnyCalls pushes and pops at random, in long runs in which one of the two prevails.
func TestP12_4AnyCalls(t *testing.T) {
	r := rand.New(rand.NewSource(124))
	for _, most := range []int{1, 2, 3, 5, 16, 17, 100, 500, 1023, 1024} {
		w := newTwin(t, most)
		for step := range 12 * (most + 100) {
			switch n := r.Intn(1000); {
			case n == 0 && r.Intn(4) == 0:
				w.clear()
			case n < 300+400*(step/(2*most+20)%2):
				w.pop()
			default:
				w.push()
			}
			if most < 50 || step%97 == 0 {
				w.check()
			}
		}
		w.check()
		for len(w.want) > 0 {
			w.pop()
		}
		w.check()
	}
}

// TestP12_4Stream sends many messages through queues that hold a steady number of them: each comes out once, in order.
func TestP12_4Stream(t *testing.T) {
	for _, most := range []int{1, 2, 3, 4, 7, 64, 1024} {
		for _, steady := range []int{1, most/2 + 1, most} {
			q, in, out := of(t, most), 0, 0
			for out < 5*most+1000 {
				for in-out < steady {
					wantPush(t, q, nth(in), true)
					in++
				}
				wantPop(t, q, nth(out))
				out++
			}
			wantQueue(t, q, most, from(out, in-out))
		}
	}
}
