package ids

import (
	"iter"
	"math/rand"
	"slices"
	"testing"

	"relayhouse/api"
)

const most = 65535

// edges are ids at the ends of their range, and about powers of two; 0 is none.
var edges = []uint16{
	0, 1, 2, 3, 7, 8, 9, 31, 32, 33, 63, 64, 65, 66, 127, 128, 129, 191, 192, 193, 255, 256, 257, 511, 512, 513, 1023, 1024, 1025, 4095, 4096, 4097,
	16383, 16384, 16385, 32767, 32768, 32769, 40000, 65407, 65408, 65470, 65471, 65472, 65473, 65534, 65535,
}

// upTo are the ids from 1 to n.
func upTo(n int) []uint16 {
	var l []uint16
	for i := range n {
		l = append(l, uint16(i+1))
	}
	return l
}

// without are ids without some.
func without(l []uint16, some ...uint16) []uint16 {
	return slices.DeleteFunc(slices.Clone(l), func(id uint16) bool { return slices.Contains(some, id) })
}

func wantTake(t *testing.T, p *Pool, want ...uint16) {
	t.Helper()
	for _, id := range want {
		if got, e := p.Take(); got != id || e != api.OK {
			t.Fatalf("Take() = %d, %d; want %d, %d", got, e, id, api.OK)
		}
	}
}

func wantNoTake(t *testing.T, p *Pool, want api.Errno) {
	t.Helper()
	if got, e := p.Take(); got != 0 || e != want {
		t.Fatalf("Take() = %d, %d; want 0, %d", got, e, want)
	}
}

func wantFree(t *testing.T, p *Pool, id uint16, want bool) {
	t.Helper()
	if got := p.Free(id); got != want {
		t.Fatalf("Free(%d) = %t; want %t", id, got, want)
	}
}

func wantHas(t *testing.T, p *Pool, id uint16, want bool) {
	t.Helper()
	if got := p.Has(id); got != want {
		t.Fatalf("Has(%d) = %t; want %t", id, got, want)
	}
}

func wantYields(t *testing.T, all iter.Seq[uint16], want []uint16) {
	t.Helper()
	if all == nil {
		t.Fatalf("All() = nil")
	}
	var got []uint16
	for id := range all {
		if got = append(got, id); len(got) > most {
			break
		}
	}
	if slices.Equal(got, want) {
		return
	}
	for i := range min(len(got), len(want)) {
		if got[i] != want[i] {
			t.Fatalf("All() yields %d ids, the one at %d being %d; want %d ids, %d there", len(got), i, got[i], len(want), want[i])
		}
	}
	t.Fatalf("All() yields %d ids; want %d", len(got), len(want))
}

// wantPool holds all that a pool tells against the ids that are to be allocated in it, in order.
func wantPool(t *testing.T, p *Pool, want []uint16) {
	t.Helper()
	if got := p.Len(); got != len(want) {
		t.Fatalf("Len() = %d; want %d", got, len(want))
	}
	wantYields(t, p.All(), want)
	left := want
	for id := range most + 1 {
		isIn := len(left) > 0 && int(left[0]) == id
		if isIn {
			left = left[1:]
		}
		wantHas(t, p, uint16(id), isIn)
	}
}

// of is a pool with the ids from 1 to n allocated.
func of(t *testing.T, n int) *Pool {
	t.Helper()
	p := New()
	wantTake(t, p, upTo(n)...)
	return p
}

func TestP11_1New(t *testing.T) {
	first, second := New(), New()
	if first == nil || second == nil {
		t.Fatalf("New() = nil")
	}
	wantPool(t, first, nil)
	wantTake(t, first, 1, 2)
	wantPool(t, first, []uint16{1, 2})
	wantPool(t, second, nil)
	wantPool(t, New(), nil)
	wantTake(t, second, 1)
	wantFree(t, first, 1, true)
	wantPool(t, first, []uint16{2})
	wantPool(t, second, []uint16{1})
}

// example is the pool of the chapter's examples.
func example(t *testing.T) *Pool {
	t.Helper()
	p := New()
	wantTake(t, p, 1, 2, 3)
	wantFree(t, p, 2, true)
	wantTake(t, p, 2, 4)
	return p
}

func TestP11_2Examples(t *testing.T) {
	wantPool(t, example(t), []uint16{1, 2, 3, 4})
}

// TestP11_2TakeEveryId takes all ids there are: each is the lowest, and 65535 is the last.
func TestP11_2TakeEveryId(t *testing.T) {
	p := New()
	for i := range most {
		if p.Len() != i {
			t.Fatalf("Len() = %d; want %d", p.Len(), i)
		}
		wantHas(t, p, uint16(i+1), false)
		wantTake(t, p, uint16(i+1))
		wantHas(t, p, uint16(i+1), true)
	}
	every := upTo(most)
	wantPool(t, p, every)
	for range 3 {
		wantNoTake(t, p, api.ErrFull)
		wantPool(t, p, every)
	}
}

// TestP11_2FreeOfFull frees each id of a full pool in turn: no other one is free then.
func TestP11_2FreeOfFull(t *testing.T) {
	p := of(t, most)
	for _, id := range upTo(most) {
		wantFree(t, p, id, true)
		wantHas(t, p, id, false)
		if p.Len() != most-1 {
			t.Fatalf("Len() = %d without %d", p.Len(), id)
		}
		wantFree(t, p, id, false)
		wantTake(t, p, id)
		wantHas(t, p, id, true)
		wantNoTake(t, p, api.ErrFull)
	}
	wantFree(t, p, 0, false)
	wantNoTake(t, p, api.ErrFull)
	wantPool(t, p, upTo(most))
}

// TestP11_2FreeOfNotTaken frees ids that are free, and 0, which is none: nothing changes.
func TestP11_2FreeOfNotTaken(t *testing.T) {
	for _, n := range []int{0, 1, 2, 62, 63, 64, 65, 127, 128, 129, 1000, most - 1, most} {
		p, want := of(t, n), upTo(n)
		for _, id := range edges {
			if id == 0 || int(id) > n {
				wantHas(t, p, id, false)
				wantFree(t, p, id, false)
				wantHas(t, p, id, false)
			}
		}
		wantPool(t, p, want)
		if n < most {
			wantTake(t, p, uint16(n+1))
			wantPool(t, p, upTo(n+1))
		}
	}
}

func TestP11_2FreeTwice(t *testing.T) {
	p, want := of(t, 300), upTo(300)
	for _, id := range edges {
		if id == 0 || id > 300 {
			continue
		}
		want = without(want, id)
		wantFree(t, p, id, true)
		for range 2 {
			wantFree(t, p, id, false)
			wantPool(t, p, want)
		}
	}
}

// TestP11_2LowestFirst frees ids in any order: they are taken again in theirs, ahead of all that never were.
func TestP11_2LowestFirst(t *testing.T) {
	r := rand.New(rand.NewSource(112))
	for _, n := range []int{1, 2, 63, 64, 65, 128, 200, 1000, most} {
		p := of(t, n)
		for range 5 {
			freed := upTo(n)
			r.Shuffle(n, func(i, j int) { freed[i], freed[j] = freed[j], freed[i] })
			freed = freed[:r.Intn(n+1)]
			for _, id := range freed {
				wantFree(t, p, id, true)
			}
			slices.Sort(freed)
			wantTake(t, p, freed...)
		}
		wantPool(t, p, upTo(n))
		if n < most {
			wantTake(t, p, uint16(n+1))
		} else {
			wantNoTake(t, p, api.ErrFull)
		}
	}
}

// TestP11_2FreeAll frees all ids, from either end: the pool is as a new one is.
func TestP11_2FreeAll(t *testing.T) {
	for _, n := range []int{1, 63, 64, 65, 200, most} {
		for _, isDown := range []bool{false, true} {
			p, order := of(t, n), upTo(n)
			if isDown {
				slices.Reverse(order)
			}
			for _, id := range order {
				wantFree(t, p, id, true)
			}
			wantPool(t, p, nil)
			wantTake(t, p, upTo(n)...)
			wantPool(t, p, upTo(n))
		}
	}
}

func TestP11_3Examples(t *testing.T) {
	p := example(t)
	wantHas(t, p, 4, true)
	wantHas(t, p, 5, false)
	wantHas(t, p, 0, false)
	wantFree(t, p, 5, false)
	wantPool(t, p, []uint16{1, 2, 3, 4})
}

// TestP11_3Gaps has a pool with one id allocated, for each edge, and one with all others.
func TestP11_3Gaps(t *testing.T) {
	for _, id := range edges[1:] {
		p := of(t, int(id))
		for other := range id - 1 {
			wantFree(t, p, other+1, true)
		}
		wantPool(t, p, []uint16{id})
	}
	p, want := of(t, most), upTo(most)
	for _, id := range edges[1:] {
		wantFree(t, p, id, true)
		want = without(want, id)
		wantPool(t, p, want)
	}
}

// TestP11_3AllStays changes the pool after All was called: the iterator yields what was allocated then.
func TestP11_3AllStays(t *testing.T) {
	for _, n := range []int{0, 1, 63, 64, 65, 200, most} {
		p, want := of(t, n), upTo(n)
		all := p.All()
		wantYields(t, all, want)
		for _, id := range edges {
			p.Free(id)
		}
		wantYields(t, all, want)
		fewer, less := p.All(), without(want, edges...)
		for range n - p.Len() {
			p.Take()
		}
		if n < most {
			wantTake(t, p, uint16(n+1))
		}
		for range 2 {
			wantYields(t, all, want)
			wantYields(t, fewer, less)
		}
	}
}

// TestP11_3AllStopped stops an iterator at each of its ids: it yields no more of them, and all when it is used again.
func TestP11_3AllStopped(t *testing.T) {
	p := of(t, 200)
	for _, id := range edges {
		p.Free(id)
	}
	want := without(upTo(200), edges...)
	all := p.All()
	for i := range want {
		var got []uint16
		for id := range all {
			got = append(got, id)
			if len(got) == i+1 {
				break
			}
		}
		if !slices.Equal(got, want[:i+1]) {
			t.Fatalf("All() yields %d till it is stopped; want %d", got, want[:i+1])
		}
		calls := 0
		all(func(uint16) bool { calls++; return calls <= i })
		if calls != i+1 {
			t.Fatalf("All() yields %d ids though it is stopped at %d", calls, i+1)
		}
		wantYields(t, all, want)
	}
	wantPool(t, p, want)
}

// TestP11_3AllWhileItRuns changes the pool, and uses the iterator again, between the ids that it yields.
func TestP11_3AllWhileItRuns(t *testing.T) {
	p, want := of(t, 130), upTo(130)
	all := p.All()
	var got []uint16
	for id := range all {
		got = append(got, id)
		wantYields(t, all, want)
		p.Free(131 - id)
		p.Free(id)
		if id%3 == 0 {
			p.Take()
		}
		wantYields(t, all, want)
	}
	if !slices.Equal(got, want) {
		t.Fatalf("All() yields %d; want %d", got, want)
	}
	if p.Len() >= 130 {
		t.Fatalf("Len() = %d", p.Len())
	}
}

// TestP11_3AllByTurns has two iterators, and one of them twice, which are used by turns.
func TestP11_3AllByTurns(t *testing.T) {
	p := of(t, 100)
	first := p.All()
	for id := range uint16(50) {
		wantFree(t, p, 2*id+2, true)
	}
	second := p.All()
	nextA, stopA := iter.Pull(first)
	nextB, stopB := iter.Pull(second)
	nextC, stopC := iter.Pull(first)
	defer stopA()
	defer stopB()
	defer stopC()
	for i := range uint16(100) {
		if id, ok := nextA(); id != i+1 || !ok {
			t.Fatalf("the first yields %d, %t; want %d", id, ok, i+1)
		}
		if id, ok := nextB(); i < 50 && id != 2*i+1 || ok != (i < 50) {
			t.Fatalf("the second yields %d, %t; want %d", id, ok, 2*i+1)
		}
		if id, ok := nextC(); id != i+1 || !ok {
			t.Fatalf("the first yields %d, %t the second time; want %d", id, ok, i+1)
		}
	}
}

// TestP11_2NoPool has pools that New did not create; the chapter tells of them in P11.2 and P11.3, and beside them.
func TestP11_2NoPool(t *testing.T) {
	for _, p := range []*Pool{nil, {}, new(Pool)} {
		all := p.All()
		for range 3 {
			wantNoTake(t, p, api.ErrNone)
			for _, id := range edges {
				wantHas(t, p, id, false)
				wantFree(t, p, id, false)
			}
			wantPool(t, p, nil)
			wantYields(t, all, nil)
		}
	}
}

// TestP11_4AnyCalls takes and frees ids at random. A second store says what is allocated.
func TestP11_4AnyCalls(t *testing.T) {
	r := rand.New(rand.NewSource(114))
	for _, reach := range []int{3, 64, 70, 130, 400, 3000} {
		p, allocated := New(), map[uint16]int{}
		for step := range 8000 {
			// Long runs in which one of the two prevails, so that the pool fills and empties.
			if r.Intn(10) < 3+4*(step/1000%2) {
				id := uint16(r.Intn(reach + 1))
				_, isIn := allocated[id]
				wantFree(t, p, id, isIn)
				delete(allocated, id)
			} else {
				lowest := uint16(1)
				for allocated[lowest] == 1 {
					lowest++
				}
				if int(lowest) > len(allocated)+1 {
					t.Fatalf("%d is the lowest free one of %d", lowest, len(allocated))
				}
				wantTake(t, p, lowest)
				allocated[lowest]++
			}
			if p.Len() != len(allocated) {
				t.Fatalf("Len() = %d; want %d", p.Len(), len(allocated))
			}
			if step%500 == 0 {
				var want []uint16
				for id := range allocated {
					want = append(want, id)
				}
				slices.Sort(want)
				wantPool(t, p, want)
			}
		}
	}
}

// TestP11_4NoIdTwice asks only what P11.4 says: an id that is handed out is with no one, and is no higher than it must be.
func TestP11_4NoIdTwice(t *testing.T) {
	r := rand.New(rand.NewSource(115))
	p := New()
	var held []uint16
	for range 200000 {
		if r.Intn(5) < 2 && len(held) > 0 {
			i := r.Intn(len(held))
			wantFree(t, p, held[i], true)
			held = slices.Delete(held, i, i+1)
			continue
		}
		if len(held) > 500 {
			for _, id := range held {
				wantFree(t, p, id, true)
			}
			held = nil
		}
		id, e := p.Take()
		if e != api.OK || id == 0 || int(id) > len(held)+1 || slices.Contains(held, id) {
			t.Fatalf("Take() = %d, %d with %d ids allocated", id, e, len(held))
		}
		held = append(held, id)
	}
}
