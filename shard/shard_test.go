package shard

import (
	"hash/fnv"
	"math"
	"math/big"
	"slices"
	"strings"
	"testing"

	"relayhouse/topic"
)

// notMany are numbers of workers that there can't be.
var notMany = []int{0, -1, -4, -63, -64, -65, 65, 66, 128, 256 + 4, 1<<16 + 4, math.MaxInt32, math.MinInt32, 1<<32 + 4, math.MaxInt, math.MinInt, math.MinInt + 4}

// anyStrings are strings of all kinds: a client's name may be any of them.
var anyStrings = []string{
	"", "a", "b", "ab", "ba", "foobar", "/", "a/b", "+", "#", "a+", "$", "$s", " ", "\x00", "\x00\x00", "\x7f", "\x80", "\xff", "\xff\xff", "\xc3", "\xa9",
	"\u00e9", "\u20ac/\U0001f600", "\ufffd", "client-1", "client-2", "The quick brown fox", strings.Repeat("x", 64), strings.Repeat("x", 65),
	strings.Repeat("\xff\x00", 35000), strings.Repeat("\u20ac", 30000),
}

// names are topic names, each with its first level.
var names = [][2]string{
	{"a", "a"}, {"ab", "ab"}, {"a/b", "a"}, {"b/a", "b"}, {"a/", "a"}, {"a//", "a"}, {"/", ""}, {"//", ""}, {"/a", ""}, {"/b", ""}, {"//a", ""},
	{"$", "$"}, {"$s", "$s"}, {"$s/x", "$s"}, {"$/", "$"}, {"/$s", ""}, {" ", " "}, {"a b/c", "a b"}, {"A/b", "A"}, {"\x01", "\x01"}, {"\x7f/x", "\x7f"},
	{"\u00e9/a", "\u00e9"}, {"e\u0301/a", "e\u0301"}, {"\u20ac/\U0001f600", "\u20ac"}, {"\ufffd", "\ufffd"}, {"\uff0b/a", "\uff0b"}, {"\uff03", "\uff03"},
	{"a\u2215b/c", "a\u2215b"}, {"a\\b/c", "a\\b"}, {"sport/tennis/player1", "sport"},
}

// single are topic filters that are no topic names and have no leading wildcard, each with its first level.
var single = [][2]string{
	{"a/+", "a"}, {"a/#", "a"}, {"a/+/#", "a"}, {"a/+/b", "a"}, {"a//#", "a"}, {"b/+/c", "b"}, {"/+", ""}, {"/#", ""}, {"//#", ""}, {"/+/a", ""},
	{"$s/+", "$s"}, {"$s/#", "$s"}, {"$/#", "$"}, {"\u20ac/+", "\u20ac"}, {"ab/#", "ab"}, {" /#", " "},
}

// leading are topic filters with a leading wildcard.
var leading = []string{"+", "#", "+/", "+/+", "+/#", "+/a", "+/a/#", "+/$s", "+//+", "+/\u20ac", "+/a/b/c", "+/+/+/+"}

// noFilters are strings that are no topic filters.
var noFilters = []string{
	"", "a+", "+a", "++", "a#", "#a", "##", "+#", "#/", "#/a", "#/#", "#/+", "a/#/b", "a/b+", "a/b#", "a/#/", "a+/b", "$+", "$#",
	"\x00", "a\x00", "a/\x00", "+/\x00", "\xff", "\xff/a", "a/\xff", "+/\xff", "a/\xc3", "\xed\xa0\x80", "\xc0\xaf",
	strings.Repeat("a", 65536), strings.Repeat("/", 65536), "a/" + strings.Repeat("b", 65534), "+/" + strings.Repeat("b", 65534), strings.Repeat("/", 65535) + "#",
}

// hashByWords finds the hash in another way: in whole numbers of any size.
func hashByWords(s string) uint64 {
	h, _ := new(big.Int).SetString("14695981039346656037", 10)
	factor := big.NewInt(1099511628211)
	for i := 0; i < len(s); i++ {
		low := h.Bit(0) + h.Bit(1)<<1 + h.Bit(2)<<2 + h.Bit(3)<<3 + h.Bit(4)<<4 + h.Bit(5)<<5 + h.Bit(6)<<6 + h.Bit(7)<<7
		h.Sub(h, big.NewInt(int64(low)))
		h.Add(h, big.NewInt(int64(low)^int64(s[i])))
		h.Mul(h, factor)
		h.Mod(h, new(big.Int).Lsh(big.NewInt(1), 64))
	}
	return h.Uint64()
}

// hashByLibrary finds the hash of strings that are too long for hashByWords.
func hashByLibrary(s string) uint64 {
	h := fnv.New64a()
	h.Write([]byte(s))
	return h.Sum64()
}

// workerByWords is the worker that a string's hash gives.
func workerByWords(s string, n int) int {
	worker := new(big.Int).SetUint64(hashByLibrary(s))
	return int(worker.Mod(worker, big.NewInt(int64(n))).Int64())
}

// upTo are the workers from 0 up, if there are n.
func upTo(n int) []int {
	l := make([]int, n)
	for i := range l {
		l[i] = i
	}
	return l
}

// short keeps what a failing test tells readable.
func short(s string) string { return s[:min(len(s), 40)] }

func wantHash(t *testing.T, want uint64, parts ...string) {
	t.Helper()
	if got := Hash(parts...); got != want {
		t.Errorf("Hash(%d parts, %.3q) = %x; want %x", len(parts), parts, got, want)
	}
}

func wantHome(t *testing.T, client string, n, want int) {
	t.Helper()
	if got := Home(client, n); got != want {
		t.Errorf("Home(%q, %d) = %d; want %d", short(client), n, got, want)
	}
}

func wantGate(t *testing.T, conn, n, want int) {
	t.Helper()
	if got := Gate(conn, n); got != want {
		t.Errorf("Gate(%d, %d) = %d; want %d", conn, n, got, want)
	}
}

func wantHub(t *testing.T, name string, n, want int) {
	t.Helper()
	if got := Hub(name, n); got != want {
		t.Errorf("Hub(%q, %d) = %d; want %d", short(name), n, got, want)
	}
}

func wantHubs(t *testing.T, filter string, n int, want ...int) {
	t.Helper()
	if got := Hubs(filter, n); !slices.Equal(got, want) {
		t.Errorf("Hubs(%q, %d) = %v; want %v", short(filter), n, got, want)
	}
}

func TestP8_1Examples(t *testing.T) {
	wantHash(t, 0xcbf29ce484222325)
	wantHash(t, 0xaf63dc4c8601ec8c, "a")
	wantHash(t, 0x85944171f73967e8, "foo", "bar")
}

// TestP8_1Known has hashes that are published with FNV-1a.
func TestP8_1Known(t *testing.T) {
	wantHash(t, 0xcbf29ce484222325, "")
	wantHash(t, 0xaf63df4c8601f1a5, "b")
	wantHash(t, 0xaf63bd4c8601b7df, "\x00")
	wantHash(t, 0x08985907b541d342, "fo")
	wantHash(t, 0xdcb27518fed9d577, "foo")
	wantHash(t, 0xdd120e790c2512af, "foob")
	wantHash(t, 0xcac165afa2fef40a, "fooba")
	wantHash(t, 0x85944171f73967e8, "foobar")
}

func TestP8_1NoParts(t *testing.T) {
	var none []string
	wantHash(t, 14695981039346656037, none...)
	wantHash(t, 14695981039346656037, []string{}...)
	wantHash(t, 14695981039346656037, "", "", "")
	wantHash(t, 14695981039346656037, make([]string, 1000)...)
}

// TestP8_1AllBytes has every byte first, after another one, and ahead of one: each is hashed as the number it is, whether or not it is of a text.
func TestP8_1AllBytes(t *testing.T) {
	for i := range 256 {
		c := string([]byte{byte(i)})
		for _, s := range []string{c, "a" + c, c + "a", "\xff" + c, "\xc3" + c + c, c + "\x00"} {
			wantHash(t, hashByWords(s), s)
		}
	}
}

func TestP8_1AnyStrings(t *testing.T) {
	for _, s := range anyStrings {
		want := hashByLibrary(s)
		if len(s) < 100 && want != hashByWords(s) {
			t.Fatalf("%q: the two ways of this test differ", s)
		}
		wantHash(t, want, s)
	}
	for _, n := range []int{255, 256, 257, 65535, 65536, 1 << 20} {
		long := strings.Repeat("ab\xff", n)[:n]
		wantHash(t, hashByLibrary(long), long)
	}
}

func TestP8_1OrderCounts(t *testing.T) {
	wantHash(t, hashByWords("abc"), "a", "b", "c")
	wantHash(t, hashByWords("cba"), "c", "b", "a")
	wantHash(t, hashByWords("abab"), "ab", "ab")
	if Hash("a", "b") == Hash("b", "a") || Hash("a", "a") == Hash("a") || Hash("") == Hash("\x00") {
		t.Errorf("other strings have one hash")
	}
}

func TestP8_1LeavesItsArgumentAlone(t *testing.T) {
	parts := []string{"a", "b", "c", "d"}
	wantHash(t, hashByWords("ab"), parts[:2]...)
	if !slices.Equal(parts, []string{"a", "b", "c", "d"}) {
		t.Errorf("after Hash: %q", parts)
	}
	// The same again: nothing stays from one call to the next.
	wantHash(t, hashByWords("ab"), parts[:2]...)
}

func TestP8_2Examples(t *testing.T) {
	wantHome(t, "a", 4, 0)
	wantHome(t, "b", 64, 37)
	wantHome(t, "a", 65, -1)
	wantGate(t, 1, 4, 0)
	wantGate(t, 6, 4, 1)
	wantGate(t, 0, 4, -1)
	wantHub(t, "a/b", 4, 0)
	wantHub(t, "/x", 4, 1)
	wantHub(t, "+", 4, -1)
	wantHubs(t, "a/#", 4, 0)
	wantHubs(t, "+/a", 3, 0, 1, 2)
	wantHubs(t, "a+", 3)
}

func TestP8_2Home(t *testing.T) {
	for _, client := range anyStrings {
		for n := 1; n <= 64; n++ {
			wantHome(t, client, n, workerByWords(client, n))
		}
	}
	for _, client := range []string{"", "a", "c", "\xff", strings.Repeat("x", 70000)} {
		wantHome(t, client, 1, 0)
	}
}

// TestP8_2HashesOfTheUpperHalf has hashes that are no int: they have no sign.
func TestP8_2HashesOfTheUpperHalf(t *testing.T) {
	// The hash of "a" is 0xaf63dc4c8601ec8c, that of the empty string 0xcbf29ce484222325.
	wantHome(t, "a", 3, 1)
	wantHome(t, "a", 63, 61)
	wantHome(t, "a", 64, 12)
	wantHome(t, "", 3, 2)
	wantHub(t, "a", 3, 1)
	wantHub(t, "/", 3, 2)
	wantHubs(t, "a/+", 3, 1)
	wantHubs(t, "/+", 3, 2)
}

func TestP8_2Gate(t *testing.T) {
	for n := 1; n <= 64; n++ {
		want := 0
		for conn := 1; conn <= 4100; conn++ {
			wantGate(t, conn, n, want)
			want++
			if want == n {
				want = 0
			}
		}
	}
	for n := 1; n <= 64; n++ {
		wantGate(t, math.MaxInt, n, int((uint64(math.MaxInt)-1)%uint64(n)))
		wantGate(t, 1<<40+1, n, int(uint64(1<<40)%uint64(n)))
	}
}

func TestP8_2GateOfNoConnection(t *testing.T) {
	for _, conn := range []int{0, -1, -2, -3, -4, -5, -63, -64, -65, math.MinInt32, math.MinInt, math.MinInt + 1} {
		for n := 1; n <= 64; n++ {
			wantGate(t, conn, n, -1)
		}
		for _, n := range notMany {
			wantGate(t, conn, n, -1)
		}
	}
}

func TestP8_2Hub(t *testing.T) {
	for _, x := range names {
		for n := 1; n <= 64; n++ {
			wantHub(t, x[0], n, workerByWords(x[1], n))
		}
	}
}

func TestP8_2HubOfNoName(t *testing.T) {
	bad := append(append([]string(nil), leading...), noFilters...)
	for _, x := range single {
		bad = append(bad, x[0])
	}
	for _, s := range bad {
		for _, n := range []int{1, 2, 4, 63, 64} {
			wantHub(t, s, n, -1)
		}
	}
}

func TestP8_2Hubs(t *testing.T) {
	for _, x := range append(append([][2]string(nil), names...), single...) {
		for n := 1; n <= 64; n++ {
			wantHubs(t, x[0], n, workerByWords(x[1], n))
		}
	}
	for _, filter := range leading {
		for n := 1; n <= 64; n++ {
			wantHubs(t, filter, n, upTo(n)...)
		}
	}
	for _, filter := range noFilters {
		for _, n := range []int{1, 2, 4, 63, 64} {
			wantHubs(t, filter, n)
		}
	}
}

// TestP8_2LongNames has names and filters of as many bytes as a text can have, and one more.
func TestP8_2LongNames(t *testing.T) {
	long := strings.Repeat("a", 65535)
	slashes := strings.Repeat("/", 65535)
	wantHub(t, long, 64, workerByWords(long, 64))
	wantHubs(t, long, 64, workerByWords(long, 64))
	wantHub(t, slashes, 64, workerByWords("", 64))
	wantHubs(t, slashes[1:]+"#", 64, workerByWords("", 64))
	wantHubs(t, long[2:]+"/#", 64, workerByWords(long[2:], 64))
	wantHubs(t, "+"+slashes[1:], 64, upTo(64)...)
	wantHub(t, long+"a", 64, -1)
	wantHubs(t, long+"a", 64)
	wantHub(t, slashes+"/", 64, -1)
	wantHubs(t, "+"+slashes, 64)
	wantHubs(t, long[1:]+"/#", 64)
}

func TestP8_2NotSoManyWorkers(t *testing.T) {
	for _, n := range notMany {
		for _, client := range anyStrings {
			wantHome(t, client, n, -1)
		}
		for _, conn := range []int{1, 2, 5, 64, 4096, math.MaxInt} {
			wantGate(t, conn, n, -1)
		}
		for _, x := range names {
			wantHub(t, x[0], n, -1)
			wantHubs(t, x[0], n)
		}
		for _, x := range single {
			wantHub(t, x[0], n, -1)
			wantHubs(t, x[0], n)
		}
		for _, s := range append(append([]string(nil), leading...), noFilters...) {
			wantHub(t, s, n, -1)
			wantHubs(t, s, n)
		}
	}
}

func TestP8_2HubsAreNewMemory(t *testing.T) {
	for _, filter := range []string{"#", "+/a", "a/#", "a"} {
		want := append([]int(nil), Hubs(filter, 5)...)
		first, second := Hubs(filter, 5), Hubs(filter, 5)
		for i := range first {
			first[i] = 99
		}
		_ = append(first[:0], 77, 78, 79)
		if !slices.Equal(second, want) {
			t.Errorf("%q: another answer became %v", filter, second)
		}
		wantHubs(t, filter, 5, want...)
	}
}

// fewFilters are all topic filters of up to three of these levels.
func fewFilters() []string {
	levels := []string{"", "a", "b", "c", "$s", "+", "#"}
	last, all := levels, levels
	for range 2 {
		var next []string
		for _, s := range last {
			for _, level := range levels {
				next = append(next, s+"/"+level)
			}
		}
		last, all = next, append(append([]string(nil), all...), next...)
	}
	return slices.DeleteFunc(append([]string(nil), all...), func(s string) bool { return !topic.Filter(s) })
}

// lacks says whether the first list lacks a worker of the other one.
func lacks(l, other []int) bool {
	for _, w := range other {
		if !slices.Contains(l, w) {
			return true
		}
	}
	return false
}

func TestP8_3HubOfAMatchedNameIsOneOfTheFilters(t *testing.T) {
	filters := fewFilters()
	for _, n := range []int{1, 2, 3, 4, 7, 64} {
		for _, filter := range filters {
			hubs := Hubs(filter, n)
			for _, name := range filters {
				if topic.Match(filter, name) && !slices.Contains(hubs, Hub(name, n)) {
					t.Fatalf("%d workers: %q has %v, matches %q of %d", n, filter, hubs, name, Hub(name, n))
				}
			}
		}
	}
}

func TestP8_3HubsOfWhatIsCovered(t *testing.T) {
	filters := fewFilters()
	for _, n := range []int{1, 2, 3, 4, 7, 64} {
		hubs := make([][]int, len(filters))
		for i, filter := range filters {
			hubs[i] = Hubs(filter, n)
			if len(hubs[i]) == 0 {
				t.Fatalf("%d workers: %q has none", n, filter)
			}
		}
		for i, a := range filters {
			for j, b := range filters {
				if topic.Covers(a, b) && lacks(hubs[i], hubs[j]) {
					t.Fatalf("%d workers: %q has %v, covers %q of %v", n, a, hubs[i], b, hubs[j])
				}
			}
		}
	}
}

// TestP8_3HashOfSplitStrings cuts strings into up to three parts, wherever they can be cut: between the bytes of a character too.
func TestP8_3HashOfSplitStrings(t *testing.T) {
	for _, s := range []string{"foobar", "a/b/c", "\x00\x01\x00", "\u20ac\U0001f600\u00e9", "\xff\xfe\xfd\xfc", "", "x"} {
		whole := Hash(s)
		for i := range len(s) + 1 {
			for j := i; j <= len(s); j++ {
				wantHash(t, whole, s[:i], s[i:j], s[j:])
				wantHash(t, whole, "", s[:i], "", s[i:j], s[j:], "")
			}
		}
		wantHash(t, whole, strings.Split(s, "")...)
	}
	long := strings.Repeat("ab\xff", 20000)
	wantHash(t, Hash(long), long[:1], long[1:59999], long[59999:])
	var parts []string
	for i := range len(long) {
		parts = append(parts, long[i:i+1])
	}
	wantHash(t, Hash(long), parts...)
}
