package trie

import (
	"fmt"
	"math/rand"
	"slices"
	"strings"
	"testing"

	"relayhouse/api"
	"relayhouse/topic"
)

// noFilters are strings that are no topic filters. Where one is cut at its slashes, its levels may be those of a filter, or begin one.
var noFilters = []string{
	"", "a+", "+a", "++", "a#", "#a", "##", "+#", "#/", "#/a", "#/#", "#/+", "a/#/b", "a/b+", "a/b#", "a/#/", "a/#/#", "a+/b", "$+", "$#",
	"\x00", "a\x00", "a/\x00", "+/\x00", "\xff", "\xff/a", "a/\xff", "\xc3", "a/\xc3", "\xed\xa0\x80", "\xc0\xaf",
	strings.Repeat("a", 65536), strings.Repeat("/", 65536), "a/" + strings.Repeat("b", 65534), strings.Repeat("/", 65535) + "#",
}

// anyClients are strings of all kinds, in order: a client may be any of them.
var anyClients = []string{
	"", "\x00", "\x00\x00", " ", "#", "$s", "+", "/", "A", "a", "a\x00", "a#", "a/#", "a/b", "aa", "b", "client-1", "client-10", "client-2",
	strings.Repeat("x", 64), strings.Repeat("x", 70000), "\u00e9", "\U0001f600", "\xff", "\xff\x00", "\xff\xff",
}

func hint(filter, client string) api.Hint { return api.Hint{Filter: filter, Client: client} }

// short keeps what a failing test tells readable.
func short(s string) string { return s[:min(len(s), 40)] }

func told[T any](l []T) string {
	text := fmt.Sprintf("%#v", l)
	return fmt.Sprintf("%d: %s", len(l), text[:min(len(text), 500)])
}

func wantAdd(t *testing.T, x *Trie, filter, client string, want bool) {
	t.Helper()
	if got := x.Add(filter, client); got != want {
		t.Errorf("Add(%q, %q) = %t; want %t", short(filter), short(client), got, want)
	}
}

func wantRemove(t *testing.T, x *Trie, filter, client string, want bool) {
	t.Helper()
	if got := x.Remove(filter, client); got != want {
		t.Errorf("Remove(%q, %q) = %t; want %t", short(filter), short(client), got, want)
	}
}

func wantMatch(t *testing.T, x *Trie, name string, want ...string) {
	t.Helper()
	if got := x.Match(name); !slices.Equal(got, want) {
		t.Errorf("Match(%q) = %s; want %s", short(name), told(got), told(want))
	}
}

func wantOf(t *testing.T, x *Trie, client string, want ...string) {
	t.Helper()
	if got := x.Of(client); !slices.Equal(got, want) {
		t.Errorf("Of(%q) = %s; want %s", short(client), told(got), told(want))
	}
}

func wantAll(t *testing.T, x *Trie, want ...api.Hint) {
	t.Helper()
	if got := x.All(); !slices.Equal(got, want) {
		t.Errorf("All() = %s; want %s", told(got), told(want))
	}
}

func wantSize(t *testing.T, x *Trie, hints, nodes int) {
	t.Helper()
	if x.Len() != hints || x.Nodes() != nodes {
		t.Errorf("Len() = %d, Nodes() = %d; want %d, %d", x.Len(), x.Nodes(), hints, nodes)
	}
}

func of(hints ...api.Hint) *Trie {
	x := New()
	for _, h := range hints {
		x.Add(h.Filter, h.Client)
	}
	return x
}

// plain is a second trie, which has no more than the set of its hints.
type plain map[api.Hint]bool

func plainOf(hints ...api.Hint) plain {
	p := plain{}
	for _, h := range hints {
		p[h] = true
	}
	return p
}

func (p plain) add(filter, client string) bool {
	h := hint(filter, client)
	if p[h] || !topic.Filter(filter) {
		return false
	}
	p[h] = true
	return true
}

func (p plain) remove(filter, client string) bool {
	h := hint(filter, client)
	was := p[h]
	delete(p, h)
	return was
}

func (p plain) match(name string) []string {
	var l []string
	for h := range p {
		if topic.Match(h.Filter, name) && !slices.Contains(l, h.Client) {
			l = append(l, h.Client)
		}
	}
	slices.Sort(l)
	return l
}

func (p plain) of(client string) []string {
	var l []string
	for h := range p {
		if h.Client == client {
			l = append(l, h.Filter)
		}
	}
	slices.Sort(l)
	return l
}

func (p plain) all() []api.Hint {
	var l []api.Hint
	for h := range p {
		l = append(l, h)
	}
	slices.SortFunc(l, func(a, b api.Hint) int {
		if a.Filter < b.Filter || a.Filter == b.Filter && a.Client < b.Client {
			return -1
		}
		return 1
	})
	return l
}

// nodes counts what filters begin with: a filter itself, and what stands before each of its slashes.
func (p plain) nodes() int {
	begun := map[string]bool{}
	for h := range p {
		begun[h.Filter] = true
		for i := range len(h.Filter) {
			if h.Filter[i] == '/' {
				begun[h.Filter[:i]] = true
			}
		}
	}
	return 1 + len(begun)
}

// wantPlain holds all that a trie tells against the second one.
func wantPlain(t *testing.T, x *Trie, p plain, names, clients []string) {
	t.Helper()
	wantAll(t, x, p.all()...)
	wantSize(t, x, len(p), p.nodes())
	for _, client := range clients {
		wantOf(t, x, client, p.of(client)...)
	}
	for _, name := range names {
		wantMatch(t, x, name, p.match(name)...)
	}
	if t.Failed() {
		t.FailNow()
	}
}

// joined are the strings of from 1 to most of these levels.
func joined(most int, levels ...string) []string {
	all := append([]string(nil), levels...)
	last := levels
	for range most - 1 {
		var next []string
		for _, s := range last {
			for _, level := range levels {
				next = append(next, s+"/"+level)
			}
		}
		all, last = append(all, next...), next
	}
	return all
}

// fewFilters are all topic filters of up to three of these levels.
func fewFilters() []string {
	l := joined(3, "", "a", "b", "$s", "+", "#")
	return slices.DeleteFunc(l, func(s string) bool { return !topic.Filter(s) })
}

// fewNames are what the few filters may match, and some that are longer, and the empty string.
func fewNames() []string {
	l := joined(3, "", "a", "b", "$s", "c")
	return append(l, "a/b/a/b", "///", "$s/a/b/c", "a/a/a/a/a", "$sa", "$", "$/a", "ab", "aa/b")
}

// exampleHints are those of the chapter's examples.
func exampleHints() []api.Hint {
	return []api.Hint{hint("a/+", "x"), hint("a/#", "y"), hint("a/#", "x"), hint("#", "z")}
}

func TestP9_1Examples(t *testing.T) {
	x := of(exampleHints()...)
	wantAdd(t, x, "a/+", "x", false)
	wantAdd(t, x, "a+", "x", false)
	wantRemove(t, x, "a/+", "y", false)
	wantSize(t, x, 4, 5)
	wantRemove(t, x, "a/+", "x", true)
	wantSize(t, x, 3, 4)
}

func TestP9_1New(t *testing.T) {
	first, second := New(), New()
	if first == nil || second == nil {
		t.Fatalf("New() = nil")
	}
	wantPlain(t, first, plain{}, append(fewNames(), "", "+", "#"), anyClients)
	wantRemove(t, first, "a", "x", false)
	wantRemove(t, first, "", "", false)
	wantAdd(t, first, "a", "x", true)
	wantPlain(t, first, plainOf(hint("a", "x")), fewNames(), anyClients)
	wantPlain(t, second, plain{}, fewNames(), anyClients)
	wantPlain(t, New(), plain{}, fewNames(), anyClients)
}

func TestP9_1AddEveryFilterOnce(t *testing.T) {
	x := New()
	for i, filter := range fewFilters() {
		for j, client := range []string{"x", "", "a/b"} {
			wantAdd(t, x, filter, client, true)
			wantAdd(t, x, filter, client, false)
			if x.Len() != 3*i+j+1 {
				t.Fatalf("Len() = %d after %d hints", x.Len(), 3*i+j+1)
			}
		}
	}
	for _, filter := range fewFilters() {
		wantAdd(t, x, filter, "x", false)
	}
}

func TestP9_1AddNoFilter(t *testing.T) {
	few := exampleHints()
	for _, hints := range [][]api.Hint{nil, few} {
		x, p := of(hints...), plainOf(hints...)
		for _, filter := range noFilters {
			for _, client := range []string{"x", "", "q"} {
				wantAdd(t, x, filter, client, false)
				wantAdd(t, x, filter, client, false)
			}
			wantPlain(t, x, p, nil, []string{"x", "", "q"})
		}
		wantPlain(t, x, p, fewNames(), anyClients)
	}
}

// TestP9_1AddAgain adds hints that are there: nothing changes by it.
func TestP9_1AddAgain(t *testing.T) {
	x, p := of(exampleHints()...), plainOf(exampleHints()...)
	for _, h := range exampleHints() {
		wantAdd(t, x, h.Filter, h.Client, false)
		wantPlain(t, x, p, fewNames(), anyClients)
	}
	for _, h := range exampleHints() {
		wantRemove(t, x, h.Filter, h.Client, true)
		wantRemove(t, x, h.Filter, h.Client, false)
	}
	wantPlain(t, x, plain{}, fewNames(), anyClients)
}

func TestP9_1AnyClient(t *testing.T) {
	x, p := New(), plain{}
	for _, client := range anyClients {
		for _, filter := range []string{"a/b", "#"} {
			wantAdd(t, x, filter, client, true)
			wantAdd(t, x, filter, client, false)
			p.add(filter, client)
		}
		wantPlain(t, x, p, []string{"a/b", "a", "$s"}, anyClients)
	}
	for _, client := range anyClients {
		wantRemove(t, x, "a/b", client, true)
		wantRemove(t, x, "a/b", client, false)
		p.remove("a/b", client)
		wantPlain(t, x, p, []string{"a/b", "a", "$s"}, anyClients)
	}
}

// TestP9_1RemoveWhatIsNotThere has filters that lead into the trie, through it, and past it.
func TestP9_1RemoveWhatIsNotThere(t *testing.T) {
	hints := []api.Hint{hint("a/b/c", "x"), hint("a/b/c", "y"), hint("a", "y"), hint("+/b", "x"), hint("a/#", "z"), hint("/", "x")}
	x, p := of(hints...), plainOf(hints...)
	for _, filter := range append(fewFilters(), noFilters...) {
		for _, client := range []string{"x", "y", "z", "", "q"} {
			if !p[hint(filter, client)] {
				wantRemove(t, x, filter, client, false)
			}
		}
	}
	for _, filter := range []string{"a/b/c/d", "a/b/c/", "a/b/+", "a/b/#", "a/b", "/a/b/c", "A/b/c", "ab/c", "//", "+", "+/b/c", "a/+/c"} {
		wantRemove(t, x, filter, "x", false)
		wantRemove(t, x, filter, "y", false)
	}
	wantPlain(t, x, p, fewNames(), []string{"x", "y", "z", "", "q"})
}

// TestP9_1RemoveOne removes one hint of many: all others stay.
func TestP9_1RemoveOne(t *testing.T) {
	var hints []api.Hint
	for i, filter := range joined(2, "", "a", "+", "#") {
		if topic.Filter(filter) {
			hints = append(hints, hint(filter, "x"), hint(filter, string(rune('a'+i%3))))
		}
	}
	names := joined(3, "", "a", "$s")
	for i, h := range hints {
		x, p := of(hints...), plainOf(hints...)
		wantRemove(t, x, h.Filter, h.Client, true)
		p.remove(h.Filter, h.Client)
		wantPlain(t, x, p, names, []string{"x", "a", "b", "c"})
		wantRemove(t, x, hints[i].Filter, hints[i].Client, false)
		wantPlain(t, x, p, nil, []string{"x"})
	}
}

func TestP9_2Examples(t *testing.T) {
	x := of(exampleHints()...)
	wantMatch(t, x, "a/b", "x", "y", "z")
	wantMatch(t, x, "a", "x", "y", "z")
	wantMatch(t, x, "$s")
	wantMatch(t, x, "a/+")
}

func TestP9_2EachFilterAlone(t *testing.T) {
	names := fewNames()
	for _, filter := range fewFilters() {
		x := of(hint(filter, "x"))
		for _, name := range names {
			if topic.Match(filter, name) {
				wantMatch(t, x, name, "x")
			} else {
				wantMatch(t, x, name)
			}
		}
	}
}

// TestP9_2AllFilters has all filters in one trie, each of a client that has its name: what matches shows filter by filter.
func TestP9_2AllFilters(t *testing.T) {
	x, p := New(), plain{}
	for _, filter := range fewFilters() {
		x.Add(filter, filter)
		p.add(filter, filter)
	}
	wantPlain(t, x, p, fewNames(), fewFilters())
}

func TestP9_2Hidden(t *testing.T) {
	x := of(hint("#", "all"), hint("+", "one"), hint("+/#", "some"), hint("+/a", "two"), hint("$s/#", "s"), hint("$s/+", "t"), hint("$s", "u"), hint("/#", "v"), hint("/+", "w"))
	wantMatch(t, x, "$s", "s", "u")
	wantMatch(t, x, "$s/a", "s", "t")
	wantMatch(t, x, "$s/$s", "s", "t")
	wantMatch(t, x, "$s/a/b", "s")
	wantMatch(t, x, "$")
	wantMatch(t, x, "$/a")
	wantMatch(t, x, "$t/a")
	wantMatch(t, x, "/$s", "all", "some", "v", "w")
	wantMatch(t, x, "s$", "all", "one", "some")
	wantMatch(t, x, "a/$s", "all", "some")
}

func TestP9_2NoName(t *testing.T) {
	x := New()
	for _, filter := range fewFilters() {
		x.Add(filter, "x")
	}
	for _, s := range append(fewFilters(), noFilters...) {
		if !topic.Name(s) {
			wantMatch(t, x, s)
		}
	}
}

// TestP9_2Once has clients by many filters, each of which matches.
func TestP9_2Once(t *testing.T) {
	x := New()
	for _, filter := range []string{"a/b", "+/b", "a/+", "+/+", "#", "a/#", "+/#", "a/b/#", "+/+/#", "a/+/#", "+/b/#"} {
		for _, client := range []string{"b", "a", "", "\xff", "B"} {
			wantAdd(t, x, filter, client, true)
		}
	}
	wantMatch(t, x, "a/b", "", "B", "a", "b", "\xff")
	wantMatch(t, x, "a", "", "B", "a", "b", "\xff")
	wantMatch(t, x, "$s/b")
	for _, filter := range []string{"a/b", "+/b", "a/+", "+/+", "#", "a/#", "+/#", "a/b/#", "+/+/#", "a/+/#"} {
		wantRemove(t, x, filter, "a", true)
		wantMatch(t, x, "a/b", "", "B", "a", "b", "\xff")
	}
	wantRemove(t, x, "+/b/#", "a", true)
	wantMatch(t, x, "a/b", "", "B", "b", "\xff")
}

func TestP9_2Order(t *testing.T) {
	shuffled := append([]string(nil), anyClients...)
	r := rand.New(rand.NewSource(92))
	for range 20 {
		r.Shuffle(len(shuffled), func(i, j int) { shuffled[i], shuffled[j] = shuffled[j], shuffled[i] })
		x := New()
		for i, client := range shuffled {
			x.Add([]string{"a", "+", "#", "a/#"}[i%4], client)
		}
		wantMatch(t, x, "a", anyClients...)
	}
}

// TestP9_2Changes asks for one name while hints come and go: no answer stays.
func TestP9_2Changes(t *testing.T) {
	x := New()
	wantMatch(t, x, "a/b")
	wantAdd(t, x, "a/+", "x", true)
	wantMatch(t, x, "a/b", "x")
	wantAdd(t, x, "#", "a", true)
	wantMatch(t, x, "a/b", "a", "x")
	wantRemove(t, x, "a/+", "x", true)
	wantMatch(t, x, "a/b", "a")
	wantAdd(t, x, "a/b", "b", true)
	wantMatch(t, x, "a/b", "a", "b")
	wantRemove(t, x, "#", "a", true)
	wantRemove(t, x, "a/b", "b", true)
	wantMatch(t, x, "a/b")
}

func TestP9_3Examples(t *testing.T) {
	x := of(exampleHints()...)
	wantSize(t, x, 4, 5)
	wantOf(t, x, "x", "a/#", "a/+")
	wantAll(t, x, hint("#", "z"), hint("a/#", "x"), hint("a/#", "y"), hint("a/+", "x"))
}

// TestP9_3Order has filters that bytes put in another order than levels do: some bytes stand before the slash.
func TestP9_3Order(t *testing.T) {
	filters := []string{
		"#", "$", "$/a", "+", "+/a", "/", "//", "/a", "A", "a", "a\x01", "a\x01/b", "a ", "a /", "a!/b", "a-/", "a.", "a.b", "a/", "a/\x01", "a/#", "a/+", "a/+/b", "a//",
		"a/b", "a/b c", "a/b/c", "a0", "a0/b", "aa", "b", "\u00e9", "\u00e9/#", "\U0001f600",
	}
	if !slices.IsSorted(filters) {
		t.Fatalf("the filters are not in order: %q", filters)
	}
	clients := []string{"", "B", "a", "b"}
	var want []api.Hint
	for _, filter := range filters {
		for _, client := range clients {
			want = append(want, hint(filter, client))
		}
	}
	shuffled := append([]api.Hint(nil), want...)
	r := rand.New(rand.NewSource(93))
	for range 20 {
		r.Shuffle(len(shuffled), func(i, j int) { shuffled[i], shuffled[j] = shuffled[j], shuffled[i] })
		x := of(shuffled...)
		wantAll(t, x, want...)
		for _, client := range clients {
			wantOf(t, x, client, filters...)
		}
		wantOf(t, x, "q")
		wantSize(t, x, len(want), plainOf(want...).nodes())
	}
}

func TestP9_3Of(t *testing.T) {
	x := of(hint("a", "x"), hint("a/b", "xy"), hint("x", "a"), hint("b", ""), hint("#", "X"))
	wantOf(t, x, "x", "a")
	wantOf(t, x, "xy", "a/b")
	wantOf(t, x, "a", "x")
	wantOf(t, x, "", "b")
	wantOf(t, x, "X", "#")
	for _, client := range []string{"y", "a/b", "#", "b", "x\x00", " "} {
		wantOf(t, x, client)
	}
}

func TestP9_3Nodes(t *testing.T) {
	for _, c := range []struct {
		filters []string
		nodes   int
	}{
		{nil, 1}, {[]string{"a"}, 2}, {[]string{"a", "b"}, 3}, {[]string{"a/b"}, 3}, {[]string{"a", "a/b"}, 3}, {[]string{"a/b", "a/c"}, 4}, {[]string{"a/b", "b/b"}, 5},
		{[]string{"/"}, 3}, {[]string{"//"}, 4}, {[]string{"/", "//"}, 4}, {[]string{"/a", "/b"}, 4}, {[]string{"a/"}, 3}, {[]string{"a", "a/", "a//"}, 4},
		{[]string{"#"}, 2}, {[]string{"+"}, 2}, {[]string{"#", "+", "+/#", "+/+"}, 5}, {[]string{"a/b/c/d/e"}, 6}, {[]string{"a/b/c/d/e", "a/b/c/d/#", "a/b/#"}, 8},
		{[]string{"ab", "a/b", "a"}, 4}, {[]string{"a/a/a", "a/a", "a"}, 4},
	} {
		x := New()
		for i, filter := range c.filters {
			wantAdd(t, x, filter, "x", true)
			wantAdd(t, x, filter, "y", true)
			if got, want := x.Len(), 2*i+2; got != want {
				t.Errorf("%q: Len() = %d; want %d", c.filters, got, want)
			}
		}
		if x.Nodes() != c.nodes {
			t.Errorf("%q: Nodes() = %d; want %d", c.filters, x.Nodes(), c.nodes)
		}
	}
}

// TestP9_3NewMemory writes over answers, and beyond them: the trie and other answers stay as they are.
func TestP9_3NewMemory(t *testing.T) {
	x, p := of(exampleHints()...), plainOf(exampleHints()...)
	for range 2 {
		match, of, all := x.Match("a/b"), x.Of("x"), x.All()
		otherMatch, otherOf, otherAll := x.Match("a/b"), x.Of("x"), x.All()
		for i := range match {
			match[i] = "?"
		}
		for i := range of {
			of[i] = "?"
		}
		for i := range all {
			all[i] = hint("?", "?")
		}
		_, _, _ = append(match[:1], "!"), append(of[:1], "!"), append(all[:1], hint("!", "!"))
		if !slices.Equal(otherMatch, p.match("a/b")) || !slices.Equal(otherOf, p.of("x")) || !slices.Equal(otherAll, p.all()) {
			t.Errorf("other answers became %q, %q, %q", otherMatch, otherOf, otherAll)
		}
		wantPlain(t, x, p, fewNames(), []string{"x", "y", "z"})
	}
}

func TestP9_4NoTrie(t *testing.T) {
	var none *Trie
	for _, filter := range append([]string{"a", "#", "a/+"}, noFilters...) {
		for _, client := range []string{"x", ""} {
			wantAdd(t, none, filter, client, false)
			wantRemove(t, none, filter, client, false)
			wantOf(t, none, client)
		}
		wantMatch(t, none, filter)
	}
	wantAll(t, none)
	wantSize(t, none, 0, 0)
}

// orders are all orders of hints.
func orders(l []api.Hint) [][]api.Hint {
	if len(l) == 0 {
		return [][]api.Hint{nil}
	}
	var all [][]api.Hint
	for i, h := range l {
		rest := append(append([]api.Hint(nil), l[:i]...), l[i+1:]...)
		for _, order := range orders(rest) {
			all = append(all, append([]api.Hint{h}, order...))
		}
	}
	return all
}

func TestP9_5AnyOrder(t *testing.T) {
	names := []string{"a", "a/b", "a/b/c", "b", "/", "$s", "$s/b"}
	clients := []string{"x", "y", "z", "q"}
	for _, hints := range [][]api.Hint{
		{hint("a", "x"), hint("a/b", "x"), hint("a/b", "y"), hint("a/#", "y"), hint("+/b", "z"), hint("#", "x")},
		{hint("a/b/c", "x"), hint("a/b", "y"), hint("a", "z"), hint("$s/#", "x"), hint("/", "y"), hint("+", "z")},
	} {
		p := plainOf(hints...)
		for _, order := range orders(hints) {
			wantPlain(t, of(order...), p, names, clients)
		}
	}
}

// TestP9_5AnyOrderOfRemoving removes hints in all orders, and asks after each of them.
func TestP9_5AnyOrderOfRemoving(t *testing.T) {
	names := []string{"a", "a/b", "a/b/c", "b/b"}
	hints := []api.Hint{hint("a", "x"), hint("a/b", "x"), hint("a/b", "y"), hint("a/b/c", "y"), hint("+/b", "z"), hint("a/#", "x")}
	for _, order := range orders(hints) {
		x, p := of(hints...), plainOf(hints...)
		for _, h := range order {
			wantRemove(t, x, h.Filter, h.Client, true)
			p.remove(h.Filter, h.Client)
			wantPlain(t, x, p, names, []string{"x", "y", "z"})
		}
		wantSize(t, x, 0, 1)
	}
}

func TestP9_5AddAndRemoveRestores(t *testing.T) {
	names := joined(2, "", "a", "b", "$s")
	for _, hints := range [][]api.Hint{nil, exampleHints(), {hint("a/b/c", "x"), hint("+/+/+", "y"), hint("$s/#", "x")}} {
		x, p := of(hints...), plainOf(hints...)
		for _, filter := range fewFilters() {
			for _, client := range []string{"x", "q"} {
				if p[hint(filter, client)] {
					continue
				}
				wantAdd(t, x, filter, client, true)
				wantRemove(t, x, filter, client, true)
				wantAll(t, x, p.all()...)
				wantSize(t, x, len(p), p.nodes())
			}
		}
		wantPlain(t, x, p, names, []string{"x", "y", "z", "q"})
	}
}

func TestP9_5AllRemoved(t *testing.T) {
	x := New()
	filters := fewFilters()
	for range 2 {
		for _, filter := range filters {
			for _, client := range []string{"x", "y"} {
				wantAdd(t, x, filter, client, true)
			}
		}
		for _, h := range x.All() {
			wantRemove(t, x, h.Filter, h.Client, true)
		}
		wantPlain(t, x, plain{}, fewNames(), []string{"x", "y"})
		wantSize(t, x, 0, 1)
		slices.Reverse(filters)
	}
}

// TestP9_5AnyCalls adds and removes at random, so that hints come and go many times.
func TestP9_5AnyCalls(t *testing.T) {
	r := rand.New(rand.NewSource(95))
	filters := append(joined(3, "", "a", "b", "$s", "+", "#"), "a+", "\xff", "a/b/c/d/#", "+/+/+/+/+")
	clients := []string{"x", "y", "z", ""}
	names := joined(2, "", "a", "b", "$s")
	for range 20 {
		x, p := New(), plain{}
		few := filters
		if r.Intn(2) == 0 {
			few = filters[:30]
		}
		for step := range 400 {
			filter, client := few[r.Intn(len(few))], clients[r.Intn(len(clients))]
			if r.Intn(5) < 3 {
				wantAdd(t, x, filter, client, p.add(filter, client))
			} else {
				wantRemove(t, x, filter, client, p.remove(filter, client))
			}
			wantSize(t, x, len(p), p.nodes())
			if step%20 == 0 {
				wantPlain(t, x, p, names, clients)
			}
		}
		for h := range p {
			wantRemove(t, x, h.Filter, h.Client, true)
		}
		wantPlain(t, x, plain{}, names, clients)
	}
}

// TestP9_5Longest has filters of as many bytes, and of as many levels, as there can be.
func TestP9_5Longest(t *testing.T) {
	slashes := strings.Repeat("/", 65535)
	pluses := strings.Repeat("+/", 32767) + "+"
	long := strings.Repeat("a", 65535)
	x := New()
	for i, c := range []struct {
		filter string
		levels int
	}{{slashes, 65536}, {pluses, 32768}, {long, 1}, {slashes[1:] + "#", 1}, {long[2:] + "/#", 2}} {
		before := x.Nodes()
		wantAdd(t, x, c.filter, string(rune('a'+i)), true)
		wantSize(t, x, i+1, before+c.levels)
		wantAdd(t, x, c.filter+"a", "z", false)
		wantRemove(t, x, c.filter+"a", string(rune('a'+i)), false)
		wantSize(t, x, i+1, before+c.levels)
		wantOf(t, x, string(rune('a'+i)), c.filter)
	}
	wantMatch(t, x, slashes, "a", "d")
	wantMatch(t, x, slashes[1:], "d")
	wantMatch(t, x, slashes[2:], "d")
	wantMatch(t, x, slashes[3:])
	wantMatch(t, x, slashes+"/")
	wantMatch(t, x, slashes[:32767], "b")
	wantMatch(t, x, "a"+slashes[:32767], "b")
	wantMatch(t, x, "$"+slashes[:32767])
	wantMatch(t, x, long, "c")
	wantMatch(t, x, long[2:], "e")
	wantMatch(t, x, long[2:]+"/a", "e")
	wantMatch(t, x, long[1:])
	wantAll(t, x, hint(pluses, "b"), hint(slashes[1:]+"#", "d"), hint(slashes, "a"), hint(long[2:]+"/#", "e"), hint(long, "c"))
	for _, h := range x.All() {
		wantRemove(t, x, h.Filter, h.Client, true)
	}
	wantPlain(t, x, plain{}, []string{slashes, long}, []string{"a", "b"})
}

// TestP9_5Many has many filters along one branch, with a wildcard at each of its levels.
func TestP9_5Many(t *testing.T) {
	const many = 1000
	x := New()
	filter := strings.Repeat("+/", many)
	for i := range many {
		wantAdd(t, x, filter[:2*i]+"a", "x", true)
		wantAdd(t, x, filter[:2*i]+"#", "y", true)
	}
	wantSize(t, x, 2*many, 1+(many-1)+2*many)
	wantMatch(t, x, strings.Repeat("a/", many-1)+"a", "x", "y")
	wantMatch(t, x, strings.Repeat("b/", many-1)+"b", "y")
	wantMatch(t, x, "$"+strings.Repeat("a/", many-1)+"a")
	for i := range many {
		wantRemove(t, x, filter[:2*i]+"a", "x", true)
		wantRemove(t, x, filter[:2*i]+"#", "y", true)
	}
	wantSize(t, x, 0, 1)
}
