package keep

import (
	"fmt"
	"math/rand"
	"slices"
	"strings"
	"testing"

	"relayhouse/api"
	"relayhouse/topic"
)

// longest is a topic name of as many bytes as there can be.
var longest = strings.Repeat("a", 65535)

// noNames are strings that are no topic names: some are topic filters, some are not even that.
var noNames = []string{
	"", "+", "#", "a/+", "+/a", "a/#", "/#", "+/+", "$s/#", "a+", "+a", "a#", "#/a", "a/#/b", "a/b+",
	"\x00", "a\x00", "a/\x00", "\xff", "a/\xff", "\xc3", "a/\xc3", "\xed\xa0\x80", "\xc0\xaf", "\xf4\x90\x80\x80",
	longest + "a", strings.Repeat("/", 65536),
}

// noFilters are strings that are no topic filters. Where one is cut at its slashes, its levels may be those of a filter.
var noFilters = []string{
	"", "a+", "+a", "++", "a#", "#a", "##", "+#", "#/", "#/a", "#/#", "#/+", "a/#/b", "a/b#", "a/#/", "$#", "\x00", "a\x00", "a/\x00", "+/\x00", "\xff", "a/\xff", "a/\xc3",
	longest + "a", strings.Repeat("/", 65536), strings.Repeat("/", 65535) + "#",
}

// ordered are topic names in their order, in which some bytes stand before the slash: levels would be in another one.
var ordered = []string{
	" ", "!", "$", "$/a", "$s", "$s/x", "-/a", "/", "//", "/a", "A", "A/b", "a", "a\x01", "a\x01/b", "a ", "a /", "a!/b", "a-/", "a.", "a.b", "a/", "a/\x01", "a//",
	"a/b", "a/b c", "a/b/c", "a/c", "a0", "a0/b", "aa", "b", "b/a", "\u00e9", "\u00e9/x", "\uffff", "\U0001f600",
}

func message(name, payload string) api.Message { return api.Message{Topic: name, Payload: payload} }

// kept is what a store tells of a message that was set: the same with Retain.
func kept(name, payload string, qos byte) api.Message {
	return api.Message{Topic: name, Payload: payload, Qos: qos, Retain: true}
}

// short keeps what a failing test tells readable.
func short(v any) string {
	s := fmt.Sprintf("%#v", v)
	return s[:min(len(s), 400)]
}

func wantSet(t *testing.T, k *Keep, m api.Message, want bool) {
	t.Helper()
	if got := k.Set(m); got != want {
		t.Errorf("Set(%s) = %t; want %t", short(m), got, want)
	}
}

func wantMay(t *testing.T, m api.Message, want bool) {
	t.Helper()
	if got := May(m); got != want {
		t.Errorf("May(%s) = %t; want %t", short(m), got, want)
	}
}

func wantGet(t *testing.T, k *Keep, name string, want api.Message) {
	t.Helper()
	if got, ok := k.Get(name); got != want || !ok {
		t.Errorf("Get(%s) = %s, %t; want %s, true", short(name), short(got), ok, short(want))
	}
}

func wantNone(t *testing.T, k *Keep, name string) {
	t.Helper()
	if got, ok := k.Get(name); got != (api.Message{}) || ok {
		t.Errorf("Get(%s) = %s, %t; want none, false", short(name), short(got), ok)
	}
}

func wantFind(t *testing.T, k *Keep, filter string, want ...api.Message) {
	t.Helper()
	if got := k.Find(filter); !slices.Equal(got, want) {
		t.Errorf("Find(%s) = %d: %s; want %d: %s", short(filter), len(got), short(got), len(want), short(want))
	}
}

// wantFound holds the payloads alone.
func wantFound(t *testing.T, k *Keep, filter string, want ...string) {
	t.Helper()
	var got []string
	for _, m := range k.Find(filter) {
		got = append(got, m.Payload)
	}
	if !slices.Equal(got, want) {
		t.Errorf("the payloads of Find(%s) = %q; want %q", short(filter), got, want)
	}
}

func wantAll(t *testing.T, k *Keep, want ...api.Message) {
	t.Helper()
	if got := k.All(); !slices.Equal(got, want) {
		t.Errorf("All() = %d: %s; want %d: %s", len(got), short(got), len(want), short(want))
	}
	if got := k.Len(); got != len(want) {
		t.Errorf("Len() = %d; want %d", got, len(want))
	}
}

func of(t *testing.T, l ...api.Message) *Keep {
	t.Helper()
	k := New()
	for _, m := range l {
		wantSet(t, k, m, true)
	}
	return k
}

// plain is a second store: all messages that were set, the last one of a topic being the one that counts.
type plain []api.Message

func (p plain) get(name string) (api.Message, bool) {
	for _, m := range slices.Backward(p) {
		if m.Topic == name {
			return kept(m.Topic, m.Payload, m.Qos), m.Payload != ""
		}
	}
	return api.Message{}, false
}

func (p plain) find(filter string) []api.Message {
	var names []string
	for _, m := range p {
		if topic.Match(filter, m.Topic) && !slices.Contains(names, m.Topic) {
			names = append(names, m.Topic)
		}
	}
	return p.of(names)
}

func (p plain) all() []api.Message {
	var names []string
	for _, m := range p {
		if !slices.Contains(names, m.Topic) {
			names = append(names, m.Topic)
		}
	}
	return p.of(names)
}

// of are the messages that topics have, in order.
func (p plain) of(names []string) []api.Message {
	slices.Sort(names)
	var l []api.Message
	for _, name := range names {
		if m, ok := p.get(name); ok {
			l = append(l, m)
		}
	}
	return l
}

// wantPlain holds all that a store tells against the second one.
func wantPlain(t *testing.T, k *Keep, p plain, names, filters []string) {
	t.Helper()
	wantAll(t, k, p.all()...)
	for _, name := range names {
		if m, ok := p.get(name); ok {
			wantGet(t, k, name, m)
		} else {
			wantNone(t, k, name)
		}
	}
	for _, filter := range filters {
		wantFind(t, k, filter, p.find(filter)...)
	}
	if t.Failed() {
		t.FailNow()
	}
}

// joined are the strings of from 1 to most of these levels.
func joined(most int, levels ...string) []string {
	all := append([]string(nil), levels...)
	last := levels
	for range most - 1 {
		var next []string
		for _, s := range last {
			for _, level := range levels {
				next = append(next, s+"/"+level)
			}
		}
		all, last = append(all, next...), next
	}
	return all
}

// fewNames are all topic names of up to three of these levels.
func fewNames() []string {
	return slices.DeleteFunc(joined(3, "", "a", "b", "$s"), func(s string) bool { return !topic.Name(s) })
}

// fewFilters are all topic filters of up to three of these levels.
func fewFilters() []string {
	return slices.DeleteFunc(joined(3, "", "a", "b", "$s", "+", "#"), func(s string) bool { return !topic.Filter(s) })
}

// full is a store in which each of the few names has a message, and all that was set.
func full(t *testing.T) (*Keep, plain) {
	t.Helper()
	var p plain
	for i, name := range fewNames() {
		p = append(p, api.Message{Topic: name, Payload: "of " + name, Qos: byte(i % 3), Retain: i%2 == 0})
	}
	return of(t, p...), p
}

// example is the store of the chapter's examples.
func example(t *testing.T) *Keep {
	t.Helper()
	return of(t, message("a/b", "1"), message("a", "2"), message("$s", "3"), message("a/b", "4"))
}

func TestP10_1Examples(t *testing.T) {
	k := example(t)
	wantSet(t, k, message("a/+", "5"), false)
	wantSet(t, k, message("a", ""), true)
	wantAll(t, k, kept("$s", "3", 0), kept("a/b", "4", 0))
	wantNone(t, k, "a")
}

func TestP10_1New(t *testing.T) {
	first, second := New(), New()
	if first == nil || second == nil {
		t.Fatalf("New() = nil")
	}
	names := append(fewNames(), noNames...)
	wantPlain(t, first, nil, names, fewFilters())
	wantSet(t, first, message("a", "1"), true)
	wantPlain(t, first, plain{message("a", "1")}, names, fewFilters())
	wantPlain(t, second, nil, names, fewFilters())
	wantPlain(t, New(), nil, names, fewFilters())
}

// TestP10_1Topics has all kinds of topics: those that are names may be kept, and no others.
func TestP10_1Topics(t *testing.T) {
	k := New()
	names := append(fewNames(), ordered...)
	for _, name := range append(names, longest, strings.Repeat("/", 65535), strings.Repeat("\u00e9", 32767)) {
		for _, payload := range []string{"x", ""} {
			wantMay(t, message(name, payload), true)
			wantSet(t, k, message(name, payload), true)
			if k.Len() != len(payload) {
				t.Fatalf("Len() = %d after Set(%s, %q)", k.Len(), short(name), payload)
			}
		}
	}
	for _, name := range noNames {
		for _, payload := range []string{"x", ""} {
			wantMay(t, message(name, payload), false)
			wantSet(t, k, message(name, payload), false)
			wantNone(t, k, name)
			wantAll(t, k)
		}
	}
}

func TestP10_1Qos(t *testing.T) {
	for qos := range 256 {
		for _, retain := range []bool{false, true} {
			for _, payload := range []string{"x", ""} {
				k := of(t, message("b", "1"))
				m := api.Message{Topic: "a", Payload: payload, Qos: byte(qos), Retain: retain}
				wantMay(t, m, qos <= 2)
				wantSet(t, k, m, qos <= 2)
				if qos <= 2 && payload != "" {
					wantAll(t, k, kept("a", "x", byte(qos)), kept("b", "1", 0))
				} else {
					wantAll(t, k, kept("b", "1", 0))
				}
			}
		}
	}
}

// TestP10_1Payloads has payloads of all kinds: no rule says what their bytes are, or how many.
func TestP10_1Payloads(t *testing.T) {
	k := New()
	for _, payload := range []string{"\x00", " ", "0", "\xff", "\xed\xa0\x80", "a\x00b", "+/#", strings.Repeat("\xff", 65535), strings.Repeat("x", 65536), strings.Repeat("y", 1<<20)} {
		wantMay(t, message("a", payload), true)
		wantSet(t, k, message("a", payload), true)
		wantGet(t, k, "a", kept("a", payload, 0))
		wantFind(t, k, "#", kept("a", payload, 0))
		wantAll(t, k, kept("a", payload, 0))
	}
}

// TestP10_1Retain sets messages with and without Retain: what is kept has it, and the rest as it was set.
func TestP10_1Retain(t *testing.T) {
	for qos := range byte(3) {
		for _, retain := range []bool{false, true} {
			k := of(t, api.Message{Topic: "a", Payload: "1", Qos: qos, Retain: retain})
			wantGet(t, k, "a", kept("a", "1", qos))
			wantFind(t, k, "a", kept("a", "1", qos))
			wantAll(t, k, kept("a", "1", qos))
			wantSet(t, k, api.Message{Topic: "a", Qos: qos, Retain: retain}, true)
			wantAll(t, k)
		}
	}
}

// TestP10_1EmptyPayload takes messages away, those that are there and those that are not.
func TestP10_1EmptyPayload(t *testing.T) {
	k, p := full(t)
	for i, name := range fewNames() {
		m := api.Message{Topic: name, Qos: byte(i % 3), Retain: i%2 == 0}
		p = append(p, m)
		for range 2 {
			wantSet(t, k, m, true)
			wantPlain(t, k, p, []string{name, "a", "$s/a/b"}, []string{"#", "+/a", "$s/#", name})
		}
	}
	wantAll(t, k)
	for _, name := range append(fewNames(), "c", "c/d", "$t") {
		wantSet(t, New(), message(name, ""), true)
		wantSet(t, k, message(name, ""), true)
		wantNone(t, k, name)
		wantAll(t, k)
	}
}

// TestP10_1NotValid sets what is not valid where messages are kept: all of them stay as they are.
func TestP10_1NotValid(t *testing.T) {
	k, p := full(t)
	for _, payload := range []string{"x", ""} {
		for _, retain := range []bool{false, true} {
			for _, name := range noNames {
				for _, qos := range []byte{0, 1, 2, 3, 255} {
					wantSet(t, k, api.Message{Topic: name, Payload: payload, Qos: qos, Retain: retain}, false)
				}
				wantNone(t, k, name)
			}
			for _, qos := range []byte{3, 4, 127, 128, 255} {
				for _, name := range fewNames() {
					wantSet(t, k, api.Message{Topic: name, Payload: payload, Qos: qos, Retain: retain}, false)
				}
			}
			wantPlain(t, k, p, fewNames(), fewFilters())
		}
	}
}

func TestP10_2Examples(t *testing.T) {
	k := example(t)
	wantAll(t, k, kept("$s", "3", 0), kept("a", "2", 0), kept("a/b", "4", 0))
	wantFound(t, k, "a/#", "2", "4")
	wantFound(t, k, "#", "2", "4")
	wantFound(t, k, "+", "2")
	wantFound(t, k, "a/#/b")
}

// TestP10_2Get asks for what is there, for what is like it, and for what is no topic name.
func TestP10_2Get(t *testing.T) {
	k := of(t, message("a/b", "1"), message("a", "2"), message("$s/x", "3"), message("/", "4"), message(longest, "5"))
	wantGet(t, k, "a/b", kept("a/b", "1", 0))
	wantGet(t, k, "a", kept("a", "2", 0))
	wantGet(t, k, "$s/x", kept("$s/x", "3", 0))
	wantGet(t, k, "/", kept("/", "4", 0))
	wantGet(t, k, longest, kept(longest, "5", 0))
	for _, name := range append([]string{"A", "a/", "/a", "a/b/", "a/B", "a/b/c", "b", "aa", "$s", "s/x", "//", " ", "a ", longest[1:]}, noNames...) {
		wantNone(t, k, name)
	}
}

// TestP10_2FindEachAlone has one message in a store: a filter finds it if it matches its topic.
func TestP10_2FindEachAlone(t *testing.T) {
	filters := fewFilters()
	for _, name := range fewNames() {
		k := of(t, message(name, "1"))
		for _, filter := range filters {
			if topic.Match(filter, name) {
				wantFind(t, k, filter, kept(name, "1", 0))
			} else {
				wantFind(t, k, filter)
			}
		}
	}
}

func TestP10_2FindAmongAll(t *testing.T) {
	k, p := full(t)
	wantPlain(t, k, p, fewNames(), fewFilters())
}

func TestP10_2FindByNoFilter(t *testing.T) {
	k, _ := full(t)
	for _, filter := range noFilters {
		wantFind(t, k, filter)
		wantFind(t, New(), filter)
	}
}

// TestP10_2FindHidden has topics that begin with $: no leading wildcard finds them.
func TestP10_2FindHidden(t *testing.T) {
	k := of(t, message("$", "1"), message("$/a", "2"), message("$s", "3"), message("$s/a", "4"), message("/$s", "5"), message("a/$s", "6"), message("s$", "7"))
	wantFound(t, k, "#", "5", "6", "7")
	wantFound(t, k, "+", "7")
	wantFound(t, k, "+/a")
	wantFound(t, k, "+/+", "5", "6")
	wantFound(t, k, "+/#", "5", "6", "7")
	wantFound(t, k, "+/$s", "5", "6")
	wantFound(t, k, "$/#", "1", "2")
	wantFound(t, k, "$/+", "2")
	wantFound(t, k, "$s/#", "3", "4")
	wantFound(t, k, "$s/+", "4")
	wantFound(t, k, "$", "1")
	wantFound(t, k, "$s", "3")
	wantFound(t, k, "/+", "5")
}

func TestP10_2Order(t *testing.T) {
	if !slices.IsSorted(ordered) {
		t.Fatalf("the names are not in order: %q", ordered)
	}
	var want, found []api.Message
	for i, name := range ordered {
		m := kept(name, fmt.Sprint(len(ordered)-i), byte(i%3))
		want = append(want, m)
		if topic.Match("#", name) {
			found = append(found, m)
		}
	}
	r := rand.New(rand.NewSource(102))
	shuffled := slices.Clone(want)
	for range 20 {
		r.Shuffle(len(shuffled), func(i, j int) { shuffled[i], shuffled[j] = shuffled[j], shuffled[i] })
		k := of(t, shuffled...)
		for range 5 {
			wantAll(t, k, want...)
			wantFind(t, k, "#", found...)
		}
	}
}

func TestP10_2Len(t *testing.T) {
	k := New()
	names := fewNames()
	for i, name := range names {
		for _, payload := range []string{"1", "22", "1"} {
			wantSet(t, k, message(name, payload), true)
			if k.Len() != i+1 {
				t.Fatalf("Len() = %d with messages of %d topics", k.Len(), i+1)
			}
		}
	}
	for i, name := range names {
		for range 2 {
			wantSet(t, k, message(name, ""), true)
			if k.Len() != len(names)-i-1 {
				t.Fatalf("Len() = %d with messages of %d topics", k.Len(), len(names)-i-1)
			}
		}
	}
}

// TestP10_2Longest has topics of as many bytes, and of as many levels, as there can be.
func TestP10_2Longest(t *testing.T) {
	slashes := strings.Repeat("/", 65535)
	k := of(t, message(longest, "1"), message(slashes, "2"), message(longest[2:]+"/b", "3"), message(slashes[1:]+"b", "4"))
	wantAll(t, k, kept(slashes, "2", 0), kept(slashes[1:]+"b", "4", 0), kept(longest[2:]+"/b", "3", 0), kept(longest, "1", 0))
	wantFound(t, k, "#", "2", "4", "3", "1")
	wantFound(t, k, "+", "1")
	wantFound(t, k, "+/+", "3")
	wantFound(t, k, "/#", "2", "4")
	wantFound(t, k, longest, "1")
	wantFound(t, k, slashes, "2")
	wantFound(t, k, slashes[1:]+"#", "2", "4")
	wantFound(t, k, slashes[1:]+"+", "4")
	wantFound(t, k, "+"+slashes[1:])
	wantFound(t, k, slashes[2:]+"+")
	wantFound(t, k, longest[2:]+"/#", "3")
	wantFound(t, k, longest[1:])
}

// TestP10_2NewMemory writes over answers, and beyond them: the store and other answers stay as they are.
func TestP10_2NewMemory(t *testing.T) {
	k, p := full(t)
	for range 2 {
		found, all := k.Find("a/#"), k.All()
		otherFound, otherAll := k.Find("a/#"), k.All()
		for i := range found {
			found[i] = message("?", "?")
		}
		for i := range all {
			all[i] = message("?", "?")
		}
		_, _ = append(found[:1], message("!", "!")), append(all[:1], message("!", "!"))
		if !slices.Equal(otherFound, p.find("a/#")) || !slices.Equal(otherAll, p.all()) {
			t.Errorf("other answers became %s, %s", short(otherFound), short(otherAll))
		}
		wantPlain(t, k, p, fewNames(), fewFilters())
	}
}

// TestP10_2AnswersStay changes the store: what it told before stays as it was.
func TestP10_2AnswersStay(t *testing.T) {
	k, p := full(t)
	found, all := k.Find("a/#"), k.All()
	for i, name := range fewNames() {
		wantSet(t, k, message(name, strings.Repeat("x", i%3)), true)
	}
	if !slices.Equal(found, p.find("a/#")) || !slices.Equal(all, p.all()) {
		t.Errorf("earlier answers became %s, %s", short(found), short(all))
	}
}

func TestP10_3NoStore(t *testing.T) {
	var none *Keep
	for _, name := range append(fewNames(), noNames...) {
		for _, payload := range []string{"x", ""} {
			for _, qos := range []byte{0, 2, 3} {
				wantSet(t, none, api.Message{Topic: name, Payload: payload, Qos: qos, Retain: true}, false)
				wantSet(t, none, api.Message{Topic: name, Payload: payload, Qos: qos}, false)
			}
		}
		wantNone(t, none, name)
	}
	for _, filter := range append(fewFilters(), noFilters...) {
		wantFind(t, none, filter)
	}
	wantAll(t, none)
}

// TestP10_4Last sets messages of one topic, of which each differs from the one before it in one thing at least.
func TestP10_4Last(t *testing.T) {
	k := of(t, message("a", "0"), message("a/b/c", "0"))
	for _, m := range []api.Message{
		message("a/b", "1"), message("a/b", "2"), message("a/b", "1"), {Topic: "a/b", Payload: "1", Qos: 2}, {Topic: "a/b", Payload: "1", Qos: 1, Retain: true}, message("a/b", "1"),
		message("a/b", ""), message("a/b", ""), {Topic: "a/b", Payload: "longer than what was before", Qos: 2}, {Topic: "a/b", Retain: true, Qos: 1}, message("a/b", "3"),
	} {
		wantSet(t, k, m, true)
		want := []api.Message{kept("a", "0", 0), kept("a/b", m.Payload, m.Qos), kept("a/b/c", "0", 0)}
		if m.Payload == "" {
			want = slices.Delete(want, 1, 2)
			wantNone(t, k, "a/b")
		} else {
			wantGet(t, k, "a/b", want[1])
		}
		wantAll(t, k, want...)
		wantFind(t, k, "a/#", want...)
	}
}

func TestP10_4CoversFindsAll(t *testing.T) {
	k, _ := full(t)
	filters := slices.DeleteFunc(joined(2, "", "a", "b", "$s", "+", "#"), func(s string) bool { return !topic.Filter(s) })
	filters = append(filters, "a/+/#", "a/+/b", "a/b/+", "+/+/+", "+/+/b", "$s/+/+", "$s/+/#", "/+/#", "a/b/$s")
	for _, wide := range filters {
		found := k.Find(wide)
		for _, narrow := range filters {
			if !topic.Covers(wide, narrow) {
				continue
			}
			for _, m := range k.Find(narrow) {
				if !slices.Contains(found, m) {
					t.Errorf("%q covers %q, yet it does not find %s", wide, narrow, short(m))
				}
			}
		}
	}
}

// TestP10_4OtherTopics sets each topic in turn: all others stay as they are.
func TestP10_4OtherTopics(t *testing.T) {
	names := joined(2, "", "a", "b", "$s")[1:]
	for _, name := range names {
		for _, payload := range []string{"new", ""} {
			var p plain
			for i, other := range names {
				p = append(p, api.Message{Topic: other, Payload: "of " + other, Qos: byte(i % 3)})
			}
			k := of(t, p...)
			m := message(name, payload)
			wantSet(t, k, m, true)
			wantPlain(t, k, append(p, m), names, []string{"#", "+", "+/+", "a/#", "$s/#", name})
		}
	}
}

// TestP10_4AnyCalls sets messages at random, so that those of a topic come and go many times.
func TestP10_4AnyCalls(t *testing.T) {
	r := rand.New(rand.NewSource(104))
	topics := append(joined(2, "", "a", "b", "$s"), "a/b/c", "a+", "+", "\xff", "a/#")
	filters := append(joined(2, "", "a", "b", "$s", "+", "#"), "a/b/#", "+/+/+", "\xff")
	payloads := []string{"", "", "1", "2", "\x00", "longer"}
	for range 20 {
		k, p := New(), plain(nil)
		for step := range 300 {
			m := api.Message{Topic: topics[r.Intn(len(topics))], Payload: payloads[r.Intn(len(payloads))], Qos: byte(r.Intn(4)), Retain: r.Intn(2) == 0}
			valid := topic.Name(m.Topic) && m.Qos < 3
			wantMay(t, m, valid)
			wantSet(t, k, m, valid)
			if valid {
				p = append(p, m)
			}
			if k.Len() != len(p.all()) {
				t.Fatalf("Len() = %d; want %d", k.Len(), len(p.all()))
			}
			if step%20 == 0 {
				wantPlain(t, k, p, topics, filters)
			}
		}
		wantPlain(t, k, p, topics, filters)
	}
}
