package packet

import (
	"fmt"
	"reflect"
	"regexp"
	"strings"
	"testing"

	"relayhouse/api"
)

// idOnly are the types whose one field is Id.
var idOnly = []byte{api.Puback, api.Pubrec, api.Pubrel, api.Pubcomp, api.Unsuback}

// bare are the types without fields.
var bare = []byte{api.Pingreq, api.Pingresp, api.Disconnect}

// names are topic names; each is a filter, too.
var names = []string{"a", "/", "//", "a/b", "/a", "a/", "$SYS/x", " ", "\u00e9", "\x7f", "\ufeff", "a b/c"}

// wild are topic filters that are no names.
var wild = []string{"+", "#", "+/", "/+", "/#", "+/#", "+/+", "a/+", "a/#", "+/a", "a/+/b/#", "//+//#", "$SYS/#"}

// noFilters are strings that are neither.
var noFilters = []string{
	"", "a+", "+a", "++", "##", "#a", "a#", "+#", "#+", "#/", "#/a", "a/#/b", "#/#", "a/+b", "a+/b", "a/b#",
	"a/#/", "+/#/+", "/a+/", "\x00", "a\x00", "\xc3", "a/\xff", "\xed\xa0\x80", "+/\xff", "\xff/#",
}

// full are valid packets in which every field that the type has is other than zero, as far as it can be.
func full() []api.Packet {
	subs := func(q byte) []api.Sub { return []api.Sub{{Filter: "a/+", Qos: q}, {Filter: "#", Qos: q}} }
	return []api.Packet{
		{Type: api.Connect, Level: 4, Clean: true, Keep: 9, Client: "c", HasWill: true,
			Will:    api.Message{Topic: "w", Payload: "p", Qos: 2, Retain: true},
			HasUser: true, User: "u", HasPass: true, Pass: "\xff"},
		{Type: api.Connack, Present: true},
		{Type: api.Connack, Code: 5},
		{Type: api.Publish, Topic: "a/b", Payload: "\xff", Qos: 1, Retain: true, Dup: true, Id: 7},
		{Type: api.Puback, Id: 1}, {Type: api.Pubrec, Id: 2}, {Type: api.Pubrel, Id: 3}, {Type: api.Pubcomp, Id: 4},
		{Type: api.Subscribe, Id: 5, Subs: subs(2)},
		{Type: api.Suback, Id: 6, Codes: "\x00\x01\x02\x80"},
		{Type: api.Unsubscribe, Id: 7, Subs: subs(0)},
		{Type: api.Unsuback, Id: 0xffff},
		{Type: api.Pingreq}, {Type: api.Pingresp}, {Type: api.Disconnect},
	}
}

// fieldsOf names the fields that a type has, as the chapter's table lists them.
func fieldsOf(kind byte) string {
	switch kind {
	case api.Connect:
		return " Level Clean Keep Client HasWill Will HasUser User HasPass Pass "
	case api.Connack:
		return " Present Code "
	case api.Publish:
		return " Topic Payload Qos Retain Dup Id "
	case api.Subscribe, api.Unsubscribe:
		return " Id Subs "
	case api.Suback:
		return " Id Codes "
	case api.Pingreq, api.Pingresp, api.Disconnect:
		return ""
	}
	return " Id "
}

func wantRest(t *testing.T, p api.Packet, n int) {
	t.Helper()
	if got := Rest(p); got != n {
		t.Errorf("Rest(%s) = %d; want %d", short(p), got, n)
	}
	if got := Right(p); got != (n >= 0) {
		t.Errorf("Right(%s) = %t; want %t", short(p), got, n >= 0)
	}
}

// short keeps what a failing test tells readable: the packet with its long fields cut.
func short(p api.Packet) string {
	for _, s := range []*string{&p.Topic, &p.Payload, &p.Client, &p.Will.Topic, &p.Will.Payload, &p.User, &p.Pass, &p.Codes} {
		*s = (*s)[:min(len(*s), 40)]
	}
	text := fmt.Sprintf("%#v", p)
	return text[:min(len(text), 500)]
}

func connect(change func(p *api.Packet)) api.Packet {
	p := api.Packet{Type: api.Connect, Level: 4, Client: "c"}
	change(&p)
	return p
}

func subscribe(l ...api.Sub) api.Packet {
	return api.Packet{Type: api.Subscribe, Id: 1, Subs: l}
}

func unsubscribe(l ...api.Sub) api.Packet {
	return api.Packet{Type: api.Unsubscribe, Id: 1, Subs: l}
}

func TestP3_1Examples(t *testing.T) {
	c := api.Packet{Type: api.Connect, Level: 4, Client: "c"}
	wantRest(t, c, 13)
	wantRest(t, connect(func(p *api.Packet) { p.Level = 3 }), -1)
	wantRest(t, connect(func(p *api.Packet) { p.Pass = "x" }), -1)
	wantRest(t, connect(func(p *api.Packet) { p.HasPass, p.Pass = true, "x" }), -1)
	wantRest(t, api.Packet{Type: api.Publish, Topic: "a/b", Payload: "hi"}, 7)
	wantRest(t, api.Packet{Type: api.Publish, Topic: "a/b", Payload: "hi", Qos: 1}, -1)
	wantRest(t, api.Packet{Type: api.Publish, Topic: "a/b", Payload: "hi", Qos: 1, Id: 7}, 9)
	wantRest(t, api.Packet{Type: api.Publish, Topic: "a/+"}, -1)
	wantRest(t, subscribe(api.Sub{Filter: "a/+"}), 8)
	wantRest(t, subscribe(api.Sub{Filter: "a+"}), -1)
	wantRest(t, api.Packet{Type: api.Suback, Id: 1, Codes: "\x00\x80"}, 4)
	wantRest(t, api.Packet{Type: api.Suback, Id: 1, Codes: "\x03"}, -1)
	wantRest(t, api.Packet{Type: api.Puback}, -1)
}

func TestP3_1Full(t *testing.T) {
	rests := []int{10 + 3 + 3 + 3 + 3 + 3, 2, 2, 2 + 3 + 2 + 1, 2, 2, 2, 2, 2 + 6 + 4, 6, 2 + 5 + 3, 2, 0, 0, 0}
	for i, p := range full() {
		wantRest(t, p, rests[i])
	}
}

func TestP3_1Types(t *testing.T) {
	for i := range 256 {
		kind := byte(i)
		wantRest(t, api.Packet{Type: kind}, restOfZero(kind))
		if kind == 0 || kind > api.Disconnect {
			for _, p := range full() {
				p.Type = kind
				wantRest(t, p, -1)
			}
		}
	}
}

// restOfZero is the rest length of a packet that has nothing but its type.
func restOfZero(kind byte) int {
	switch {
	case kind == api.Connack:
		return 2
	case strings.IndexByte(string(bare), kind) >= 0:
		return 0
	}
	return -1
}

func TestP3_1Ids(t *testing.T) {
	for _, kind := range idOnly {
		wantRest(t, api.Packet{Type: kind}, -1)
		for _, id := range []uint16{1, 2, 255, 256, 32768, 65535} {
			wantRest(t, api.Packet{Type: kind, Id: id}, 2)
		}
	}
	for _, p := range full() {
		if !strings.Contains(fieldsOf(p.Type), " Id ") {
			continue
		}
		p.Id = 0
		wantRest(t, p, -1)
		p.Id = 65535
		if !Right(p) {
			t.Errorf("%s is valid", short(p))
		}
	}
}

func TestP3_1Connect(t *testing.T) {
	wantRest(t, api.Packet{Type: api.Connect, Level: 4}, 12)
	wantRest(t, connect(func(p *api.Packet) { p.Clean, p.Keep = true, 65535 }), 13)
	for level := range 256 {
		n := -1
		if level == 4 {
			n = 13
		}
		wantRest(t, connect(func(p *api.Packet) { p.Level = byte(level) }), n)
	}
	for _, client := range []string{"", "+", "a/#", "\u00e9", strings.Repeat("\u20ac", 21845)} {
		wantRest(t, connect(func(p *api.Packet) { p.Client = client }), 12+len(client))
	}
	for _, client := range []string{"\x00", "\xff", "a\xc3", strings.Repeat("x", 65536)} {
		wantRest(t, connect(func(p *api.Packet) { p.Client = client }), -1)
	}
}

func TestP3_1Will(t *testing.T) {
	will := func(m api.Message) api.Packet {
		return connect(func(p *api.Packet) { p.HasWill, p.Will = true, m })
	}
	for _, s := range names {
		wantRest(t, will(api.Message{Topic: s}), 13+2+len(s)+2)
		wantRest(t, will(api.Message{Topic: s, Payload: "\x00\xff", Qos: 2, Retain: true}), 13+2+len(s)+4)
	}
	for _, s := range append(append([]string{}, wild...), noFilters...) {
		wantRest(t, will(api.Message{Topic: s}), -1)
	}
	for qos := range 256 {
		n := -1
		if qos <= 2 {
			n = 13 + 3 + 2
		}
		wantRest(t, will(api.Message{Topic: "a", Qos: byte(qos)}), n)
	}
	for _, size := range []int{0, 1, 65534, 65535} {
		wantRest(t, will(api.Message{Topic: "a", Payload: strings.Repeat("\xff", size)}), 13+3+2+size)
	}
	wantRest(t, will(api.Message{Topic: "a", Payload: strings.Repeat("\xff", 65536)}), -1)
	wantRest(t, will(api.Message{}), -1)
	wantRest(t, will(api.Message{Topic: strings.Repeat("x", 65535)}), 13+2+65535+2)
	wantRest(t, will(api.Message{Topic: strings.Repeat("x", 65536)}), -1)
}

func TestP3_1WillOnlyIfItHasOne(t *testing.T) {
	for _, m := range []api.Message{{Topic: "a"}, {Payload: "p"}, {Qos: 1}, {Retain: true}, {Topic: "a", Payload: "p", Qos: 1, Retain: true}} {
		wantRest(t, connect(func(p *api.Packet) { p.Will = m }), -1)
	}
}

func TestP3_1UserAndPass(t *testing.T) {
	login := func(hasUser bool, user string, hasPass bool, pass string) api.Packet {
		return connect(func(p *api.Packet) { p.HasUser, p.User, p.HasPass, p.Pass = hasUser, user, hasPass, pass })
	}
	wantRest(t, login(true, "", false, ""), 15)
	wantRest(t, login(true, "ab", false, ""), 17)
	wantRest(t, login(true, "", true, ""), 17)
	wantRest(t, login(true, "ab", true, "\x00\xff\xc3"), 22)
	for _, hasUser := range []bool{false, true} {
		for _, user := range []string{"", "u"} {
			for _, hasPass := range []bool{false, true} {
				for _, pass := range []string{"", "p"} {
					right := (hasUser || user == "") && (hasPass || pass == "") && (hasUser || !hasPass)
					if got := Right(login(hasUser, user, hasPass, pass)); got != right {
						t.Errorf("user %t %q, pass %t %q: %t; want %t", hasUser, user, hasPass, pass, got, right)
					}
				}
			}
		}
	}
	long := strings.Repeat("x", 65535)
	wantRest(t, login(true, long, true, long), 13+2+65535+2+65535)
	wantRest(t, login(true, long+"x", true, long), -1)
	wantRest(t, login(true, long, true, long+"x"), -1)
	for _, s := range []string{"\x00", "\xff", "a\xc3"} {
		wantRest(t, login(true, s, false, ""), -1)
		wantRest(t, login(true, "", true, s), 17+len(s))
	}
}

func TestP3_1Connack(t *testing.T) {
	for code := range 256 {
		n := -1
		if code <= 5 {
			n = 2
		}
		wantRest(t, api.Packet{Type: api.Connack, Code: byte(code)}, n)
		if code > 0 {
			n = -1
		}
		wantRest(t, api.Packet{Type: api.Connack, Present: true, Code: byte(code)}, n)
	}
}

func TestP3_1Publish(t *testing.T) {
	for _, s := range names {
		wantRest(t, api.Packet{Type: api.Publish, Topic: s}, 2+len(s))
		wantRest(t, api.Packet{Type: api.Publish, Topic: s, Retain: true, Payload: "\x00\xff"}, 4+len(s))
		wantRest(t, api.Packet{Type: api.Publish, Topic: s, Qos: 2, Id: 65535, Dup: true}, 4+len(s))
	}
	for _, s := range append(append([]string{}, wild...), noFilters...) {
		wantRest(t, api.Packet{Type: api.Publish, Topic: s}, -1)
		wantRest(t, api.Packet{Type: api.Publish, Topic: s, Qos: 1, Id: 1}, -1)
	}
	for qos := range 256 {
		for id := range uint16(2) {
			for _, dup := range []bool{false, true} {
				p, n := api.Packet{Type: api.Publish, Topic: "a", Qos: byte(qos), Id: id, Dup: dup}, -1
				if qos == 0 && id == 0 && !dup {
					n = 3
				}
				if (qos == 1 || qos == 2) && id == 1 {
					n = 5
				}
				wantRest(t, p, n)
			}
		}
	}
	wantRest(t, api.Packet{Type: api.Publish, Topic: "a", Payload: strings.Repeat("\xff", 65536)}, 3+65536)
}

func TestP3_1Subscribe(t *testing.T) {
	wantRest(t, subscribe(), -1)
	wantRest(t, subscribe([]api.Sub{}...), -1)
	for _, s := range append(append([]string{}, names...), wild...) {
		wantRest(t, subscribe(api.Sub{Filter: s}), 2+3+len(s))
		wantRest(t, subscribe(api.Sub{Filter: s, Qos: 2}, api.Sub{Filter: "#"}), 2+3+len(s)+4)
	}
	for _, s := range noFilters {
		wantRest(t, subscribe(api.Sub{Filter: s}), -1)
		wantRest(t, subscribe(api.Sub{Filter: "a"}, api.Sub{Filter: s}), -1)
		wantRest(t, subscribe(api.Sub{Filter: s}, api.Sub{Filter: "a"}), -1)
	}
	for qos := range 256 {
		n := -1
		if qos <= 2 {
			n = 6
		}
		wantRest(t, subscribe(api.Sub{Filter: "a", Qos: byte(qos)}), n)
		if n > 0 {
			n = 10
		}
		wantRest(t, subscribe(api.Sub{Filter: "a"}, api.Sub{Filter: "b", Qos: byte(qos)}), n)
		wantRest(t, subscribe(api.Sub{Filter: "a", Qos: byte(qos)}, api.Sub{Filter: "b"}), n)
	}
	wantRest(t, subscribe(make([]api.Sub, 3)...), -1)
	wantRest(t, subscribe(api.Sub{Filter: "a"}, api.Sub{Filter: "a"}), 10)
}

func TestP3_1Unsubscribe(t *testing.T) {
	wantRest(t, unsubscribe(), -1)
	wantRest(t, unsubscribe([]api.Sub{}...), -1)
	for _, s := range append(append([]string{}, names...), wild...) {
		wantRest(t, unsubscribe(api.Sub{Filter: s}), 2+2+len(s))
		wantRest(t, unsubscribe(api.Sub{Filter: s}, api.Sub{Filter: "#"}), 2+2+len(s)+3)
	}
	for _, s := range noFilters {
		wantRest(t, unsubscribe(api.Sub{Filter: s}), -1)
		wantRest(t, unsubscribe(api.Sub{Filter: "a"}, api.Sub{Filter: s}), -1)
		wantRest(t, unsubscribe(api.Sub{Filter: s}, api.Sub{Filter: "a"}), -1)
	}
	for qos := 1; qos < 256; qos++ {
		wantRest(t, unsubscribe(api.Sub{Filter: "a", Qos: byte(qos)}), -1)
		wantRest(t, unsubscribe(api.Sub{Filter: "a"}, api.Sub{Filter: "b", Qos: byte(qos)}), -1)
	}
}

func TestP3_1Suback(t *testing.T) {
	suback := func(codes string) api.Packet { return api.Packet{Type: api.Suback, Id: 1, Codes: codes} }
	wantRest(t, suback(""), -1)
	for code := range 256 {
		c := string([]byte{byte(code)})
		right := code <= 2 || code == 128
		for _, s := range []string{c, c + "\x00", "\x80" + c, "\x01" + c + "\x02"} {
			n := -1
			if right {
				n = 2 + len(s)
			}
			wantRest(t, suback(s), n)
		}
	}
	wantRest(t, suback(strings.Repeat("\x02", 70000)), 70002)
}

// filterForm is what the chapter's words ask of a filter's levels.
var filterForm = regexp.MustCompile(`^(([^/+#]*|\+)/)*([^/+#]*|\+|#)$`)

// TestP3_1AllShortNamesAndFilters holds names and filters against the words of the chapter, for all strings of at most seven of the bytes that matter.
func TestP3_1AllShortNamesAndFilters(t *testing.T) {
	level := []string{""}
	for size := 0; size <= 7; size++ {
		var next []string
		for _, s := range level {
			wantTopic(t, s, s != "" && !strings.ContainsAny(s, "+#"), s != "" && filterForm.MatchString(s))
			for _, c := range []string{"a", "/", "+", "#"} {
				next = append(next, s+c)
			}
		}
		level = next
	}
}

// wantTopic holds a string in all places in which a packet has a name or a filter.
func wantTopic(t *testing.T, s string, name, filter bool) {
	t.Helper()
	publish := Right(api.Packet{Type: api.Publish, Topic: s})
	will := Right(connect(func(p *api.Packet) { p.HasWill, p.Will.Topic = true, s }))
	if publish != name || will != name {
		t.Errorf("%.40q: a name in a publish %t, in a will %t; want %t", s, publish, will, name)
	}
	sub, unsub := Right(subscribe(api.Sub{Filter: s})), Right(unsubscribe(api.Sub{Filter: s}))
	if sub != filter || unsub != filter {
		t.Errorf("%.40q: a filter in a subscribe %t, in an unsubscribe %t; want %t", s, sub, unsub, filter)
	}
}

func TestP3_1LongNamesAndFilters(t *testing.T) {
	for _, s := range []string{"x", "/", "a/"} {
		long := strings.Repeat(s, 65536/len(s))
		wantTopic(t, long[:65535], true, true)
		wantTopic(t, long, false, false)
		wantTopic(t, long[:65533]+"/+", false, true)
		wantTopic(t, long[:65533]+"/#", false, true)
		wantTopic(t, long[:65534]+"/#", false, false)
	}
	wantTopic(t, strings.Repeat("+/", 32767)+"#", false, true)
	wantTopic(t, strings.Repeat("+/", 32767)+"+", false, true)
	wantTopic(t, strings.Repeat("+/", 32767)+"+/#", false, false)
}

func TestP3_1LongestRest(t *testing.T) {
	big := strings.Repeat("\x00", api.MaxLen)
	publish := func(size int) api.Packet { return api.Packet{Type: api.Publish, Topic: "a", Payload: big[:size]} }
	wantRest(t, publish(api.MaxLen-4), api.MaxLen-1)
	wantRest(t, publish(api.MaxLen-3), api.MaxLen)
	wantRest(t, publish(api.MaxLen-2), -1)
	wantRest(t, publish(api.MaxLen), -1)
	p := publish(api.MaxLen - 5)
	p.Qos, p.Id = 1, 1
	wantRest(t, p, api.MaxLen)
	p.Payload = big[:api.MaxLen-4]
	wantRest(t, p, -1)
	wantRest(t, api.Packet{Type: api.Suback, Id: 1, Codes: big[:api.MaxLen-2]}, api.MaxLen)
	wantRest(t, api.Packet{Type: api.Suback, Id: 1, Codes: big[:api.MaxLen-1]}, -1)
}

func TestP3_1LongestRestOfSubs(t *testing.T) {
	long := strings.Repeat("x", 65535)
	for _, extra := range []int{3, 2} {
		count, last := (api.MaxLen-2)/(65535+extra), (api.MaxLen-2)%(65535+extra)-extra
		l := make([]api.Sub, count+1)
		for i := range l {
			l[i].Filter = long
		}
		p := subscribe(l...)
		if extra == 2 {
			p = unsubscribe(l...)
		}
		l[count].Filter = long[:last]
		wantRest(t, p, api.MaxLen)
		l[count].Filter = long[:last+1]
		wantRest(t, p, -1)
	}
}

// otherValues are values of a field's kind, none of them its zero value, and no two the same.
func otherValues(v reflect.Value) []reflect.Value {
	var all []any
	switch v.Interface().(type) {
	case bool:
		all = []any{true}
	case byte:
		all = []any{byte(1), byte(2), byte(4), byte(255)}
	case uint16:
		all = []any{uint16(1), uint16(256), uint16(65535)}
	case string:
		all = []any{"a", "b", "a/b", "\x00", "\xff", " "}
	case api.Message:
		all = []any{
			api.Message{Topic: "a"}, api.Message{Payload: "a"}, api.Message{Qos: 1}, api.Message{Retain: true},
			api.Message{Topic: "b"}, api.Message{Topic: "a", Payload: "a", Qos: 1, Retain: true},
		}
	case []api.Sub:
		all = []any{
			make([]api.Sub, 1), make([]api.Sub, 2), []api.Sub{{Filter: "a"}}, []api.Sub{{Filter: "a", Qos: 1}},
			[]api.Sub{{Qos: 1}}, []api.Sub{{Filter: "a"}, {Filter: "b"}}, []api.Sub{{Filter: "b"}, {Filter: "a"}},
			[]api.Sub{{Filter: "a"}, {Filter: "b", Qos: 1}},
		}
	}
	var values []reflect.Value
	for _, x := range all {
		values = append(values, reflect.ValueOf(x))
	}
	return values
}

// eachField goes through every field of a packet, and every other value of it.
func eachField(t *testing.T, p api.Packet, try func(name string, changed api.Packet)) {
	t.Helper()
	for i := range reflect.TypeOf(p).NumField() {
		values := otherValues(reflect.ValueOf(p).Field(i))
		if len(values) == 0 {
			t.Errorf("no values to try for field %d", i)
		}
		for _, v := range values {
			changed := p
			reflect.ValueOf(&changed).Elem().Field(i).Set(v)
			try(reflect.TypeOf(p).Field(i).Name, changed)
		}
	}
}

func TestP3_2SameInEveryField(t *testing.T) {
	for _, p := range append(full(), api.Packet{}, api.Packet{Type: 15, Codes: "\xff"}) {
		if !Same(p, p) || !Same(p, Copy(p)) || !Same(Copy(p), p) {
			t.Errorf("%s isn't the same as itself", short(p))
		}
		eachField(t, p, func(name string, changed api.Packet) {
			want := reflect.DeepEqual(p, changed)
			if Same(p, changed) != want || Same(changed, p) != want {
				t.Errorf("%s with another %s: Same is %t, %t; want %t", short(p), name, Same(p, changed), Same(changed, p), want)
			}
			if !Same(changed, changed) {
				t.Errorf("%s isn't the same as itself", short(changed))
			}
		})
	}
}

func TestP3_2SamePackets(t *testing.T) {
	all := append(full(), api.Packet{})
	for i, a := range all {
		for j, b := range all {
			if Same(a, b) != (i == j) {
				t.Errorf("packets %d and %d: %t", i, j, Same(a, b))
			}
		}
	}
}

func TestP3_2SameSubs(t *testing.T) {
	one, two := api.Sub{Filter: "a", Qos: 1}, api.Sub{Filter: "b"}
	lists := [][]api.Sub{{}, {one}, {two}, {one, two}, {two, one}, {one, one}, {one, two, one}, {{}}, {{Filter: "a"}}, {{Qos: 1}}}
	for i, a := range lists {
		for j, b := range lists {
			if got := Same(api.Packet{Subs: a}, api.Packet{Subs: append([]api.Sub(nil), b...)}); got != (i == j) {
				t.Errorf("Subs %v and %v: %t", a, b, got)
			}
		}
	}
	if !Same(api.Packet{}, api.Packet{Subs: []api.Sub{}}) || !Same(api.Packet{Subs: []api.Sub{}}, api.Packet{}) {
		t.Error("a nil slice and an empty one are the same")
	}
}

func TestP3_2CopyIsEqual(t *testing.T) {
	for _, p := range append(full(), api.Packet{}, api.Packet{Type: 15, Codes: "\xff"}) {
		if got := Copy(p); !reflect.DeepEqual(got, p) {
			t.Errorf("Copy(%s) = %s", short(p), short(got))
		}
		eachField(t, p, func(name string, changed api.Packet) {
			if got := Copy(changed); !reflect.DeepEqual(got, changed) {
				t.Errorf("Copy(%s) = %s", short(changed), short(got))
			}
		})
	}
	if got := Copy(api.Packet{Subs: []api.Sub{}}); len(got.Subs) != 0 {
		t.Errorf("Copy of empty Subs has %d", len(got.Subs))
	}
}

func TestP3_2CopyHasItsOwnSubs(t *testing.T) {
	back := []api.Sub{{Filter: "a"}, {Filter: "b"}, {Filter: "c"}}
	for n := range 3 {
		p := subscribe(back[:n]...)
		q, r := Copy(p), Copy(p)
		for i := range q.Subs {
			q.Subs[i] = api.Sub{Filter: "x", Qos: 2}
		}
		q.Subs = append(q.Subs, api.Sub{Filter: "y"})
		for i, filter := range []string{"a", "b", "c"} {
			if back[i] != (api.Sub{Filter: filter}) {
				t.Errorf("Copy of %d Subs shares element %d with its argument: %v", n, i, back[i])
			}
		}
		if !Same(p, r) {
			t.Errorf("two copies of %d Subs share memory", n)
		}
	}
}

func TestP3_2RightLeavesItsArgumentAlone(t *testing.T) {
	for i, p := range full() {
		q := p
		Right(p)
		Rest(p)
		Same(p, q)
		if want := full()[i]; !reflect.DeepEqual(p, want) {
			t.Errorf("%s has become %s", short(want), short(p))
		}
	}
}

func TestP3_3FieldsOfOtherTypes(t *testing.T) {
	tried := 0
	for _, p := range full() {
		eachField(t, p, func(name string, changed api.Packet) {
			if name == "Type" || strings.Contains(fieldsOf(p.Type), " "+name+" ") {
				return
			}
			tried++
			wantRest(t, changed, -1)
		})
	}
	if tried < 15*30 {
		t.Errorf("only %d tried", tried)
	}
	for _, kind := range bare {
		wantRest(t, api.Packet{Type: kind, Subs: []api.Sub{}}, 0)
		wantRest(t, api.Packet{Type: kind, Subs: make([]api.Sub, 0, 5)}, 0)
	}
}

func TestP3_3NamesAreFilters(t *testing.T) {
	for _, s := range names {
		wantTopic(t, s, true, true)
	}
	for _, s := range wild {
		wantTopic(t, s, false, true)
	}
	for _, s := range noFilters {
		wantTopic(t, s, false, false)
	}
}

func TestP3_3JoinedFilters(t *testing.T) {
	all := append(append([]string{}, names...), wild...)
	for _, f := range all {
		for _, g := range all {
			joined := f + "/" + g
			name := !strings.ContainsAny(joined, "+#")
			wantTopic(t, joined, name, !strings.Contains(f, "#"))
		}
		for _, g := range noFilters {
			if g != "" {
				wantTopic(t, f+"/"+g, false, false)
			}
		}
	}
	half := strings.Repeat("x", 32767)
	wantTopic(t, half+"/"+half, true, true)
	wantTopic(t, half+"/"+half+"x", false, false)
	wantTopic(t, half+"/"+half[2:]+"/#", false, true)
	wantTopic(t, half+"/"+half[1:]+"/#", false, false)
}
