package topic

import (
	"slices"
	"strings"
	"testing"
	"unicode/utf8"
)

// names are topic names of all kinds.
var names = []string{
	"a", "ab", "a/b", "/", "//", "/a", "a/", "a//b", "$", "$s", "$s/x", "$/", "/$s", "a/$s", " ", "a b", "A", "\x01", "\x7f",
	"\u00e9", "\u20ac/\U0001f600", "\ufffd", "\ufeff/a", "\uff0b", "\uff03", "sport/tennis/player1", "a/b/c/d/e/f/g/h",
}

// wild are topic filters that are no topic names.
var wild = []string{
	"+", "#", "+/+", "+/#", "a/+", "a/#", "+/a", "/+", "/#", "+/", "//#", "//+", "+//+", "a/+/b", "a/+/#", "a/+/b/+/#", "+/a/#",
	"$s/+", "$s/#", "$/#", "\u20ac/+", "+/\U0001f600/#", "+/+/+/+",
}

// noFilters are strings that are no topic filters, each for one reason.
var noFilters = []string{
	"", "a+", "+a", "a+b", "++", "a#", "#a", "a#b", "##", "+#", "#+", "a/b+", "a/+b", "+a/b", "a+/b", "a/b#", "a/#b", "a/b+/c",
	"#/", "#/a", "#/#", "#/+", "a/#/b", "a/#/", "/#/", "a/#/#", "+/#/+", "$s/#/a", "$+", "$#", "$s+/a", " +", "# ",
	"\x00", "a\x00", "a/\x00", "+/\x00/#", "\xff", "a/\xff/b", "\xff/#", "\xc3", "a/\xc3", "\xc3/\xa9", "\xed\xa0\x80", "\xc0\xaf", "+/\xf4\x90\x80\x80",
}

// levelsByWords finds the levels in another way: byte by byte.
func levelsByWords(s string) []string {
	l := []string{""}
	for i := range len(s) {
		if s[i] == '/' {
			l = append(l, "")
			continue
		}
		l[len(l)-1] += s[i : i+1]
	}
	return l
}

func filterByWords(s string) bool {
	if len(s) == 0 || len(s) > 65535 || !utf8.ValidString(s) || strings.Contains(s, "\x00") {
		return false
	}
	for i := range len(s) {
		if s[i] != '+' && s[i] != '#' {
			continue
		}
		begins := i == 0 || s[i-1] == '/'
		isLast := i == len(s)-1
		if !begins || !isLast && (s[i] == '#' || s[i+1] != '/') {
			return false
		}
	}
	return true
}

func nameByWords(s string) bool {
	return filterByWords(s) && strings.Count(s, "+") == 0 && strings.Count(s, "#") == 0
}

// coverByWords goes level by level through a filter of which it is known that it is one.
func coverByWords(a, b string) bool {
	if (a[0] == '+' || a[0] == '#') && b[0] == '$' {
		return false
	}
	other := levelsByWords(b)
	for _, level := range levelsByWords(a) {
		switch {
		case level == "#":
			return true
		case len(other) == 0:
			return false
		case level == "+" && other[0] == "#":
			return false
		case level != "+" && level != other[0]:
			return false
		}
		other = other[1:]
	}
	return len(other) == 0
}

// stringsOf are all strings of at most so many of these pieces.
func stringsOf(most int, pieces ...string) []string {
	all, last := []string{""}, []string{""}
	for range most {
		var next []string
		for _, s := range last {
			for _, x := range pieces {
				next = append(next, s+x)
			}
		}
		all, last = append(all, next...), next
	}
	return all
}

// joined are the strings of from 1 to most of these levels.
func joined(most int, levels ...string) []string {
	all := append([]string(nil), levels...)
	last := levels
	for range most - 1 {
		var next []string
		for _, s := range last {
			for _, x := range levels {
				next = append(next, s+"/"+x)
			}
		}
		all, last = append(all, next...), next
	}
	return all
}

// short keeps what a failing test tells readable.
func short(s string) string { return s[:min(len(s), 40)] }

func wantLevels(t *testing.T, s string, want ...string) {
	t.Helper()
	if got := Levels(s); !slices.Equal(got, want) {
		t.Errorf("Levels(%q): %d of them, %.10q; want %.10q", short(s), len(got), got, want)
	}
}

func wantJoin(t *testing.T, want string, l ...string) {
	t.Helper()
	if got := Join(l...); got != want {
		t.Errorf("Join(%.10q) = %q; want %q", l, short(got), short(want))
	}
}

func wantForm(t *testing.T, s string, name, filter bool) {
	t.Helper()
	if got := Name(s); got != name {
		t.Errorf("Name(%q, %d bytes) = %t", short(s), len(s), got)
	}
	if got := Filter(s); got != filter {
		t.Errorf("Filter(%q, %d bytes) = %t", short(s), len(s), got)
	}
}

func wantFirst(t *testing.T, filter, want string, wantOk bool) {
	t.Helper()
	if got, ok := First(filter); got != want || ok != wantOk {
		t.Errorf("First(%q) = %q, %t; want %q, %t", short(filter), short(got), ok, short(want), wantOk)
	}
}

func wantCovers(t *testing.T, a, b string, want bool) {
	t.Helper()
	if got := Covers(a, b); got != want {
		t.Errorf("Covers(%q, %q) = %t", short(a), short(b), got)
	}
}

func wantMatch(t *testing.T, filter, name string, want bool) {
	t.Helper()
	if got := Match(filter, name); got != want {
		t.Errorf("Match(%q, %q) = %t", short(filter), short(name), got)
	}
}

func TestP7_1Examples(t *testing.T) {
	wantLevels(t, "a//b", "a", "", "b")
	wantLevels(t, "", "")
	wantJoin(t, "a//b", "a", "", "b")
}

func TestP7_1Levels(t *testing.T) {
	wantLevels(t, "a", "a")
	wantLevels(t, "a/b", "a", "b")
	wantLevels(t, "/", "", "")
	wantLevels(t, "//", "", "", "")
	wantLevels(t, "/a", "", "a")
	wantLevels(t, "a/", "a", "")
	wantLevels(t, "$s/\u20ac/ x", "$s", "\u20ac", " x")
	// Any string has levels, whether or not it is a filter or a text.
	wantLevels(t, "a+/#/b", "a+", "#", "b")
	wantLevels(t, "\x00/\xff", "\x00", "\xff")
	wantLevels(t, "\xc3/\xa9/\\", "\xc3", "\xa9", "\\")
	// Only the byte / is a slash: others look alike or hold its bits.
	wantLevels(t, "a\u2215b\u2044c\u212fd", "a\u2215b\u2044c\u212fd")
	for i := range 256 {
		s := string([]byte{byte(i)})
		if s != "/" {
			wantLevels(t, s+"/"+s+s, s, s+s)
		}
	}
}

func TestP7_1LevelsOfAllShortStrings(t *testing.T) {
	for _, s := range stringsOf(6, "/", "a", "+", "\x00", "\xff") {
		if got, want := Levels(s), levelsByWords(s); !slices.Equal(got, want) {
			t.Fatalf("Levels(%q) = %q; want %q", s, got, want)
		}
	}
}

func TestP7_1LevelsOfLongStrings(t *testing.T) {
	for _, n := range []int{65535, 65536, 1 << 20} {
		wantLevels(t, strings.Repeat("/", n), make([]string, n+1)...)
		a := strings.Repeat("a", n)
		wantLevels(t, a, a)
		wantLevels(t, a+"/"+a, a, a)
	}
}

func TestP7_1LevelsAreNewMemory(t *testing.T) {
	first, second := Levels("a/b/c"), Levels("a/b/c")
	first[1] = "x"
	_ = append(first[:1], "y", "z")
	wantLevels(t, "a/b/c", "a", "b", "c")
	wantJoin(t, "a/b/c", second...)
}

func TestP7_1Join(t *testing.T) {
	wantJoin(t, "")
	wantJoin(t, "", nil...)
	wantJoin(t, "", "")
	wantJoin(t, "/", "", "")
	wantJoin(t, "//", "", "", "")
	wantJoin(t, "a", "a")
	wantJoin(t, "a/", "a", "")
	wantJoin(t, "/a", "", "a")
	wantJoin(t, "b/a/b", "b", "a", "b")
	// Any strings are joined, those with slashes and those that are no texts too.
	wantJoin(t, "/", "/")
	wantJoin(t, "a/b/c/d", "a/b", "c/d")
	wantJoin(t, "////", "/", "", "/")
	wantJoin(t, "#/+/a+/\xff/\x00", "#", "+", "a+", "\xff", "\x00")
	wantJoin(t, strings.Repeat("/", 1<<20), make([]string, 1<<20+1)...)
	long := strings.Repeat("x", 70000)
	wantJoin(t, long+"/"+long, long, long)
}

func TestP7_1JoinLeavesItsArgumentAlone(t *testing.T) {
	l := []string{"a", "b", "c", "d"}
	wantJoin(t, "a/b", l[:2]...)
	if !slices.Equal(l, []string{"a", "b", "c", "d"}) {
		t.Errorf("after Join: %q", l)
	}
}

func TestP7_2Examples(t *testing.T) {
	wantForm(t, "a/b", true, true)
	wantForm(t, "a/+", false, true)
	wantForm(t, "a/+/#", false, true)
	wantForm(t, "a/#/b", false, false)
	wantForm(t, "a+", false, false)
	wantForm(t, "/", true, true)
	wantForm(t, "", false, false)
	wantFirst(t, "+/a", "", false)
	wantFirst(t, "$s/#", "$s", true)
}

func TestP7_2Forms(t *testing.T) {
	for _, s := range names {
		wantForm(t, s, true, true)
	}
	for _, s := range wild {
		wantForm(t, s, false, true)
	}
	for _, s := range noFilters {
		wantForm(t, s, false, false)
	}
}

func TestP7_2AllShortStrings(t *testing.T) {
	for _, s := range stringsOf(6, "/", "a", "+", "#", "$", "\x00", "\u00e9", "\xc3") {
		name, filter := nameByWords(s), filterByWords(s)
		if Name(s) != name || Filter(s) != filter {
			t.Fatalf("%q: Name %t, Filter %t; want %t, %t", s, Name(s), Filter(s), name, filter)
		}
		want := ""
		ok := filter && s[0] != '+' && s[0] != '#'
		if ok {
			want = levelsByWords(s)[0]
		}
		if got, gotOk := First(s); got != want || gotOk != ok {
			t.Fatalf("First(%q) = %q, %t; want %q, %t", s, got, gotOk, want, ok)
		}
	}
}

// TestP7_2AllBytes has every byte alone, in a level, and as one.
func TestP7_2AllBytes(t *testing.T) {
	for i := range 256 {
		c := string([]byte{byte(i)})
		for _, s := range []string{c, "a" + c, c + "a", c + "/a", "a/" + c, "a/" + c + "/a", "\xc3" + c, c + "\xa9"} {
			wantForm(t, s, nameByWords(s), filterByWords(s))
		}
	}
}

func TestP7_2Sizes(t *testing.T) {
	for _, size := range []int{3, 255, 256, 60000, 65533, 65534, 65535, 65536, 65537, 131070, 1 << 20} {
		a := strings.Repeat("a", size)
		for _, s := range []string{a, strings.Repeat("/", size), a[3:] + "\u20ac", strings.Repeat("\u20ac", size/3)} {
			wantForm(t, s, len(s) <= 65535, len(s) <= 65535)
		}
		for _, s := range []string{a[2:] + "/#", strings.Repeat("/", size-1) + "+", strings.Repeat("+/", size/2), "+/" + a[2:]} {
			wantForm(t, s, false, len(s) <= 65535)
		}
		for _, s := range []string{a[1:] + "\xff", a[1:] + "\x00", a[1:] + "+", a[1:] + "#", "#" + strings.Repeat("/", size-1)} {
			wantForm(t, s, false, false)
		}
	}
}

func TestP7_2First(t *testing.T) {
	for _, s := range names {
		wantFirst(t, s, levelsByWords(s)[0], true)
		wantFirst(t, s+"/#", levelsByWords(s)[0], true)
		wantFirst(t, s+"/+/x", levelsByWords(s)[0], true)
		wantFirst(t, "+/"+s, "", false)
	}
	for _, s := range noFilters {
		wantFirst(t, s, "", false)
	}
	// An empty first level is one: nothing but the bool tells it from none.
	wantFirst(t, "/", "", true)
	wantFirst(t, "/+", "", true)
	wantFirst(t, "//#", "", true)
	wantFirst(t, "ab/+/c", "ab", true)
	wantFirst(t, "a/#", "a", true)
	wantFirst(t, "$", "$", true)
	for _, s := range []string{"+", "#", "+/#", "+/", "+/$s", "+/a/#"} {
		wantFirst(t, s, "", false)
	}
	// What is wrong behind the first level counts too.
	for _, s := range []string{"a/b+", "a/#/", "a/\xff", "a/\x00"} {
		wantFirst(t, s, "", false)
	}
	long := strings.Repeat("a", 65535)
	wantFirst(t, long, long, true)
	wantFirst(t, long[2:]+"/#", long[2:], true)
	wantFirst(t, long[1:]+"/#", "", false)
	wantFirst(t, long+"a", "", false)
}

func TestP7_3Examples(t *testing.T) {
	wantMatch(t, "a/#", "a", true)
	wantMatch(t, "a/+", "a", false)
	wantMatch(t, "+/+", "/b", true)
	wantMatch(t, "#", "$s/x", false)
	wantMatch(t, "$s/#", "$s/x", true)
	wantMatch(t, "a/+", "a/", true)
	wantCovers(t, "a/#", "a/+/b", true)
	wantCovers(t, "a/+", "a/#", false)
	wantCovers(t, "#", "$s/#", false)
}

func TestP7_3Covers(t *testing.T) {
	for _, x := range [][2]string{
		{"a", "a"}, {"#", "#"}, {"#", "+"}, {"#", "a"}, {"#", "/"}, {"#", "/#"}, {"#", "+/#"}, {"#", "a/+/#"}, {"#", "a/b/c"},
		{"+", "+"}, {"+", "a"}, {"+/#", "+"}, {"+/#", "a"}, {"+/#", "a/b/c"}, {"+/#", "+/#"}, {"+/+", "/"}, {"+/+", "a/+"}, {"+/+", "+/a"},
		{"a/#", "a"}, {"a/#", "a/"}, {"a/#", "a/#"}, {"a/#", "a/+/#"}, {"a/#", "a/$s"}, {"/#", "/"}, {"/#", "/a"}, {"/#", "/$s/+"},
		{"a/+", "a/"}, {"a/+/c", "a/b/c"}, {"a/+/c", "a/+/c"}, {"$s/#", "$s"}, {"$s/#", "$s/+/x"}, {"$s/+", "$s/x"}, {"$", "$"}, {"+/+", "/$s"},
	} {
		wantCovers(t, x[0], x[1], true)
	}
	for _, x := range [][2]string{
		{"a", "b"}, {"a", "A"}, {"a", "+"}, {"a", "#"}, {"a", "a/"}, {"a", "a/#"}, {"a", "aa"}, {"aa", "a"}, {"a/b", "a"}, {"a/b", "a/+"},
		{"+", "#"}, {"+", "/"}, {"+", "a/b"}, {"+", "+/#"}, {"+/#", "#"}, {"+/+", "+"}, {"+/+", "a"}, {"+/+", "+/#"}, {"+/+", "a/b/c"},
		{"+/b", "+/+"}, {"+/+/#", "+"}, {"+/+/#", "+/#"}, {"a/#", "b"}, {"a/#", "#"}, {"a/#", "+"}, {"a/#", "+/a"}, {"a/#", "ab"}, {"a/#", "b/a"},
		{"a/+", "a"}, {"a/+", "a/b/c"}, {"a/+/#", "a"}, {"a/+/#", "a/#"}, {"/#", "a"}, {"/#", "#"}, {"/+/#", "/#"}, {"/+", "a"},
		{"#", "$"}, {"#", "$s"}, {"#", "$s/#"}, {"#", "$/"}, {"+", "$"}, {"+", "$s"}, {"+/#", "$s"}, {"+/x", "$s/x"}, {"+/+", "$s/+"},
		{"\u00e9", "e\u0301"}, {"$s", "#"}, {"$s/#", "$S/#"},
	} {
		wantCovers(t, x[0], x[1], false)
	}
}

func TestP7_3Match(t *testing.T) {
	for _, x := range [][2]string{
		{"a/b", "a/b"}, {"#", "a"}, {"#", "/"}, {"#", "a/b/c"}, {"#", "a/$s"}, {"#", "/$"}, {"a/#", "a/"}, {"a/#", "a/b/c"}, {"+", "a"},
		{"+/+", "/"}, {"/+", "/a"}, {"/+", "/"}, {"a/+/c", "a//c"}, {"a/+/#", "a/b"}, {"a/+", "a/$s"}, {"$s", "$s"}, {"$s/+", "$s/x"}, {"+", "\u20ac"},
	} {
		wantMatch(t, x[0], x[1], true)
	}
	for _, x := range [][2]string{
		{"a/b", "a/c"}, {"a/b", "a"}, {"a", "a/b"}, {"a", "a/"}, {"+", "a/b"}, {"+", "/a"}, {"+", "/"}, {"a/#", "ab"}, {"a/#", "b"}, {"a/+/#", "a"},
		{"a/+/c", "a/b/d"}, {"a/+/c", "a/b/c/d"}, {"+", "$s"}, {"+/x", "$s/x"}, {"#", "$"}, {"$s", "$s/x"}, {"$s/#", "$S/x"},
		// A name has no wildcards, even where the filter covers them.
		{"#", "#"}, {"#", "+"}, {"+", "+"}, {"a/#", "a/+"}, {"a/#", "a/#"}, {"+/a", "+/a"}, {"a/+", "a/+"},
	} {
		wantMatch(t, x[0], x[1], false)
	}
}

func TestP7_3AllShortStrings(t *testing.T) {
	all := stringsOf(4, "/", "a", "+", "#", "$", "b")
	isFilter, isName := make([]bool, len(all)), make([]bool, len(all))
	for i, s := range all {
		isFilter[i], isName[i] = filterByWords(s), nameByWords(s)
	}
	for i, a := range all {
		for j, b := range all {
			covers := isFilter[i] && isFilter[j] && coverByWords(a, b)
			if got := Covers(a, b); got != covers {
				t.Fatalf("Covers(%q, %q) = %t", a, b, got)
			}
			if got := Match(a, b); got != (covers && isName[j]) {
				t.Fatalf("Match(%q, %q) = %t", a, b, got)
			}
		}
	}
}

func TestP7_3NoFilters(t *testing.T) {
	long := strings.Repeat("a", 65536)
	for _, bad := range append([]string{long, strings.Repeat("/", 65536), long[2:] + "/#"}, noFilters...) {
		wantCovers(t, bad, bad, false)
		wantMatch(t, bad, bad, false)
		for _, s := range append(append([]string{"#"}, names...), wild...) {
			wantCovers(t, bad, s, false)
			wantCovers(t, s, bad, false)
			wantMatch(t, bad, s, false)
			wantMatch(t, s, bad, false)
		}
	}
}

// TestP7_3Deep has filters of as many levels as a text can have.
func TestP7_3Deep(t *testing.T) {
	name := strings.Repeat("/", 65535)
	plus := "+" + strings.Repeat("/+", 32767)
	other := "a" + strings.Repeat("/b", 32767)
	wantCovers(t, name, name, true)
	wantMatch(t, name, name, true)
	wantMatch(t, "#", name, true)
	wantMatch(t, "/#", name, true)
	wantMatch(t, "+", name, false)
	wantMatch(t, name[1:], name, false)
	wantMatch(t, name, name[1:], false)
	wantMatch(t, name[1:]+"#", name[1:], true)
	wantMatch(t, name[1:]+"#", name, true)
	wantMatch(t, name[1:]+"#", name[2:], true)
	wantMatch(t, name[1:]+"#", name[3:], false)
	wantMatch(t, name[1:]+"+", name[1:], true)
	wantMatch(t, name[1:]+"+", name[1:]+"b", true)
	wantMatch(t, name[1:]+"a", name[1:]+"b", false)
	wantMatch(t, plus, other, true)
	wantMatch(t, plus[:65533], other, false)
	wantMatch(t, plus[:65533]+"/#", other, true)
	wantMatch(t, plus, "$"+other[:65534], false)
	wantCovers(t, plus, other[:65534]+"+", true)
	wantCovers(t, plus, other[:65534]+"#", false)
	wantCovers(t, plus[:65534]+"#", other[:65534]+"#", true)
	wantCovers(t, other, plus, false)
	long := strings.Repeat("x", 65533)
	wantMatch(t, "+/+", long+"/y", true)
	wantMatch(t, long+"/#", long, true)
	wantMatch(t, long+"/y", long+"/z", false)
}

func TestP7_4JoinOfLevels(t *testing.T) {
	all := stringsOf(7, "/", "a", "+", "\xff")
	for _, l := range [][]string{names, wild, noFilters, {strings.Repeat("/", 65536), strings.Repeat("ab/", 30000)}} {
		all = append(all, l...)
	}
	for _, s := range all {
		if got := Join(Levels(s)...); got != s {
			t.Fatalf("Join(Levels(%q)) = %q", short(s), short(got))
		}
	}
}

// fewFilters are all topic filters of up to three levels of those that differ in what covers them.
func fewFilters() []string {
	var l []string
	for _, s := range joined(3, "", "a", "b", "$s", "+", "#") {
		if filterByWords(s) {
			l = append(l, s)
		}
	}
	return l
}

// fewNames are topic names among which each of fewFilters has one that shows what it doesn't cover.
func fewNames() []string {
	var l []string
	for _, s := range joined(5, "", "a", "b", "$s", "z") {
		if nameByWords(s) {
			l = append(l, s)
		}
	}
	return l
}

// TestP7_4CoversIsMatchingMore holds what filters cover against all names that they match.
func TestP7_4CoversIsMatchingMore(t *testing.T) {
	filters, all := fewFilters(), fewNames()
	matched := make([][]bool, len(filters))
	for i, f := range filters {
		for _, name := range all {
			matched[i] = append(matched[i], Match(f, name))
		}
	}
	for i, a := range filters {
		for j, b := range filters {
			lacking := -1
			for k := range all {
				if matched[j][k] && !matched[i][k] {
					lacking = k
					break
				}
			}
			if covers := Covers(a, b); covers && lacking >= 0 {
				t.Errorf("%q covers %q, but doesn't match %q", a, b, all[lacking])
			} else if !covers && lacking < 0 && b != "#" && b != "/#" {
				t.Errorf("%q doesn't cover %q, but matches whatever that matches", a, b)
			}
		}
	}
}

// TestP7_4Exceptions has the filters that match all that # and /# match, yet don't cover these: no name is empty.
func TestP7_4Exceptions(t *testing.T) {
	for _, x := range [][2]string{{"+/#", "#"}, {"/+/#", "/#"}, {"+/+/#", "/#"}} {
		wantCovers(t, x[0], x[1], false)
		for _, name := range fewNames() {
			if Match(x[1], name) && !Match(x[0], name) {
				t.Errorf("%q matches %q, %q doesn't", x[1], name, x[0])
			}
		}
	}
}

func TestP7_4EveryFilterCoversItself(t *testing.T) {
	for _, s := range append(append(fewFilters(), names...), wild...) {
		wantCovers(t, s, s, true)
	}
	for _, s := range []string{strings.Repeat("a", 60000), strings.Repeat("/", 60000), strings.Repeat("+/", 29999) + "#"} {
		wantCovers(t, s, s, true)
	}
}

func TestP7_4CoversWhatTheCoveredCover(t *testing.T) {
	filters := fewFilters()
	covered := make([][]int, len(filters))
	for i, a := range filters {
		for j, b := range filters {
			if Covers(a, b) {
				covered[i] = append(covered[i], j)
			}
		}
	}
	for i := range filters {
		for _, j := range covered[i] {
			for _, k := range covered[j] {
				if _, ok := slices.BinarySearch(covered[i], k); !ok {
					t.Fatalf("%q covers %q, which covers %q", filters[i], filters[j], filters[k])
				}
			}
		}
	}
}

// TestP7_4Long has filters of 60000 bytes, and names that show what they don't cover.
func TestP7_4Long(t *testing.T) {
	plus := strings.Repeat("+/", 29999) + "+"
	rest := strings.Repeat("+/", 29999) + "#"
	mixed := strings.Repeat("+/a/", 14999) + "+/+"
	slashes := strings.Repeat("/", 29999)
	wantCovers(t, rest, plus, true)
	wantMatch(t, rest, slashes[1:], true)
	wantCovers(t, plus, rest, false)
	wantMatch(t, plus, slashes[1:], false)
	wantCovers(t, plus, mixed, true)
	wantCovers(t, mixed, plus, false)
	wantMatch(t, plus, slashes, true)
	wantMatch(t, mixed, slashes, false)
	wantMatch(t, mixed, strings.ReplaceAll(mixed, "+", ""), true)
	wantMatch(t, plus, strings.ReplaceAll(mixed, "+", ""), true)
}
