package text

import (
	"strings"
	"testing"

	"relayhouse/api"
)

// edges are the code points that the chapter names, with what lies beside them; 0x200000 is the first one that four bytes can't hold.
var edges = []int{
	0, 1, 2, 126, 127, 128, 129, 0x7fe, 0x7ff, 0x800, 0x801, 0xd7fe, 0xd7ff, 0xd800, 0xd801, 0xdbff, 0xdc00,
	0xdffe, 0xdfff, 0xe000, 0xe001, 0xfffc, 0xfffd, 0xfffe, 0xffff, 0x10000, 0x10001, 0x10fffe, 0x10ffff,
	0x110000, 0x110001, 0x1fffff,
}

// ends are bytes in which encodings differ, with what lies beside them.
var ends = []byte{
	0, 1, 0x41, 0x7e, 0x7f, 0x80, 0x81, 0x8f, 0x90, 0x9f, 0xa0, 0xbf, 0xc0, 0xc1, 0xc2, 0xdf, 0xe0, 0xe1,
	0xec, 0xed, 0xee, 0xef, 0xf0, 0xf1, 0xf3, 0xf4, 0xf5, 0xf7, 0xf8, 0xfb, 0xfc, 0xfe, 0xff,
}

// good are texts of all kinds of characters, alone and together.
var good = []string{
	"", "a", "MQTT", "\x01", "\x7f", "\u0080", "\u00e9", "\u07ff", "\u0800", "\u20ac", "\ud7ff", "\ue000",
	"\ufeff", "\ufffd", "\ufffe", "\uffff", "\U00010000", "\U0001f600", "\U0010ffff", "sport/tennis/+", "#",
	"\ufffd\ufffd", "a\u00e9\u20ac\U0001f600", "\U0001f600\u20ac\u00e9a", "\ufeffa\ufeff", "e\u0301",
}

// bad are strings that are no texts; none of them is too long.
var bad = []string{
	"\x00", "a\x00", "\x00a", "a\x00b", "\x80", "\xbf", "\xc3", "a\xc3", "\xc3a", "\xa9", "\xc3\xa9\xa9",
	"\xc0\x80", "\xc0\xaf", "\xc1\xbf", "\xe0\x80\x80", "\xe0\x82\xa9", "\xe0\x9f\xbf", "\xf0\x80\x80\x80",
	"\xf0\x82\x82\xac", "\xf0\x8f\xbf\xbf", "\xe2", "\xe2\x82", "\xe2\x82a", "\xe2a\xac", "\xf0", "\xf0\x9f",
	"\xf0\x9f\x98", "\xf0\x9f\x98a", "\xed\xa0\x80", "\xed\xb2\x80", "\xed\xbf\xbf", "\xed\xa0\xbd\xed\xb8\x80",
	"\xf4\x90\x80\x80", "\xf5\x80\x80\x80", "\xf7\xbf\xbf\xbf", "\xf8\x88\x80\x80\x80", "\xfc\x84\x80\x80\x80\x80",
	"\xfe", "\xff", "\ufffd\xff", "\xff\ufffd", "\xef\xbf", "\xef\xbf\xff", "abc\xff", "\xffabc",
}

// sizes are numbers of bytes at which a field's word or its limit changes, with what lies beside them.
var sizes = []int{0, 1, 2, 255, 256, 257, 32767, 32768, 65534, 65535, 65536, 65537, 131072, 1 << 20}

// encoded is the encoding of a code point in so many bytes, whether or not there is a shorter one.
func encoded(point, size int) string {
	if size == 1 {
		return string([]byte{byte(point)})
	}
	tail := ""
	for range size - 1 {
		tail = string([]byte{byte(128 + point%64)}) + tail
		point /= 64
	}
	first := []int{192, 224, 240}[size-2]
	return string([]byte{byte(first + point)}) + tail
}

// shortest is how many bytes the shortest encoding of a code point has.
func shortest(point int) int {
	switch {
	case point <= 127:
		return 1
	case point <= 0x7ff:
		return 2
	case point <= 0xffff:
		return 3
	}
	return 4
}

func isPoint(point int) bool {
	return point >= 1 && point <= 1114111 && (point < 0xd800 || point > 0xdfff)
}

// roomIn says how great a code point is that an encoding of so many bytes can't hold any more.
func roomIn(size int) int {
	return []int{1 << 7, 1 << 11, 1 << 16, 1 << 21}[size-1]
}

// byWords says in another way how many characters a text has: it decodes byte by byte, as the chapter's words say.
func byWords(s string) int {
	n := 0
	for len(s) > 0 {
		size, point := headOf(s[0])
		if size == 0 || size > len(s) {
			return -1
		}
		for i := 1; i < size; i++ {
			if s[i] < 128 || s[i] >= 192 {
				return -1
			}
			point = point*64 + int(s[i]) - 128
		}
		if !isPoint(point) || shortest(point) != size {
			return -1
		}
		s = s[size:]
		n++
	}
	return n
}

// headOf says how many bytes an encoding with this first byte has, and the bits in it; 0 if it begins none.
func headOf(b byte) (size, bits int) {
	switch c := int(b); {
	case c < 128:
		return 1, c
	case c >= 192 && c < 224:
		return 2, c - 192
	case c >= 224 && c < 240:
		return 3, c - 224
	case c >= 240 && c < 248:
		return 4, c - 240
	}
	return 0, 0
}

func wantCount(t *testing.T, s string, n int) {
	t.Helper()
	if got := Count(s); got != n {
		t.Errorf("Count(%x) = %d; want %d", short(s), got, n)
	}
	if got := Valid(s); got != (n >= 0) {
		t.Errorf("Valid(%x) = %t; want %t", short(s), got, n >= 0)
	}
}

func wantPut(t *testing.T, l []string, want string, wantE api.Errno) {
	t.Helper()
	if s, e := Put(l...); s != want || e != wantE {
		t.Errorf("Put of %d = %x, %d; want %x, %d", len(l), short(s), e, short(want), wantE)
	}
}

func wantPutData(t *testing.T, s, want string, wantE api.Errno) {
	t.Helper()
	if got, e := PutData(s); got != want || e != wantE {
		t.Errorf("PutData(%x) = %x, %d; want %x, %d", short(s), short(got), e, short(want), wantE)
	}
}

func wantGet(t *testing.T, s, field string, used int, e api.Errno) {
	t.Helper()
	if gotField, gotUsed, gotE := Get(s); gotField != field || gotUsed != used || gotE != e {
		t.Errorf("Get(%x) = %x, %d, %d; want %x, %d, %d", short(s), short(gotField), gotUsed, gotE, short(field), used, e)
	}
}

func wantGetData(t *testing.T, s, data string, used int, e api.Errno) {
	t.Helper()
	if gotData, gotUsed, gotE := GetData(s); gotData != data || gotUsed != used || gotE != e {
		t.Errorf("GetData(%x) = %x, %d, %d; want %x, %d, %d", short(s), short(gotData), gotUsed, gotE, short(data), used, e)
	}
}

// short keeps what a failing test tells readable.
func short(s string) string {
	if len(s) > 32 {
		return s[:32]
	}
	return s
}

// fieldOf is the field of some bytes, made without the package.
func fieldOf(s string) string {
	return string([]byte{byte(len(s) >> 8), byte(len(s))}) + s
}

// filled is a text of so many bytes, which begins with whole characters of unit.
func filled(unit string, size int) string {
	return strings.Repeat(unit, size/len(unit)) + strings.Repeat("x", size%len(unit))
}

func TestP2_1Examples(t *testing.T) {
	for _, s := range []string{"", "a", "\xc3\xa9", "\xe2\x82\xac", "\xf0\x9f\x98\x80"} {
		if !Valid(s) {
			t.Errorf("%x is a text", s)
		}
	}
	wantCount(t, "a\xc3\xa9\xe2\x82\xac", 3)
	wantCount(t, "", 0)
	wantCount(t, "\x80", -1)
}

func TestP2_1Good(t *testing.T) {
	for _, s := range good {
		wantCount(t, s, len([]rune(s)))
	}
}

func TestP2_1Bad(t *testing.T) {
	for _, s := range bad {
		wantCount(t, s, -1)
		wantCount(t, "a\u20ac"+s, -1)
		wantCount(t, s+"\U0001f600b", -1)
	}
}

func TestP2_1Edges(t *testing.T) {
	for _, point := range edges {
		for size := 1; size <= 4; size++ {
			if point >= roomIn(size) {
				continue
			}
			s, n := encoded(point, size), -1
			if isPoint(point) && size == shortest(point) {
				n = 1
			}
			wantCount(t, s, n)
			wantCount(t, "ab"+s+"\u00e9", max(4*n, -1))
			if size > 1 {
				wantCount(t, s[:size-1], -1)
				wantCount(t, s[1:], -1)
				wantCount(t, s[:size-1]+"a", -1)
				wantCount(t, s+"\x80", -1)
			}
		}
	}
}

func TestP2_1AllCodePoints(t *testing.T) {
	for size := 1; size <= 4; size++ {
		for point := range roomIn(size) {
			s := encoded(point, size)
			want := isPoint(point) && size == shortest(point)
			if Valid(s) != want || (Count(s) == 1) != want {
				t.Fatalf("%x, code point %x: Valid is %t, Count is %d", s, point, Valid(s), Count(s))
			}
		}
	}
}

// TestP2_1AllShortStrings holds Count against the words of the chapter, for all strings of at most four bytes in which encodings differ.
func TestP2_1AllShortStrings(t *testing.T) {
	level := []string{""}
	for size := 0; size <= 4; size++ {
		var next []string
		for _, s := range level {
			if n := byWords(s); Count(s) != n || Valid(s) != (n >= 0) {
				t.Fatalf("%x: Count is %d, Valid is %t; want %d", s, Count(s), Valid(s), n)
			}
			if size == 4 {
				continue
			}
			for _, c := range ends {
				next = append(next, s+string([]byte{c}))
			}
		}
		level = next
	}
}

func TestP2_1AllStringsOfTwoBytes(t *testing.T) {
	for i := range 1 << 16 {
		s := string([]byte{byte(i >> 8), byte(i)})
		for _, x := range []string{s[1:], s, "\xe2" + s, s + "\x80", "\xf1" + s + "\xbf"} {
			if n := byWords(x); Count(x) != n || Valid(x) != (n >= 0) {
				t.Fatalf("%x: Count is %d, Valid is %t; want %d", x, Count(x), Valid(x), n)
			}
		}
	}
}

func TestP2_1Sizes(t *testing.T) {
	for _, size := range sizes {
		for _, unit := range []string{"x", "\u00e9", "\u20ac", "\U0001f600"} {
			n := size/len(unit) + size%len(unit)
			if size > 65535 {
				n = -1
			}
			wantCount(t, filled(unit, size), n)
		}
	}
	wantCount(t, strings.Repeat("x", 65534)+"\x00", -1)
	wantCount(t, strings.Repeat("x", 65534)+"\xc3", -1)
	wantCount(t, strings.Repeat("x", 65534)+"\u00e9", -1)
	wantCount(t, strings.Repeat("x", 65533)+"\u00e9", 65534)
}

func TestP2_2PutExamples(t *testing.T) {
	wantPut(t, []string{"MQTT"}, "\x00\x04MQTT", api.OK)
	wantPut(t, []string{"a", ""}, "\x00\x01a\x00\x00", api.OK)
	wantPut(t, []string{"\x00"}, "", api.ErrText)
}

func TestP2_2Put(t *testing.T) {
	wantPut(t, nil, "", api.OK)
	wantPut(t, []string{}, "", api.OK)
	wantPut(t, []string{""}, "\x00\x00", api.OK)
	wantPut(t, []string{"b", "a", "b"}, "\x00\x01b\x00\x01a\x00\x01b", api.OK)
	all := ""
	for _, s := range good {
		wantPut(t, []string{s}, fieldOf(s), api.OK)
		all += fieldOf(s)
	}
	wantPut(t, good, all, api.OK)
}

func TestP2_2PutSizes(t *testing.T) {
	for _, size := range sizes {
		s := filled("\u20ac", size)
		if size > 65535 {
			wantPut(t, []string{s}, "", api.ErrText)
			wantPut(t, []string{"a", s}, "", api.ErrText)
			continue
		}
		wantPut(t, []string{s}, fieldOf(s), api.OK)
		wantPut(t, []string{s, "a", s}, fieldOf(s)+"\x00\x01a"+fieldOf(s), api.OK)
	}
}

func TestP2_2PutNotATextAnywhere(t *testing.T) {
	for _, s := range bad {
		wantPut(t, []string{s}, "", api.ErrText)
		wantPut(t, []string{s, "a"}, "", api.ErrText)
		wantPut(t, []string{"a", s}, "", api.ErrText)
		wantPut(t, []string{"a", "", s, "b"}, "", api.ErrText)
	}
	// Two halves of a character, each in a field of its own, are not a text.
	wantPut(t, []string{"\xc3", "\xa9"}, "", api.ErrText)
}

func TestP2_2PutLeavesItsArgumentAlone(t *testing.T) {
	l := []string{"a", "b", "c", "d"}
	wantPut(t, l[:2], "\x00\x01a\x00\x01b", api.OK)
	if got := strings.Join(l, ""); got != "abcd" {
		t.Errorf("after Put: %s", got)
	}
}

func TestP2_2GetExamples(t *testing.T) {
	wantGet(t, "\x00\x01ab", "a", 3, api.OK)
	wantGet(t, "\x00\x02a", "", 0, api.ErrShort)
	wantGet(t, "\x00", "", 0, api.ErrShort)
	wantGet(t, "\x00\x01\xff", "", 0, api.ErrText)
}

func TestP2_2Get(t *testing.T) {
	for _, s := range good {
		for _, behind := range []string{"", "a", "\x00", "\xff\xff", "\x80\x80\x80", fieldOf("b")} {
			wantGet(t, fieldOf(s)+behind, s, 2+len(s), api.OK)
		}
	}
	for _, size := range sizes {
		if size <= 65535 {
			s := filled("\u00e9", size)
			wantGet(t, fieldOf(s), s, size+2, api.OK)
			wantGet(t, fieldOf(s)+"\xff", s, size+2, api.OK)
		}
	}
}

func TestP2_2GetTooShort(t *testing.T) {
	for _, s := range []string{"", "\x00", "\x01", "\xff", "\x00\x01", "\x00\x02a", "\x00\x03ab", "\x01\x00a", "\xff\xff", "\xff\xffa"} {
		wantGet(t, s, "", 0, api.ErrShort)
	}
	wantGet(t, "\x01\x00"+strings.Repeat("a", 255), "", 0, api.ErrShort)
	wantGet(t, "\xff\xff"+strings.Repeat("a", 65534), "", 0, api.ErrShort)
}

func TestP2_2GetTooShortComesBeforeNotAText(t *testing.T) {
	for _, s := range bad {
		cut := fieldOf(s + "a")
		wantGet(t, cut[:len(cut)-1], "", 0, api.ErrShort)
	}
	wantGet(t, "\x00\x02\x00", "", 0, api.ErrShort)
	wantGet(t, "\x00\x02\xff", "", 0, api.ErrShort)
}

func TestP2_2GetNotAText(t *testing.T) {
	for _, s := range bad {
		wantGet(t, fieldOf(s), "", 0, api.ErrText)
		wantGet(t, fieldOf(s)+"a", "", 0, api.ErrText)
	}
	// What stands behind the field doesn't complete a character in it.
	wantGet(t, "\x00\x01\xc3\xa9", "", 0, api.ErrText)
	wantGet(t, "\x00\x03\xf0\x9f\x98\x80", "", 0, api.ErrText)
	wantGet(t, "\xff\xff"+strings.Repeat("a", 65534)+"\x00", "", 0, api.ErrText)
}

func TestP2_3PutData(t *testing.T) {
	wantPutData(t, "", "\x00\x00", api.OK)
	wantPutData(t, "a", "\x00\x01a", api.OK)
	wantPutData(t, "\x00", "\x00\x01\x00", api.OK)
	wantPutData(t, "\xff\x00\xc3", "\x00\x03\xff\x00\xc3", api.OK)
	for _, s := range append(append([]string{}, good...), bad...) {
		wantPutData(t, s, fieldOf(s), api.OK)
	}
}

func TestP2_3PutDataSizes(t *testing.T) {
	for _, size := range sizes {
		for _, unit := range []string{"x", "\xff", "\x00"} {
			s := strings.Repeat(unit, size)
			if size > 65535 {
				wantPutData(t, s, "", api.ErrLong)
				continue
			}
			wantPutData(t, s, fieldOf(s), api.OK)
		}
	}
}

func TestP2_3GetData(t *testing.T) {
	wantGetData(t, "\x00\x01\xff\x07", "\xff", 3, api.OK)
	wantGetData(t, "\x00\x00", "", 2, api.OK)
	wantGetData(t, "\x00\x00\x00", "", 2, api.OK)
	wantGetData(t, "\x00\x02\x00\xffa", "\x00\xff", 4, api.OK)
	for _, s := range append(append([]string{}, good...), bad...) {
		wantGetData(t, fieldOf(s), s, 2+len(s), api.OK)
		wantGetData(t, fieldOf(s)+"\xa9\x00", s, 2+len(s), api.OK)
	}
	for _, size := range sizes {
		if size <= 65535 {
			s := strings.Repeat("\xfe", size)
			wantGetData(t, fieldOf(s), s, size+2, api.OK)
			wantGetData(t, fieldOf(s)+"\xff", s, size+2, api.OK)
		}
	}
}

func TestP2_3GetDataTooShort(t *testing.T) {
	for _, s := range []string{"", "\x00", "\x01", "\xff", "\x00\x01", "\x00\x02\xff", "\x00\x03ab", "\x01\x00a", "\xff\xff", "\xff\xffa"} {
		wantGetData(t, s, "", 0, api.ErrShort)
	}
	wantGetData(t, "\x01\x00"+strings.Repeat("\xff", 255), "", 0, api.ErrShort)
	wantGetData(t, "\xff\xff"+strings.Repeat("\x00", 65534), "", 0, api.ErrShort)
}

func TestP2_3GetsAreTooShortAlike(t *testing.T) {
	for n := range 300 {
		s := fieldOf(strings.Repeat("a", n))
		for i := range len(s) {
			wantGet(t, s[:i], "", 0, api.ErrShort)
			wantGetData(t, s[:i], "", 0, api.ErrShort)
		}
	}
}

func TestP2_4TextsComeBack(t *testing.T) {
	s, e := Put(good...)
	if e != api.OK {
		t.Fatalf("Put: %d", e)
	}
	for _, behind := range []string{"", "\x00", "\xff\xff\xff"} {
		rest := s + behind
		for i, want := range good {
			field, used, e := Get(rest)
			if field != want || used != len(want)+2 || e != api.OK {
				t.Fatalf("text %d of %d: %x, %d, %d", i, len(good), field, used, e)
			}
			rest = rest[used:]
		}
		if rest != behind {
			t.Errorf("left: %x; want %x", short(rest), behind)
		}
	}
}

func TestP2_4DataComeBack(t *testing.T) {
	for n := range 70 {
		for i := range 256 {
			data := strings.Repeat(string([]byte{byte(i), byte(n)}), n)
			s, e := PutData(data)
			if e != api.OK {
				t.Fatalf("PutData(%x): %d", short(data), e)
			}
			wantGetData(t, s, data, len(data)+2, api.OK)
			wantGetData(t, s+"\x00\xff", data, len(data)+2, api.OK)
		}
	}
}

func TestP2_4Concatenations(t *testing.T) {
	for _, a := range good {
		for _, b := range good {
			wantCount(t, a+b, Count(a)+Count(b))
		}
	}
	for _, size := range []int{0, 1, 255, 32768, 65534, 65535} {
		a, b := filled("\u20ac", size), filled("\U0001f600", 65535-size)
		wantCount(t, a+b, Count(a)+Count(b))
		wantCount(t, a+b+"x", -1)
		wantCount(t, "x"+a+b, -1)
	}
}

func TestP2_4Splits(t *testing.T) {
	for _, a := range good {
		for _, b := range good {
			splitEverywhere(t, a+b)
		}
	}
	all := ""
	for _, point := range edges {
		if isPoint(point) {
			all += encoded(point, shortest(point))
		}
	}
	splitEverywhere(t, all)
}

// splitEverywhere holds the parts of a text against each other: where it is split between characters, each part has its own.
func splitEverywhere(t *testing.T, s string) {
	t.Helper()
	between := map[int]int{len(s): len([]rune(s))}
	before := 0
	for i := range s {
		between[i] = before
		before++
	}
	for i := range len(s) + 1 {
		n, ok := between[i]
		if !ok {
			wantCount(t, s[:i], -1)
			wantCount(t, s[i:], -1)
			continue
		}
		wantCount(t, s[:i], n)
		wantCount(t, s[i:], before-n)
	}
}
