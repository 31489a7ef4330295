package num

import (
	"math"
	"strings"
	"testing"

	"relayhouse/api"
)

// edges are the lengths at which an encoding grows, with what lies beside them.
var edges = []struct {
	n    int
	code string
}{
	{0, "\x00"},
	{1, "\x01"},
	{126, "\x7e"},
	{127, "\x7f"},
	{128, "\x80\x01"},
	{129, "\x81\x01"},
	{16382, "\xfe\x7f"},
	{16383, "\xff\x7f"},
	{16384, "\x80\x80\x01"},
	{16385, "\x81\x80\x01"},
	{2097150, "\xfe\xff\x7f"},
	{2097151, "\xff\xff\x7f"},
	{2097152, "\x80\x80\x80\x01"},
	{2097153, "\x81\x80\x80\x01"},
	{268435454, "\xfe\xff\xff\x7f"},
	{268435455, "\xff\xff\xff\x7f"},
}

var notLengths = []int{-1, -128, 268435456, 268435457, math.MaxInt32, math.MinInt32, math.MaxInt, math.MinInt}

var notWords = []int{-1, -65535, 65536, 65537, 131072, math.MaxInt32, math.MaxInt, math.MinInt}

func wantLen(t *testing.T, n int, want string, wantE api.Errno) {
	t.Helper()
	if s, e := Len(n); s != want || e != wantE {
		t.Errorf("Len(%d) = %x, %d; want %x, %d", n, s, e, want, wantE)
	}
}

func wantReadLen(t *testing.T, s string, n, used int, e api.Errno) {
	t.Helper()
	if gotN, gotUsed, gotE := ReadLen(s); gotN != n || gotUsed != used || gotE != e {
		t.Errorf("ReadLen(%x) = %d, %d, %d; want %d, %d, %d", s, gotN, gotUsed, gotE, n, used, e)
	}
}

func wantWords(t *testing.T, l []int, want string, wantE api.Errno) {
	t.Helper()
	if s, e := Words(l...); s != want || e != wantE {
		t.Errorf("Words(%v) = %x, %d; want %x, %d", l, s, e, want, wantE)
	}
}

func wantReadWord(t *testing.T, s string, n, used int, e api.Errno) {
	t.Helper()
	if gotN, gotUsed, gotE := ReadWord(s); gotN != n || gotUsed != used || gotE != e {
		t.Errorf("ReadWord(%x) = %d, %d, %d; want %d, %d, %d", s, gotN, gotUsed, gotE, n, used, e)
	}
}

// manyLengths are all short lengths, a spread of the others, and the edges.
func manyLengths() []int {
	var l []int
	for n := range 40000 {
		l = append(l, n)
	}
	for n := 40000; n <= api.MaxLen; n += 9973 {
		l = append(l, n)
	}
	for _, x := range edges {
		l = append(l, x.n)
	}
	return l
}

// padded is the encoding with some zero digits more than the shortest one has.
func padded(code string, zeros int) string {
	last := len(code) - 1
	return code[:last] + string([]byte{code[last] + 128}) + strings.Repeat("\x80", zeros-1) + "\x00"
}

func TestP1_1LenAtEdges(t *testing.T) {
	for _, x := range edges {
		wantLen(t, x.n, x.code, api.OK)
		if got := Size(x.n); got != len(x.code) {
			t.Errorf("Size(%d) = %d; want %d", x.n, got, len(x.code))
		}
	}
}

func TestP1_1LenOrdinary(t *testing.T) {
	wantLen(t, 10, "\x0a", api.OK)
	wantLen(t, 321, "\xc1\x02", api.OK)
	wantLen(t, 100000, "\xa0\x8d\x06", api.OK)
	wantLen(t, 123456789, "\x95\x9a\xef\x3a", api.OK)
}

func TestP1_1NotALength(t *testing.T) {
	for _, n := range notLengths {
		wantLen(t, n, "", api.ErrArg)
		if got := Size(n); got != 0 {
			t.Errorf("Size(%d) = %d; want 0", n, got)
		}
	}
}

func TestP1_1SizeIsThatOfLen(t *testing.T) {
	for _, n := range manyLengths() {
		if s, e := Len(n); e != api.OK || len(s) != Size(n) {
			t.Fatalf("Len(%d) = %x, %d; Size is %d", n, s, e, Size(n))
		}
	}
}

func TestP1_2ReadLenAtEdges(t *testing.T) {
	for _, x := range edges {
		wantReadLen(t, x.code, x.n, len(x.code), api.OK)
	}
}

func TestP1_2ReadLenLongerThanShortest(t *testing.T) {
	for _, x := range edges {
		for zeros := 1; len(x.code)+zeros <= 4; zeros++ {
			s := padded(x.code, zeros)
			wantReadLen(t, s, x.n, len(s), api.OK)
			wantReadLen(t, s+"\x01", x.n, len(s), api.OK)
		}
	}
	wantReadLen(t, "\x80\x00", 0, 2, api.OK)
	wantReadLen(t, "\x80\x80\x00", 0, 3, api.OK)
	wantReadLen(t, "\x80\x80\x80\x00", 0, 4, api.OK)
	wantReadLen(t, "\xff\x80\x80\x00", 127, 4, api.OK)
}

func TestP1_2ReadLenTooShort(t *testing.T) {
	for _, s := range []string{"", "\x80", "\xff", "\x80\x80", "\xff\xff", "\x80\x80\x80", "\xff\xff\xff"} {
		wantReadLen(t, s, 0, 0, api.ErrShort)
	}
}

func TestP1_2ReadLenOfWrongForm(t *testing.T) {
	for _, s := range []string{"\x80\x80\x80\x80", "\xff\xff\xff\xff", "\x80\x80\x80\x80\x00", "\xff\xff\xff\xff\x7f", "\x81\x82\x83\x84\x85\x86", "\x80\x80\x80\x80\x80\x01"} {
		wantReadLen(t, s, 0, 0, api.ErrForm)
	}
}

func TestP1_2ReadLenOfManyBytes(t *testing.T) {
	wantReadLen(t, "\x80\x01"+strings.Repeat("\xff", 1<<20), 128, 2, api.OK)
	wantReadLen(t, strings.Repeat("\xff", 1<<20), 0, 0, api.ErrForm)
}

// TestP1_2ReadLenOfAllShortStrings holds ReadLen against the words of the chapter, for all strings of digits from the edges.
func TestP1_2ReadLenOfAllShortStrings(t *testing.T) {
	digits := []byte{0, 1, 63, 126, 127, 128, 129, 200, 254, 255}
	all := []string{""}
	for i := 0; len(all[i]) < 5; i++ {
		for _, c := range digits {
			all = append(all, all[i]+string([]byte{c}))
		}
	}
	for _, s := range all {
		n, used, e := readLenByWords(s)
		wantReadLen(t, s, n, used, e)
	}
}

// readLenByWords says in another way what ReadLen is: it looks for the last byte first.
func readLenByWords(s string) (int, int, api.Errno) {
	end := 0
	for end < len(s) && s[end] >= 128 {
		end++
	}
	if end >= 4 {
		return 0, 0, api.ErrForm
	}
	if end == len(s) {
		return 0, 0, api.ErrShort
	}
	n := 0
	for i := end; i >= 0; i-- {
		n = n*128 + int(s[i]&0x7f)
	}
	return n, end + 1, api.OK
}

func TestP1_3Words(t *testing.T) {
	wantWords(t, nil, "", api.OK)
	wantWords(t, []int{}, "", api.OK)
	wantWords(t, []int{0}, "\x00\x00", api.OK)
	wantWords(t, []int{65535}, "\xff\xff", api.OK)
	wantWords(t, []int{1, 65535}, "\x00\x01\xff\xff", api.OK)
	wantWords(t, []int{255, 256, 257, 65534}, "\x00\xff\x01\x00\x01\x01\xff\xfe", api.OK)
	wantWords(t, []int{0x1234, 0, 0x1234}, "\x12\x34\x00\x00\x12\x34", api.OK)
}

func TestP1_3NotWords(t *testing.T) {
	for _, n := range notWords {
		wantWords(t, []int{n}, "", api.ErrArg)
		wantWords(t, []int{n, 1}, "", api.ErrArg)
		wantWords(t, []int{1, 2, n}, "", api.ErrArg)
	}
}

func TestP1_3WordsLeavesItsArgumentAlone(t *testing.T) {
	l := []int{1, 2, 3, 4}
	wantWords(t, l[:2], "\x00\x01\x00\x02", api.OK)
	for i, n := range l {
		if n != i+1 {
			t.Errorf("element %d is %d after Words", i, n)
		}
	}
}

func TestP1_3ReadWord(t *testing.T) {
	wantReadWord(t, "\x00\x00", 0, 2, api.OK)
	wantReadWord(t, "\xff\xff", 65535, 2, api.OK)
	wantReadWord(t, "\x00\xff", 255, 2, api.OK)
	wantReadWord(t, "\xff\x00", 65280, 2, api.OK)
	wantReadWord(t, "\x01\x02\x03", 258, 2, api.OK)
	wantReadWord(t, "\x12\x34"+strings.Repeat("\xff", 1<<20), 0x1234, 2, api.OK)
}

func TestP1_3ReadWordTooShort(t *testing.T) {
	for _, s := range []string{"", "\x00", "\x01", "\xff"} {
		wantReadWord(t, s, 0, 0, api.ErrShort)
	}
}

func TestP1_4LengthsComeBack(t *testing.T) {
	for _, n := range manyLengths() {
		s, e := Len(n)
		if e != api.OK {
			t.Fatalf("Len(%d): %d", n, e)
		}
		for _, behind := range []string{"", "\x00", "\x7f", "\x80", "\xff\xff\xff\xff\xff"} {
			wantReadLen(t, s+behind, n, len(s), api.OK)
		}
		for i := range len(s) {
			wantReadLen(t, s[:i], 0, 0, api.ErrShort)
		}
	}
}

func TestP1_4PrefixesOfLongerEncodings(t *testing.T) {
	for _, x := range edges {
		for zeros := 1; len(x.code)+zeros <= 4; zeros++ {
			s := padded(x.code, zeros)
			for i := range len(s) {
				wantReadLen(t, s[:i], 0, 0, api.ErrShort)
			}
		}
	}
}

func TestP1_4NoEncodingIsShorterThanTheShortest(t *testing.T) {
	for i := range 1 << 16 {
		s := string([]byte{byte(i >> 8), byte(i)}) + "\x81\x00"
		n, used, e := ReadLen(s)
		if e != api.OK || used < Size(n) {
			t.Fatalf("ReadLen(%x) = %d, %d, %d; Size is %d", s, n, used, e, Size(n))
		}
	}
}

func TestP1_4WordsComeBack(t *testing.T) {
	for n := range 1 << 16 {
		s, e := Words(n, 65535-n)
		if e != api.OK || len(s) != 4 {
			t.Fatalf("Words(%d, %d) = %x, %d", n, 65535-n, s, e)
		}
		wantReadWord(t, s, n, 2, api.OK)
		wantReadWord(t, s[2:], 65535-n, 2, api.OK)
		wantReadWord(t, s[:1], 0, 0, api.ErrShort)
	}
}
