package tests

import (
	"bytes"
	"math"
	"strconv"
	"strings"
	"testing"

	"loop.example/g00482/impl"
)

// roomy returns a slice with the bytes of s, and the array behind it, whose spare part is filled with 0xEE.
func roomy(s string, spare int) ([]byte, []byte) {
	whole := append([]byte(s), bytes.Repeat([]byte{0xEE}, spare)...)
	return whole[:len(s)], whole
}

// checkFresh calls put with a slice that has spare capacity and checks that neither it nor its spare capacity is written or shared.
func checkFresh(t *testing.T, name string, start string, want string, put func([]byte) []byte) {
	t.Helper()
	for _, spare := range []int{0, 1, 2, 3, 200} {
		b, whole := roomy(start, spare)
		before := string(whole)
		got := put(b)
		if string(got) != want {
			t.Errorf("%s with spare %d: got %q, want %q", name, spare, got, want)
		}
		if string(whole) != before {
			t.Errorf("%s with spare %d wrote to its argument", name, spare)
		}
		all := got[:cap(got)]
		for i := range all {
			all[i] ^= 0xFF
		}
		if string(whole) != before {
			t.Errorf("%s with spare %d: the result shares memory with the argument", name, spare)
		}
	}
}

func TestMaxText(t *testing.T) {
	if impl.MaxText != 100 {
		t.Error(impl.MaxText)
	}
}

func TestPutWordValues(t *testing.T) {
	for _, x := range []struct {
		n    int
		want string
	}{
		{0, "\x00\x00"}, {1, "\x00\x01"}, {255, "\x00\xff"}, {256, "\x01\x00"}, {258, "\x01\x02"},
		{32768, "\x80\x00"}, {65535, "\xff\xff"},
		{65536, "\x00\x00"}, {65537, "\x00\x01"}, {65536 + 258, "\x01\x02"}, {1 << 32, "\x00\x00"}, {0x12345678, "\x56\x78"},
		{-1, "\xff\xff"}, {-2, "\xff\xfe"}, {-256, "\xff\x00"}, {-65536, "\x00\x00"}, {-65535, "\x00\x01"},
		{math.MaxInt64, "\xff\xff"}, {math.MinInt64, "\x00\x00"}, {math.MinInt64 + 1, "\x00\x01"},
	} {
		if got := impl.PutWord(nil, x.n); string(got) != x.want {
			t.Errorf("PutWord(nil, %d) = %x, want %x", x.n, got, x.want)
		}
		if got := impl.PutWord([]byte{}, x.n); string(got) != x.want {
			t.Errorf("PutWord(empty, %d) = %x, want %x", x.n, got, x.want)
		}
		if got := impl.PutWord([]byte("abc"), x.n); string(got) != "abc"+x.want {
			t.Errorf("PutWord(abc, %d) = %x, want abc and %x", x.n, got, x.want)
		}
	}
}

func TestPutWordIsFresh(t *testing.T) {
	checkFresh(t, "PutWord", "abc", "abc\x12\x34", func(b []byte) []byte { return impl.PutWord(b, 0x1234) })
	checkFresh(t, "PutWord", "", "\xff\xff", func(b []byte) []byte { return impl.PutWord(b, -1) })
}

func TestGetWordInvertsPutWord(t *testing.T) {
	for n := 0; n <= 65535; n++ {
		b := append(impl.PutWord([]byte{0xA5}, n), 0x5A)
		if got, next, ok := impl.GetWord(b, 1); got != n || next != 3 || !ok {
			t.Fatalf("word %d: got %d, %d, %v", n, got, next, ok)
		}
	}
}

func TestGetWordOffsets(t *testing.T) {
	b, whole := roomy("\x01\x02\x03\x04", 4)
	for _, x := range []struct {
		at, n, next int
		ok          bool
	}{
		{0, 0x0102, 2, true}, {1, 0x0203, 3, true}, {2, 0x0304, 4, true},
		{3, 0, 0, false}, {4, 0, 0, false}, {5, 0, 0, false}, {6, 0, 0, false}, {8, 0, 0, false},
		{-1, 0, 0, false}, {-2, 0, 0, false}, {math.MinInt64, 0, 0, false}, {math.MaxInt64, 0, 0, false}, {math.MaxInt64 - 1, 0, 0, false},
	} {
		if n, next, ok := impl.GetWord(b, x.at); n != x.n || next != x.next || ok != x.ok {
			t.Errorf("GetWord at %d = %d, %d, %v", x.at, n, next, ok)
		}
	}
	if string(whole) != "\x01\x02\x03\x04\xEE\xEE\xEE\xEE" {
		t.Errorf("GetWord wrote to its argument: %x", whole)
	}
}

func TestGetWordShort(t *testing.T) {
	for _, b := range [][]byte{nil, {}, {7}} {
		for at := -3; at <= 3; at++ {
			if n, next, ok := impl.GetWord(b, at); n != 0 || next != 0 || ok {
				t.Errorf("GetWord(%x, %d) = %d, %d, %v", b, at, n, next, ok)
			}
		}
	}
}

func TestTextOkBytes(t *testing.T) {
	for x := 0; x < 256; x++ {
		want := x >= 32 && x <= 126
		c := string([]byte{byte(x)})
		for _, s := range []string{c, c + "ab", "a" + c + "b", "ab" + c, c + c, strings.Repeat("a", 99) + c, c + strings.Repeat("a", 99)} {
			if got := impl.TextOk(s); got != want {
				t.Errorf("TextOk(%q) = %v", s, got)
			}
		}
	}
}

func TestTextOkLengths(t *testing.T) {
	for n := 0; n <= 300; n++ {
		if got := impl.TextOk(strings.Repeat("~", n)); got != (n <= 100) {
			t.Errorf("TextOk with %d bytes = %v", n, got)
		}
	}
}

// badTexts are no texts: too long, or with a byte outside 32 to 126, alone or as a part of valid or invalid UTF-8.
func badTexts() []string {
	return []string{
		strings.Repeat("a", 101), strings.Repeat(" ", 255), strings.Repeat("a", 256), strings.Repeat("a", 357),
		"\x00", "\x1f", "\x7f", "\x80", "\xff", "a\nb", "tab\t", "\u00e9", "a\u00e9b", "\u20ac", "\U0001f600",
		"\xc3", "\xc3(", "\xed\xa0\x80", "\xf5\x80\x80\x80", "\ufffd", "\u2028", "\uff11", "\u0120", "\u0141",
		strings.Repeat("a", 99) + "\x80", strings.Repeat("a", 99) + "\u00e9",
	}
}

func TestTextOkBadTexts(t *testing.T) {
	for _, s := range badTexts() {
		if impl.TextOk(s) {
			t.Errorf("TextOk(%q)", s)
		}
	}
}

func TestPutTextRefusesBadTexts(t *testing.T) {
	for _, s := range badTexts() {
		if got := impl.PutText(nil, s); len(got) != 0 {
			t.Errorf("PutText(nil, %q) = %q", s, got)
		}
		if got := impl.PutText([]byte("xy"), s); string(got) != "xy" {
			t.Errorf("PutText(xy, %q) = %q", s, got)
		}
	}
}

func TestPutTextIsFresh(t *testing.T) {
	checkFresh(t, "PutText", "abc", "abc\x02hi", func(b []byte) []byte { return impl.PutText(b, "hi") })
	checkFresh(t, "PutText", "abc", "abc\x00", func(b []byte) []byte { return impl.PutText(b, "") })
	checkFresh(t, "PutText", "", "\x02hi", func(b []byte) []byte { return impl.PutText(b, "hi") })
	checkFresh(t, "PutText with a bad text", "abc", "abc", func(b []byte) []byte { return impl.PutText(b, "\x1f") })
	checkFresh(t, "PutText with a long text", "abc", "abc", func(b []byte) []byte { return impl.PutText(b, strings.Repeat("a", 101)) })
}

func TestGetTextInvertsPutText(t *testing.T) {
	for n := 0; n <= 100; n++ {
		s := ""
		for i := range n {
			s += string(rune(32 + (7*n+i)%95))
		}
		b := impl.PutText([]byte("\xffab"), s)
		if string(b) != "\xffab"+string(rune(n))+s {
			t.Fatalf("PutText with %d bytes: %q", n, b)
		}
		for _, rest := range []string{"", "z", "\x00\xff"} {
			if got, next, ok := impl.GetText(append(b[:len(b):len(b)], rest...), 3); got != s || next != 4+n || !ok {
				t.Fatalf("GetText with %d bytes and %q behind: %q, %d, %v", n, rest, got, next, ok)
			}
		}
	}
}

func checkNoText(t *testing.T, b []byte, at int) {
	t.Helper()
	if s, next, ok := impl.GetText(b, at); s != "" || next != 0 || ok {
		t.Errorf("GetText(%q, %d) = %q, %d, %v", b, at, s, next, ok)
	}
}

func TestGetTextOffsets(t *testing.T) {
	b := []byte("\x02hi")
	for _, at := range []int{-1, -2, -3, 1, 2, 3, 4, 100, math.MinInt64, math.MaxInt64, math.MaxInt64 - 1} {
		checkNoText(t, b, at)
	}
	for at := -2; at <= 2; at++ {
		checkNoText(t, nil, at)
		checkNoText(t, []byte{}, at)
	}
	if s, next, ok := impl.GetText([]byte("a\x00"), 1); s != "" || next != 2 || !ok {
		t.Error("empty text at the end", s, next, ok)
	}
	// The bytes ' ' and '!' are lengths too.
	if s, next, ok := impl.GetText([]byte("\x02 "+strings.Repeat("x", 32)), 1); s != strings.Repeat("x", 32) || next != 34 || !ok {
		t.Error("a text within", s, next, ok)
	}
}

func TestGetTextCut(t *testing.T) {
	for n := 1; n <= 255; n++ {
		full := append([]byte{byte(n)}, bytes.Repeat([]byte("q"), n)...)
		for _, size := range []int{1, n/2 + 1, n} {
			checkNoText(t, full[:size:size], 0)
			// What lies beyond the length belongs to no text.
			checkNoText(t, full[:size], 0)
		}
		s, next, ok := impl.GetText(full, 0)
		if n <= 100 && (s != string(full[1:]) || next != n+1 || !ok) || n > 100 && (s != "" || next != 0 || ok) {
			t.Errorf("GetText with the length %d: %q, %d, %v", n, s, next, ok)
		}
	}
}

func TestGetTextBadBytes(t *testing.T) {
	for x := 0; x < 256; x++ {
		good := x >= 32 && x <= 126
		for i := range 3 {
			b := []byte("\x03abc")
			b[1+i] = byte(x)
			if !good {
				checkNoText(t, b, 0)
			} else if s, next, ok := impl.GetText(b, 0); s != string(b[1:]) || next != 4 || !ok {
				t.Errorf("GetText(%q) = %q, %d, %v", b, s, next, ok)
			}
		}
	}
	checkNoText(t, []byte("\x02\u00e9"), 0)
	checkNoText(t, []byte("\x03\u20ac"), 0)
	checkNoText(t, []byte("\x01\u00e9"), 0)
}

func TestGetTextKeepsItsText(t *testing.T) {
	b := []byte("\x02hi!")
	s, _, _ := impl.GetText(b, 0)
	if string(b) != "\x02hi!" {
		t.Errorf("GetText wrote to its argument: %q", b)
	}
	b[1] = 'X'
	if s != "hi" {
		t.Errorf("the text changed with the bytes: %q", s)
	}
}

func TestSumValues(t *testing.T) {
	for _, x := range []struct {
		s    string
		want int
	}{{"", 0xFFFF}, {"\x00", 0xE1F0}, {"A", 0xB915}, {"123456789", 0x29B1}, {"\xff\xff", 0}} {
		if got := impl.Sum([]byte(x.s)); got != x.want {
			t.Errorf("Sum(%q) = %x, want %x", x.s, got, x.want)
		}
	}
	if impl.Sum(nil) != 65535 {
		t.Error("Sum(nil)")
	}
}

// otherSum computes the same code without the loop over the bits.
func otherSum(b []byte) int {
	s := uint16(0xFFFF)
	for _, c := range b {
		x := uint16(c) ^ s>>8
		x ^= x >> 4
		s = s<<8 ^ x<<12 ^ x<<5 ^ x
	}
	return int(s)
}

func TestSumOfManyBytes(t *testing.T) {
	for x := 0; x < 65536; x++ {
		b := []byte{byte(x >> 8), byte(x)}
		if got, want := impl.Sum(b), otherSum(b); got != want {
			t.Fatalf("Sum(%x) = %x, want %x", b, got, want)
		}
	}
	long := []byte{}
	for i := range 2000 {
		long = append(long, byte(i*i>>3))
		if got, want := impl.Sum(long), otherSum(long); got != want {
			t.Fatalf("Sum of %d bytes = %x, want %x", len(long), got, want)
		}
	}
}

func TestSumReadsOnlyItsBytes(t *testing.T) {
	b, whole := roomy("123456789", 8)
	if impl.Sum(b) != 0x29B1 || impl.Sum(b) != 0x29B1 {
		t.Errorf("%x", impl.Sum(b))
	}
	if string(whole) != "123456789"+strings.Repeat("\xEE", 8) {
		t.Errorf("Sum wrote to its argument: %x", whole)
	}
	if impl.Sum(impl.PutWord(b, impl.Sum(b))) != 0 {
		t.Error("the sum of bytes with their sum")
	}
}

func TestNumText(t *testing.T) {
	for _, x := range []struct {
		n    int
		want string
	}{
		{0, "0"}, {7, "7"}, {10, "10"}, {-1, "-1"}, {-10, "-10"}, {100, "100"}, {65535, "65535"}, {65536, "65536"}, {1000000, "1000000"},
		{math.MaxInt64, "9223372036854775807"}, {math.MinInt64, "-9223372036854775808"},
	} {
		if got := impl.NumText(x.n); got != x.want {
			t.Errorf("NumText(%d) = %q", x.n, got)
		}
	}
}

func TestParseNumInvertsNumText(t *testing.T) {
	for n := 0; n <= 65535; n++ {
		for _, most := range []int{n, 65535} {
			if got, ok := impl.ParseNum(impl.NumText(n), most); got != n || !ok {
				t.Fatalf("ParseNum(%d, %d) = %d, %v", n, most, got, ok)
			}
		}
		if got, ok := impl.ParseNum(strconv.Itoa(n), n-1); got != 0 || ok {
			t.Fatalf("ParseNum(%d, %d) = %d, %v", n, n-1, got, ok)
		}
	}
}

func checkNoNum(t *testing.T, s string, most int) {
	t.Helper()
	if n, ok := impl.ParseNum(s, most); n != 0 || ok {
		t.Errorf("ParseNum(%q, %d) = %d, %v", s, most, n, ok)
	}
}

func TestParseNumRefusesOtherTexts(t *testing.T) {
	for _, s := range []string{
		"", "00", "01", "007", "0000", "00000", "000000", "01234", "00001", "000001",
		"-", "+", "-0", "-1", "+1", "+0", "--1", "1-", "1+",
		" ", " 1", "1 ", "1\n", "\t1", "1\x00", "\x001", "1.0", "1e1", "0x1", "1_0", "1,0", "1/", "1:", "x", "1x", "x1",
		"\u0663", "\uff11", "1\uff11", "\xff", "1\xff", "\xb1", "\u0131", "\u0230", "\U00010031",
		"65536", "70000", "99999", "100000", "123456", "655350", "4294967296", "4294967297", "18446744073709551616", "18446744073709551617",
		strings.Repeat("0", 70000), strings.Repeat("1", 70000), strings.Repeat("1", 70000) + "x",
	} {
		checkNoNum(t, s, 65535)
	}
	for x := 0; x < 256; x++ {
		if x < '0' || x > '9' {
			c := string([]byte{byte(x)})
			checkNoNum(t, c, 65535)
			checkNoNum(t, "1"+c, 65535)
			checkNoNum(t, c+"1", 65535)
		}
	}
}

func TestParseNumLimits(t *testing.T) {
	for _, most := range []int{65536, 65537, 99999, 1 << 32, math.MaxInt64, -1, -2, -65535, math.MinInt64} {
		for _, s := range []string{"", "0", "1", "-1", "12345", "65535", "65536"} {
			checkNoNum(t, s, most)
		}
	}
	for _, x := range []struct {
		s       string
		most, n int
	}{{"0", 0, 0}, {"0", 65535, 0}, {"1", 1, 1}, {"9", 9, 9}, {"10", 10, 10}, {"9999", 9999, 9999}, {"10000", 65535, 10000}, {"65535", 65535, 65535}} {
		if n, ok := impl.ParseNum(x.s, x.most); n != x.n || !ok {
			t.Errorf("ParseNum(%q, %d) = %d, %v", x.s, x.most, n, ok)
		}
	}
	checkNoNum(t, "1", 0)
	checkNoNum(t, "10", 9)
	checkNoNum(t, "10000", 9999)
}
