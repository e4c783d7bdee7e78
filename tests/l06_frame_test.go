package tests

import (
	"bytes"
	"math"
	"math/rand"
	"regexp"
	"slices"
	"strconv"
	"strings"
	"testing"

	"loop.example/g00482/impl"
)

// textKinds are the kinds that carry a text, or a name.
var textKinds = []int{impl.FrHello, impl.FrQuery, impl.FrRow, impl.FrError}

var nameForm = regexp.MustCompile(`\A[a-z]{1,8}\z`)
var textForm = regexp.MustCompile(`\A[ -~]{0,100}\z`)

func hello(name string) impl.Frame {
	return impl.Frame{Kind: impl.FrHello, Text: name}
}

func query(text string) impl.Frame {
	return impl.Frame{Kind: impl.FrQuery, Text: text}
}

func bye() impl.Frame {
	return impl.Frame{Kind: impl.FrBye}
}

func answer(text string) impl.Frame {
	return impl.Frame{Kind: impl.FrRow, Text: text}
}

func ready(st int) impl.Frame {
	return impl.Frame{Kind: impl.FrReady, St: st}
}

func failure(text string) impl.Frame {
	return impl.Frame{Kind: impl.FrError, Text: text}
}

// isFrame is a second definition of the valid frames.
func isFrame(f impl.Frame) bool {
	switch f {
	case hello(f.Text):
		return nameForm.MatchString(f.Text)
	case query(f.Text), answer(f.Text), failure(f.Text):
		return textForm.MatchString(f.Text)
	case bye(), ready(0), ready(1), ready(2):
		return true
	}
	return false
}

// rawFrame encodes any frame whose fields fit into their bytes, also an invalid one. A kind that does not exist is alone.
func rawFrame(f impl.Frame) []byte {
	b := []byte{byte(f.Kind)}
	if f.Kind == impl.FrReady {
		return append(b, byte(f.St))
	}
	if slices.Contains(textKinds, f.Kind) {
		b = append(b, byte(len(f.Text)))
		b = append(b, f.Text...)
	}
	return b
}

// fitsFrame reports whether rawFrame loses nothing of f.
func fitsFrame(f impl.Frame) bool {
	switch f {
	case hello(f.Text), query(f.Text), answer(f.Text), failure(f.Text):
		return len(f.Text) < 256
	case bye():
		return true
	}
	return f == ready(int(byte(f.St)))
}

// frameSize is a second definition of the length of the frame at the start of b, as far as b states it. It reports false if there is no such frame whatever follows.
func frameSize(b []byte) (int, bool) {
	switch {
	case len(b) == 0 || b[0] == impl.FrBye:
		return 1, true
	case b[0] == impl.FrReady:
		return 2, true
	case !slices.Contains(textKinds, int(b[0])):
		return 0, false
	case len(b) == 1:
		return 2, true
	}
	return 2 + int(b[1]), b[1] <= 100
}

// otherGet is a second definition of GetFrame.
func otherGet(b []byte) (impl.Frame, int, int) {
	n, can := frameSize(b)
	if !can {
		return impl.Frame{}, 0, impl.GoBad
	}
	if n > len(b) {
		return impl.Frame{}, 0, impl.GoWait
	}
	f := bye()
	switch n {
	case 1:
	case 2:
		f = impl.Frame{Kind: int(b[0])}
		if b[0] == impl.FrReady {
			f.St = int(b[1])
		}
	default:
		f = impl.Frame{Kind: int(b[0]), Text: string(b[2:n])}
	}
	if !isFrame(f) {
		return impl.Frame{}, 0, impl.GoBad
	}
	return f, n, impl.GoGood
}

// otherFrames is a second definition of Frames.
func otherFrames(b []byte) ([]impl.Frame, int) {
	if len(b) == 0 {
		return nil, impl.GoGood
	}
	f, n, code := otherGet(b)
	if code != impl.GoGood {
		return nil, code
	}
	l, code := otherFrames(b[n:])
	return append([]impl.Frame{f}, l...), code
}

func rawFrames(l []impl.Frame) []byte {
	var b []byte
	for _, f := range l {
		b = append(b, rawFrame(f)...)
	}
	return b
}

// checkGet compares GetFrame with otherGet, and checks that GetFrame reads and writes only the bytes that it may. It returns the code.
func checkGet(t *testing.T, b []byte) int {
	t.Helper()
	want, wantN, wantCode := otherGet(b)
	for _, spare := range []int{0, 120} {
		arg, whole := roomy(string(b), spare)
		f, n, code := impl.GetFrame(arg)
		if f != want || n != wantN || code != wantCode {
			t.Errorf("GetFrame(%q) with spare %d = %+v, %d, %d, want %+v, %d, %d", b, spare, f, n, code, want, wantN, wantCode)
		}
		if string(whole) != string(b)+strings.Repeat("\xEE", spare) {
			t.Errorf("GetFrame(%q) with spare %d wrote to its argument: %q", b, spare, whole)
		}
		if code == impl.GoGood && (!impl.FrameOk(f) || !bytes.Equal(impl.PutFrame(f), b[:n])) {
			t.Errorf("GetFrame(%q) = %+v, which is encoded as %q", b, f, impl.PutFrame(f))
		}
		for i := range whole {
			whole[i] ^= 0xFF
		}
		if f != want {
			t.Errorf("the frame of %q changed with its bytes: %+v", b, f)
		}
	}
	return wantCode
}

func checkCode(t *testing.T, b []byte, want int) {
	t.Helper()
	if f, n, code := impl.GetFrame(b); f != (impl.Frame{}) && want != impl.GoGood || n != 0 && want != impl.GoGood || code != want {
		t.Errorf("GetFrame(%q) = %+v, %d, %d, want the code %d", b, f, n, code, want)
	}
	checkFrames(t, b)
}

// checkFrames compares Frames with otherFrames, and GetFrame with otherGet. It returns the code of Frames.
func checkFrames(t *testing.T, b []byte) int {
	t.Helper()
	checkGet(t, b)
	want, wantCode := otherFrames(b)
	for _, spare := range []int{0, 120} {
		arg, whole := roomy(string(b), spare)
		l, code := impl.Frames(arg)
		if !slices.Equal(l, want) || code != wantCode {
			t.Errorf("Frames(%q) with spare %d = %+v, %d, want %+v, %d", b, spare, l, code, want, wantCode)
		}
		if string(whole) != string(b)+strings.Repeat("\xEE", spare) {
			t.Errorf("Frames(%q) with spare %d wrote to its argument: %q", b, spare, whole)
		}
		var again []byte
		for _, f := range l {
			if !impl.FrameOk(f) {
				t.Errorf("Frames(%q) has %+v", b, f)
			}
			again = append(again, impl.PutFrame(f)...)
		}
		if !bytes.HasPrefix(b, again) || code == impl.GoGood && len(again) != len(b) {
			t.Errorf("the frames of %q are encoded as %q", b, again)
		}
		for i := range whole {
			whole[i] ^= 0xFF
		}
		if !slices.Equal(l, want) {
			t.Errorf("the frames of %q changed with their bytes: %+v", b, l)
		}
	}
	return wantCode
}

// rests are bytes that may follow a frame: frames, parts of frames, and bytes that are no frame.
func rests() []string {
	return []string{
		"", "\x00", "\x01", "\x02", "\x03", "\x04", "\x05", "\x06", "\x07", "\xff", "zz", "\x00\xff\x80", "\x01\x04main", "\x02\x01", "\x02\x65", "\x03\x03",
		"\x05\x02", "\x05\x03", "\x06\x00", strings.Repeat("a", 300), strings.Repeat("\x00", 300), strings.Repeat("\xff", 300),
	}
}

func frameWord(kind int) string {
	switch kind {
	case 1:
		return "hello"
	case 2:
		return "query"
	case 3:
		return "bye"
	case 4:
		return "row"
	case 5:
		return "ready"
	}
	return "error"
}

// checkFrame checks a valid frame, its encoding alone and with other bytes behind it, and its text.
func checkFrame(t *testing.T, f impl.Frame) {
	t.Helper()
	if !impl.FrameOk(f) || !isFrame(f) {
		t.Errorf("FrameOk(%+v) is %v", f, impl.FrameOk(f))
	}
	b := rawFrame(f)
	if got := impl.PutFrame(f); !bytes.Equal(got, b) {
		t.Errorf("PutFrame(%+v) = %q, want %q", f, got, b)
	}
	for _, rest := range rests() {
		whole := append(slices.Clone(b), rest...)
		if got, n, code := impl.GetFrame(whole); got != f || n != len(b) || code != impl.GoGood {
			t.Errorf("GetFrame(%q) = %+v, %d, %d, want %+v, %d", whole, got, n, code, f, len(b))
		}
		checkFrames(t, whole)
	}
	text := frameWord(f.Kind)
	if f.Kind == impl.FrReady {
		text += " " + strconv.Itoa(f.St)
	} else if f.Text != "" {
		text += " " + f.Text
	}
	if got := impl.FrameText(f); got != text {
		t.Errorf("FrameText(%+v) = %q, want %q", f, got, text)
	}
}

// checkBadFrame checks an invalid frame, and that the encoding it would have is not accepted either.
func checkBadFrame(t *testing.T, f impl.Frame) {
	t.Helper()
	if impl.FrameOk(f) || isFrame(f) {
		t.Errorf("FrameOk(%+v) is %v", f, impl.FrameOk(f))
	}
	if b := impl.PutFrame(f); len(b) != 0 {
		t.Errorf("PutFrame(%+v) = %q", f, b)
	}
	if s := impl.FrameText(f); s != "" {
		t.Errorf("FrameText(%+v) = %q", f, s)
	}
	if !fitsFrame(f) {
		return
	}
	for _, rest := range rests() {
		checkCode(t, append(rawFrame(f), rest...), impl.GoBad)
	}
}

func checkAnyFrame(t *testing.T, f impl.Frame) {
	t.Helper()
	if isFrame(f) {
		checkFrame(t, f)
	} else {
		checkBadFrame(t, f)
	}
}

// goodFrames are valid frames of every kind, of which no two have the same encoding.
func goodFrames() []impl.Frame {
	return []impl.Frame{
		hello("main"), hello("a"), hello("qwertyui"), query("a b"), query(""), query("begin"), bye(), answer(""), answer("~ !"), answer(strings.Repeat("x", 100)),
		ready(0), ready(1), ready(2), failure("x"), failure(""), failure(strings.Repeat(" ", 100)), query(strings.Repeat("~", 99)),
	}
}

// spokenTexts are valid texts, of which some are names, and some have an effect elsewhere.
func spokenTexts() []string {
	return []string{
		"", " ", "~", "a", "z", "A", "0", "a b", " a", "a ", "main", "abcdefgh", "abcdefghi", "begin", "commit", "rollback", "fail", "hello main", "ready 1",
		`"'\%s`, strings.Repeat("a", 99), strings.Repeat("a", 100), strings.Repeat(" ", 100), strings.Repeat("~", 100),
	}
}

func otherKinds() []int {
	return []int{0, 7, 8, -1, -2, -6, 127, 128, 255, 256, 257, 258, 259, 260, 261, 262, -250, -251, 65536, 65537, 1 << 32, 1<<32 + 3, math.MaxInt64, math.MinInt64, math.MinInt64 + 3}
}

func otherStates() []int {
	return []int{-1, -2, 3, 4, 5, 100, 127, 128, 254, 255, 256, 257, 258, 512, -254, -255, -256, 65536, 65537, 1 << 32, 1<<32 + 1, math.MaxInt64, math.MinInt64, math.MinInt64 + 1}
}

func TestFrameConstants(t *testing.T) {
	kinds := []int{impl.FrHello, impl.FrQuery, impl.FrBye, impl.FrRow, impl.FrReady, impl.FrError}
	if !slices.Equal(kinds, []int{1, 2, 3, 4, 5, 6}) {
		t.Error(kinds)
	}
	if impl.GoGood != 0 || impl.GoWait != 1 || impl.GoBad != 2 {
		t.Error(impl.GoGood, impl.GoWait, impl.GoBad)
	}
}

func TestFrameBytesAndTexts(t *testing.T) {
	for _, x := range []struct {
		f       impl.Frame
		b, text string
	}{
		{hello("main"), "\x01\x04main", "hello main"},
		{hello("abcdefgh"), "\x01\x08abcdefgh", "hello abcdefgh"},
		{query("a b"), "\x02\x03a b", "query a b"},
		{query(""), "\x02\x00", "query"},
		{query(" "), "\x02\x01 ", "query  "},
		{bye(), "\x03", "bye"},
		{answer("~"), "\x04\x01~", "row ~"},
		{answer(""), "\x04\x00", "row"},
		{ready(0), "\x05\x00", "ready 0"},
		{ready(1), "\x05\x01", "ready 1"},
		{ready(2), "\x05\x02", "ready 2"},
		{failure("x"), "\x06\x01x", "error x"},
		{failure(""), "\x06\x00", "error"},
		{failure(strings.Repeat("a", 100)), "\x06\x64" + strings.Repeat("a", 100), "error " + strings.Repeat("a", 100)},
	} {
		if b := impl.PutFrame(x.f); string(b) != x.b {
			t.Errorf("PutFrame(%+v) = %q, want %q", x.f, b, x.b)
		}
		if text := impl.FrameText(x.f); text != x.text {
			t.Errorf("FrameText(%+v) = %q, want %q", x.f, text, x.text)
		}
		if f, n, code := impl.GetFrame([]byte(x.b)); f != x.f || n != len(x.b) || code != impl.GoGood {
			t.Errorf("GetFrame(%q) = %+v, %d, %d", x.b, f, n, code)
		}
		checkFrame(t, x.f)
	}
}

func TestGetFrameCodes(t *testing.T) {
	for b, want := range map[string]int{
		"": impl.GoWait, "\x01": impl.GoWait, "\x02": impl.GoWait, "\x03": impl.GoGood, "\x04": impl.GoWait, "\x05": impl.GoWait, "\x06": impl.GoWait,
		"\x00": impl.GoBad, "\x07": impl.GoBad, "\xff": impl.GoBad, "a": impl.GoBad,
		"\x02\x02a": impl.GoWait, "\x02\x02ab": impl.GoGood, "\x02\x02\x1fb": impl.GoBad, "\x02\x02a\x1f": impl.GoBad, "\x02\x02\x1f": impl.GoWait,
		"\x02\x64": impl.GoWait, "\x02\x65": impl.GoBad, "\x02\xff": impl.GoBad, "\x01\x65": impl.GoBad, "\x04\x65": impl.GoBad, "\x06\x65": impl.GoBad,
		// The text of a hello is complete before it is known to be no name.
		"\x01\x00": impl.GoBad, "\x01\x09": impl.GoWait, "\x01\x09abcdefgh": impl.GoWait, "\x01\x09abcdefghi": impl.GoBad, "\x01\x02A": impl.GoWait, "\x01\x02Ab": impl.GoBad,
		"\x01\x64": impl.GoWait, "\x01\x01a": impl.GoGood,
		"\x05\x00": impl.GoGood, "\x05\x02": impl.GoGood, "\x05\x03": impl.GoBad, "\x05\xff": impl.GoBad,
	} {
		checkCode(t, []byte(b), want)
	}
	checkCode(t, nil, impl.GoWait)
}

func TestFrameOkOfAnyTexts(t *testing.T) {
	texts := slices.Concat(spokenTexts(), badTexts(), badNames())
	for _, kind := range append(otherKinds(), 1, 2, 3, 4, 5, 6) {
		for _, text := range texts {
			checkAnyFrame(t, impl.Frame{Kind: kind, Text: text})
		}
	}
	for _, text := range spokenTexts() {
		checkFrame(t, query(text))
		checkFrame(t, answer(text))
		checkFrame(t, failure(text))
	}
	for _, text := range badTexts() {
		for _, kind := range textKinds {
			checkBadFrame(t, impl.Frame{Kind: kind, Text: text})
		}
	}
}

func TestFrameOkOfTextLengths(t *testing.T) {
	for n := range 300 {
		s := strings.Repeat("a", n)
		if n >= 1 && n <= 8 {
			checkFrame(t, hello(s))
		} else {
			checkBadFrame(t, hello(s))
		}
		for _, kind := range []int{impl.FrQuery, impl.FrRow, impl.FrError} {
			if n <= impl.MaxText {
				checkFrame(t, impl.Frame{Kind: kind, Text: s})
			} else {
				checkBadFrame(t, impl.Frame{Kind: kind, Text: s})
			}
		}
	}
}

func TestFrameOkOfEveryByte(t *testing.T) {
	for x := range 256 {
		c := string([]byte{byte(x)})
		for _, s := range []string{c, c + "ab", "a" + c + "b", "ab" + c, "abcdefg" + c} {
			if x >= 'a' && x <= 'z' {
				checkFrame(t, hello(s))
			} else {
				checkBadFrame(t, hello(s))
			}
			for _, kind := range []int{impl.FrQuery, impl.FrRow, impl.FrError} {
				if x >= 32 && x <= 126 {
					checkFrame(t, impl.Frame{Kind: kind, Text: s})
				} else {
					checkBadFrame(t, impl.Frame{Kind: kind, Text: s})
				}
			}
		}
	}
}

func TestFrameOkOfNames(t *testing.T) {
	for _, name := range badNames() {
		checkBadFrame(t, hello(name))
	}
	for _, name := range []string{"a", "z", "az", "main", "logs", "qwertyu", "qwertyui", "zzzzzzzz"} {
		checkFrame(t, hello(name))
	}
}

func TestFrameOkOfStates(t *testing.T) {
	for st := range 3 {
		checkFrame(t, ready(st))
	}
	for _, st := range otherStates() {
		checkBadFrame(t, ready(st))
	}
}

func TestFrameOkOfUnusedFields(t *testing.T) {
	states := append(otherStates(), 1, 2)
	for _, st := range states {
		for _, text := range []string{"a", "main", "", "A", "\x1f"} {
			for _, kind := range textKinds {
				checkBadFrame(t, impl.Frame{Kind: kind, Text: text, St: st})
			}
			checkBadFrame(t, impl.Frame{Kind: impl.FrBye, Text: text, St: st})
		}
	}
	for _, text := range slices.Concat(spokenTexts(), badTexts()) {
		if text == "" {
			continue
		}
		checkBadFrame(t, impl.Frame{Kind: impl.FrBye, Text: text})
		for st := -1; st <= 3; st++ {
			checkBadFrame(t, impl.Frame{Kind: impl.FrReady, Text: text, St: st})
		}
	}
}

func TestFrameOkOfOtherKinds(t *testing.T) {
	for _, kind := range otherKinds() {
		for _, text := range []string{"", "a", "main"} {
			for st := -1; st <= 3; st++ {
				checkBadFrame(t, impl.Frame{Kind: kind, Text: text, St: st})
			}
		}
	}
}

func TestFrameOkOfAnyFields(t *testing.T) {
	for _, kind := range []int{-1, 0, 1, 2, 3, 4, 5, 6, 7, 256, 261, math.MaxInt64} {
		for _, text := range []string{"", "a", " ", "A", strings.Repeat("a", 8), strings.Repeat("a", 9), strings.Repeat("a", 100), strings.Repeat("a", 101), "\x1f", "\x7f"} {
			for _, st := range []int{-1, 0, 1, 2, 3, 256} {
				checkAnyFrame(t, impl.Frame{Kind: kind, Text: text, St: st})
			}
		}
	}
}

func TestGetFrameOfProperPrefixes(t *testing.T) {
	for _, f := range goodFrames() {
		b := rawFrame(f)
		for n := range b {
			checkCode(t, b[:n], impl.GoWait)
			checkCode(t, b[:n:n], impl.GoWait)
		}
		checkCode(t, b, impl.GoGood)
	}
}

func TestGetFrameOfEveryFirstByte(t *testing.T) {
	for x := range 256 {
		for _, rest := range rests() {
			b := append([]byte{byte(x)}, rest...)
			checkFrames(t, b)
			if x == 0 || x > 6 {
				checkCode(t, b, impl.GoBad)
			}
			if x == impl.FrBye {
				checkCode(t, b, impl.GoGood)
			}
		}
	}
}

func TestGetFrameOfEveryLength(t *testing.T) {
	for _, kind := range textKinds {
		for n := range 256 {
			for _, have := range []int{0, 1, n - 1, n, n + 1, n + 300} {
				if have < 0 {
					continue
				}
				b := append([]byte{byte(kind), byte(n)}, bytes.Repeat([]byte("q"), have)...)
				switch {
				case n > impl.MaxText:
					checkCode(t, b, impl.GoBad)
				case have < n:
					checkCode(t, b, impl.GoWait)
				case kind == impl.FrHello && (n == 0 || n > 8):
					checkCode(t, b, impl.GoBad)
				default:
					checkCode(t, b, impl.GoGood)
				}
			}
		}
	}
}

func TestGetFrameOfBadTexts(t *testing.T) {
	for _, kind := range textKinds {
		for x := range 256 {
			for at := range 4 {
				b := append([]byte{byte(kind), 4}, "abcd"...)
				b[2+at] = byte(x)
				for n := 2; n < len(b); n++ {
					checkCode(t, b[:n], impl.GoWait)
				}
				good := x >= 32 && x <= 126
				if kind == impl.FrHello {
					good = x >= 'a' && x <= 'z'
				}
				want := impl.GoBad
				if good {
					want = impl.GoGood
				}
				checkCode(t, b, want)
				checkCode(t, append(b, "\x03"...), want)
			}
		}
	}
}

func TestGetFrameOfEveryStatus(t *testing.T) {
	for x := range 256 {
		for _, rest := range rests() {
			want := impl.GoBad
			if x <= 2 {
				want = impl.GoGood
			}
			checkCode(t, append([]byte{impl.FrReady, byte(x)}, rest...), want)
		}
	}
}

func TestGetFrameOfChangedBytes(t *testing.T) {
	for _, f := range goodFrames() {
		full := rawFrame(f)
		for i := range full {
			checkFrames(t, slices.Delete(slices.Clone(full), i, i+1))
			checkFrames(t, full[i+1:])
			for x := range 256 {
				b := slices.Clone(full)
				b[i] = byte(x)
				checkFrames(t, b)
			}
		}
		for i := range len(full) + 1 {
			for x := range 256 {
				checkFrames(t, slices.Insert(slices.Clone(full), i, byte(x)))
			}
		}
	}
}

// checkEveryString checks all strings of up to n of these bytes behind b.
func checkEveryString(t *testing.T, b []byte, letters string, n int) {
	checkFrames(t, b)
	if n == 0 {
		return
	}
	for i := range len(letters) {
		checkEveryString(t, append(b[:len(b):len(b)], letters[i]), letters, n-1)
	}
}

func TestFramesOfEveryShortString(t *testing.T) {
	checkEveryString(t, nil, "\x00\x01\x02\x03\x04\x05\x06\x07a \x7f", 4)
	checkEveryString(t, nil, "\x01\x02\x03\x05a", 6)
	checkEveryString(t, []byte("\x02"), "\x00\x01\x02\x64\x65\xffaA", 4)
}

func TestFramesOfNothing(t *testing.T) {
	for _, b := range [][]byte{nil, {}, []byte("\x03")[:0], []byte("\x00")[:0]} {
		if l, code := impl.Frames(b); len(l) != 0 || code != impl.GoGood {
			t.Errorf("Frames of nothing = %+v, %d", l, code)
		}
	}
}

func TestFramesOfSeveralFrames(t *testing.T) {
	all := goodFrames()
	for n := range len(all) + 1 {
		for from := range len(all) - n + 1 {
			l := all[from : from+n]
			got, code := impl.Frames(rawFrames(l))
			if !slices.Equal(got, l) || code != impl.GoGood {
				t.Errorf("Frames of %+v = %+v, %d", l, got, code)
			}
			checkFrames(t, rawFrames(l))
		}
	}
}

func TestFramesBeforeARest(t *testing.T) {
	all := goodFrames()
	incomplete := []string{"\x01", "\x02", "\x04", "\x05", "\x06", "\x02\x01", "\x01\x04mai", "\x06\x64" + strings.Repeat("a", 99), "\x02\x02\x1f", "\x01\x09\x00"}
	invalid := []string{"\x00", "\x07", "\xff", "\x05\x03", "\x02\x65", "\x02\x01\x1f", "\x01\x00", "\x01\x01A", "\x01\x09abcdefghi", "\x04\x01\x7f", "\x06\xff"}
	for n := range len(all) + 1 {
		for _, rest := range incomplete {
			b := append(rawFrames(all[:n]), rest...)
			if l, code := impl.Frames(b); !slices.Equal(l, all[:n]) || code != impl.GoWait {
				t.Errorf("Frames(%q) = %+v, %d", b, l, code)
			}
			checkFrames(t, b)
		}
		for _, rest := range invalid {
			// The frames behind the invalid bytes are not read.
			for _, more := range [][]impl.Frame{nil, all[n:], {bye()}} {
				b := append(append(rawFrames(all[:n]), rest...), rawFrames(more)...)
				if l, code := impl.Frames(b); !slices.Equal(l, all[:n]) || code != impl.GoBad {
					t.Errorf("Frames(%q) = %+v, %d", b, l, code)
				}
				checkFrames(t, b)
			}
		}
	}
}

func TestFramesOfManyFrames(t *testing.T) {
	var l []impl.Frame
	for i := range 3000 {
		l = append(l, goodFrames()[i*i%17])
	}
	b := rawFrames(l)
	got, code := impl.Frames(b)
	if !slices.Equal(got, l) || code != impl.GoGood {
		t.Errorf("%d frames, %d", len(got), code)
	}
	got, code = impl.Frames(append(b, "\x02\x01"...))
	if !slices.Equal(got, l) || code != impl.GoWait {
		t.Errorf("%d frames, %d", len(got), code)
	}
	got, code = impl.Frames(append(b, 0))
	if !slices.Equal(got, l) || code != impl.GoBad {
		t.Errorf("%d frames, %d", len(got), code)
	}
	got, code = impl.Frames(bytes.Repeat([]byte{impl.FrBye}, 10000))
	if len(got) != 10000 || got[0] != bye() || got[9999] != bye() || code != impl.GoGood {
		t.Errorf("%d frames, %d", len(got), code)
	}
}

func TestFramesOfCutFrames(t *testing.T) {
	all := goodFrames()
	b := rawFrames(all)
	ends := map[int]int{0: 0}
	end := 0
	for i, f := range all {
		end += len(rawFrame(f))
		ends[end] = i + 1
	}
	complete := 0
	for n := range len(b) + 1 {
		want := impl.GoWait
		if count, ok := ends[n]; ok {
			complete, want = count, impl.GoGood
		}
		if l, code := impl.Frames(b[:n]); !slices.Equal(l, all[:complete]) || code != want {
			t.Errorf("Frames of the first %d bytes = %+v, %d", n, l, code)
		}
	}
}

func TestFramesOfRandomBytes(t *testing.T) {
	r := rand.New(rand.NewSource(6))
	all := goodFrames()
	codes := map[int]int{}
	for range 20000 {
		var b []byte
		for range r.Intn(6) {
			b = append(b, rawFrame(all[r.Intn(len(all))])...)
		}
		for range r.Intn(3) {
			if len(b) > 0 {
				b[r.Intn(len(b))] = byte(r.Intn(256) >> r.Intn(8))
			}
		}
		b = b[:len(b)-r.Intn(min(len(b), 3)+1)]
		codes[checkFrames(t, b)]++
	}
	for code := range 3 {
		if codes[code] < 1000 {
			t.Errorf("the code %d came up %d times", code, codes[code])
		}
	}
}

func TestFramesGiveNewMemory(t *testing.T) {
	for _, f := range goodFrames() {
		a, b := impl.PutFrame(f), impl.PutFrame(f)
		for i := range a[:cap(a)] {
			a[:cap(a)][i] ^= 0xFF
		}
		if !bytes.Equal(b, rawFrame(f)) || !bytes.Equal(impl.PutFrame(f), b) {
			t.Errorf("two encodings of %+v share memory", f)
		}
	}
	none := impl.PutFrame(impl.Frame{})
	for i := range none[:cap(none)] {
		none[:cap(none)][i] = 0xFF
	}
	if len(impl.PutFrame(impl.Frame{})) != 0 {
		t.Error("an empty encoding is kept")
	}
	for _, rest := range []string{"", "\x02", "\x00"} {
		b := append(rawFrames(goodFrames()), rest...)
		x, _ := impl.Frames(b)
		y, _ := impl.Frames(b)
		for i := range x[:cap(x)] {
			x[:cap(x)][i] = impl.Frame{Kind: 9, Text: "other", St: 9}
		}
		if z, _ := impl.Frames(b); !slices.Equal(y, goodFrames()) || !slices.Equal(z, goodFrames()) {
			t.Errorf("two lists of frames share memory: %+v, %+v", y, z)
		}
	}
}
