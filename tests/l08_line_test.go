package tests

import (
	"bytes"
	"fmt"
	"math"
	"math/rand"
	"slices"
	"strings"
	"testing"

	"loop.example/g00482/impl"
)

// flat is a Sock with strings instead of slices, so that all fields can be compared at once.
type flat struct {
	id, kind, hold int
	shut           bool
	in, out        string
	st, done       int
}

func (p flat) String() string {
	return fmt.Sprintf("{id %d kind %d hold %d shut %v in %q out %q st %d done %d}", p.id, p.kind, p.hold, p.shut, p.in, p.out, p.st, p.done)
}

func flatOf(s impl.Sock) flat {
	return flat{s.Id, s.Kind, s.Hold, s.Shut, string(s.In), string(s.Out), s.St, s.Done}
}

func flatsOf(l []impl.Sock) []flat {
	var fs []flat
	for _, s := range l {
		fs = append(fs, flatOf(s))
	}
	return fs
}

// sock returns p as a Sock with bytes behind its In and its Out, and the array behind both. An append to In in place would write to Out.
func (p flat) sock(spare string) (impl.Sock, []byte) {
	whole := []byte(p.in + spare + p.out + spare)
	from := len(p.in) + len(spare)
	s := impl.Sock{Id: p.id, Kind: p.kind, Hold: p.hold, Shut: p.shut, St: p.st, Done: p.done}
	s.In, s.Out = whole[:len(p.in)], whole[from:from+len(p.out)]
	return s, whole
}

// bare returns p as a Sock with nil instead of an empty slice.
func (p flat) bare() impl.Sock {
	s := impl.Sock{Id: p.id, Kind: p.kind, Hold: p.hold, Shut: p.shut, St: p.st, Done: p.done}
	if p.in != "" {
		s.In = []byte(p.in)
	}
	if p.out != "" {
		s.Out = []byte(p.out)
	}
	return s
}

// spares are bytes behind a slice. Some of them would complete a frame that the slice has begun.
func spares() []string {
	return []string{"", "\x00", strings.Repeat("\x00", 9), strings.Repeat("a", 130), strings.Repeat("\xee", 300)}
}

func asker(in string) flat {
	return flat{id: 7, kind: impl.SkAsk, hold: 1, in: in}
}

func line(st int, in, out string, done int) flat {
	return flat{id: 8, kind: impl.SkLine, hold: 2, st: st, in: in, out: out, done: done}
}

func closed(p flat) flat {
	p.shut = true
	return p
}

// spoken is the encoding of frames.
func spoken(l ...impl.Frame) string {
	return string(rawFrames(l))
}

// isSock is a second definition of the valid sockets.
func isSock(p flat) bool {
	switch {
	case p.id < 1 || p.id > 9999 || len(p.in) > 240:
		return false
	case p.hold != 1 && p.hold != 2 && p.hold != 3:
		return false
	case p.kind == 1:
		return p.st == 0 && p.done == 0
	}
	return p.kind == 2 && isState(p.st) && 0 <= p.done && p.done <= len(p.out)
}

// otherHear is a second definition of Hear.
func otherHear(p flat, b string) (flat, bool) {
	q := p
	q.in += b
	if !isSock(q) || p.shut {
		return p, false
	}
	return q, true
}

// otherPeek is a second definition of Peek.
func otherPeek(p flat) (impl.Frame, int) {
	f, _, code := otherGet([]byte(p.in))
	if p.shut && p.in != "" && code == impl.GoWait {
		return impl.Frame{}, impl.GoBad
	}
	return f, code
}

// otherEat is a second definition of Eat.
func otherEat(p flat) flat {
	if f, n, code := otherGet([]byte(p.in)); code == impl.GoGood {
		p.in = strings.TrimPrefix(p.in, string(rawFrame(f)))
		if n < 1 {
			panic("a frame without bytes")
		}
	}
	return p
}

// otherTell is a second definition of Tell.
func otherTell(p flat, f impl.Frame) flat {
	if isSock(p) && isFrame(f) {
		p.out += spoken(f)
	}
	return p
}

// otherServe is a second definition of Answer.
func otherServe(p flat) (flat, bool) {
	if p.kind != 2 || p.shut || !isSock(p) {
		return p, false
	}
	l, _ := otherFrames([]byte(p.out[p.done:]))
	if len(l) == 0 {
		return p, false
	}
	q := p
	said := []impl.Frame{failure("form"), ready(p.st)}
	if l[0].Kind == impl.FrQuery {
		said = otherAnswer(p.st, l[0].Text)
		q.st = said[1].St
	}
	q.in += spoken(said...)
	q.done += len(rawFrame(l[0]))
	if len(q.in) > 240 {
		return p, false
	}
	return q, true
}

// otherFree is a second definition of Free.
func otherFree(l []flat, id, hold int) []flat {
	var kept []flat
	for _, p := range l {
		if p.id == id && hold >= 1 && hold <= 3 {
			for bit := 1; bit <= 2; bit *= 2 {
				if hold&bit != 0 && p.hold&bit != 0 {
					p.hold -= bit
				}
			}
			if p.hold == 0 {
				continue
			}
		}
		kept = append(kept, p)
	}
	return kept
}

// checkSock checks the result of an operation on p, that it neither changes nor shares the memory of its argument, and that its results share none.
func checkSock(t *testing.T, name string, p, want flat, wantOk bool, do func(impl.Sock) (impl.Sock, bool)) {
	t.Helper()
	for _, spare := range spares() {
		arg, whole := p.sock(spare)
		before := string(whole)
		x, ok := do(arg)
		if flatOf(x) != want || ok != wantOk {
			t.Errorf("%s of %+v = %+v, %v, want %+v, %v", name, p, flatOf(x), ok, want, wantOk)
			return
		}
		y, ok := do(arg)
		if flatOf(y) != want || ok != wantOk || flatOf(x) != want {
			t.Errorf("%s of %+v, the second time, = %+v, %v, the first result is %+v", name, p, flatOf(y), ok, flatOf(x))
		}
		if string(whole) != before || flatOf(arg) != p {
			t.Errorf("%s of %+v wrote to its argument: %q", name, p, whole)
		}
		fill(x.In, 1)
		fill(x.Out, 2)
		if all := x.In[:cap(x.In)]; bytes.Count(all, []byte{1}) != len(all) {
			t.Errorf("%s of %+v: In and Out share memory", name, p)
		}
		if string(whole) != before {
			t.Errorf("%s of %+v shares memory with its argument", name, p)
		}
		fill(whole, 3)
		if flatOf(y) != want {
			t.Errorf("%s of %+v shares memory: %+v", name, p, flatOf(y))
		}
	}
	if x, ok := do(p.bare()); flatOf(x) != want || ok != wantOk {
		t.Errorf("%s of %+v without spare capacity = %+v, %v", name, p, flatOf(x), ok)
	}
}

// fill overwrites b and its spare capacity.
func fill(b []byte, x byte) {
	b = b[:cap(b)]
	for i := range b {
		b[i] = x
	}
}

func checkSockOk(t *testing.T, p flat, want bool) {
	t.Helper()
	for _, spare := range spares() {
		s, whole := p.sock(spare)
		before := string(whole)
		if impl.SockOk(s) != want || isSock(p) != want {
			t.Errorf("SockOk(%+v) is not %v", p, want)
		}
		if string(whole) != before || flatOf(s) != p {
			t.Errorf("SockOk(%+v) wrote to its argument", p)
		}
	}
	if impl.SockOk(p.bare()) != want {
		t.Errorf("SockOk(%+v) without spare capacity is not %v", p, want)
	}
	l := []impl.Sock{p.bare()}
	if impl.SocksOk(l) != want {
		t.Errorf("SocksOk of %+v alone is not %v", p, want)
	}
}

func checkHear(t *testing.T, p flat, b string) flat {
	t.Helper()
	want, wantOk := otherHear(p, b)
	for _, spare := range []string{"", "zz", strings.Repeat("\xff", 300)} {
		whole := []byte(b + spare)
		checkSock(t, fmt.Sprintf("Hear %q", b), p, want, wantOk, func(s impl.Sock) (impl.Sock, bool) {
			return impl.Hear(s, whole[:len(b)])
		})
		if string(whole) != b+spare {
			t.Errorf("Hear(%+v, %q) wrote to the bytes, or shares them: %q", p, b, whole)
		}
		s, _ := impl.Hear(p.bare(), whole[:len(b)])
		fill(whole, 4)
		if flatOf(s) != want {
			t.Errorf("Hear(%+v, %q) shares its bytes: %+v", p, b, flatOf(s))
		}
	}
	return want
}

func checkPeek(t *testing.T, p flat) int {
	t.Helper()
	want, wantCode := otherPeek(p)
	for _, spare := range spares() {
		s, whole := p.sock(spare)
		before := string(whole)
		f, code := impl.Peek(s)
		if f != want || code != wantCode {
			t.Errorf("Peek(%+v) = %+v, %d, want %+v, %d", p, f, code, want, wantCode)
		}
		if string(whole) != before || flatOf(s) != p {
			t.Errorf("Peek(%+v) wrote to its argument", p)
		}
		fill(whole, 3)
		if f != want {
			t.Errorf("Peek(%+v) shares memory with its argument: %+v", p, f)
		}
	}
	if f, code := impl.Peek(p.bare()); f != want || code != wantCode {
		t.Errorf("Peek(%+v) without spare capacity = %+v, %d", p, f, code)
	}
	return wantCode
}

func checkEat(t *testing.T, p flat) flat {
	t.Helper()
	want := otherEat(p)
	checkSock(t, "Eat", p, want, true, func(s impl.Sock) (impl.Sock, bool) { return impl.Eat(s), true })
	return want
}

func checkTell(t *testing.T, p flat, f impl.Frame) flat {
	t.Helper()
	want := otherTell(p, f)
	checkSock(t, fmt.Sprintf("Tell %+v", f), p, want, true, func(s impl.Sock) (impl.Sock, bool) { return impl.Tell(s, f), true })
	return want
}

func checkServe(t *testing.T, p flat) (flat, bool) {
	t.Helper()
	want, ok := otherServe(p)
	checkSock(t, "Answer", p, want, ok, impl.Answer)
	if ok && !isSock(want) {
		t.Errorf("Answer of %+v leads to %+v", p, want)
	}
	return want, ok
}

// checkOperations compares every operation on p with its second definition.
func checkOperations(t *testing.T, p flat) {
	t.Helper()
	checkSockOk(t, p, isSock(p))
	checkPeek(t, p)
	checkEat(t, p)
	checkServe(t, p)
	for _, f := range []impl.Frame{query("one"), bye(), ready(2), {}, hello(""), ready(3)} {
		checkTell(t, p, f)
	}
	room := max(0, 240-len(p.in))
	for _, b := range []string{"", "a", "\x00\xff", strings.Repeat("b", room), strings.Repeat("c", room+1)} {
		checkHear(t, p, b)
	}
}

// roomySocks returns the sockets of l in a slice with spare capacity, behind which there are valid ones, and all their arrays.
func roomySocks(l []flat, spare string) ([]impl.Sock, []impl.Sock, [][]byte) {
	var whole []impl.Sock
	var arrays [][]byte
	for _, p := range slices.Concat(l, []flat{{id: 9998, kind: 1, hold: 1}, {id: 9999, kind: 2, hold: 3, in: "in", out: "out", done: 3}}) {
		s, array := p.sock(spare)
		whole = append(whole, s)
		arrays = append(arrays, array)
	}
	return whole[:len(l)], whole, arrays
}

func checkFree(t *testing.T, l []flat, id, hold int) []flat {
	t.Helper()
	want := otherFree(l, id, hold)
	for _, spare := range spares() {
		arg, whole, arrays := roomySocks(l, spare)
		before := flatsOf(whole)
		bytesBefore := string(bytes.Join(arrays, nil))
		unchanged := func() bool {
			return slices.Equal(flatsOf(whole), before) && string(bytes.Join(arrays, nil)) == bytesBefore
		}
		x, y := impl.Free(arg, id, hold), impl.Free(arg, id, hold)
		if !slices.Equal(flatsOf(x), want) || !slices.Equal(flatsOf(y), want) {
			t.Errorf("Free(%+v, %d, %d) = %+v and %+v, want %+v", l, id, hold, flatsOf(x), flatsOf(y), want)
			return want
		}
		if !unchanged() {
			t.Errorf("Free(%+v, %d, %d) wrote to its argument", l, id, hold)
		}
		checkOverwritten(t, x)
		if !unchanged() {
			t.Errorf("Free(%+v, %d, %d) shares memory with its argument", l, id, hold)
		}
		for _, array := range arrays {
			fill(array, 0xFE)
		}
		clear(whole)
		if !slices.Equal(flatsOf(y), want) {
			t.Errorf("Free(%+v, %d, %d) shares memory: %+v", l, id, hold, flatsOf(y))
		}
	}
	return want
}

// checkOverwritten overwrites a list and its sockets, and checks that no two of its slices share memory.
func checkOverwritten(t *testing.T, l []impl.Sock) {
	t.Helper()
	var parts [][]byte
	for _, s := range l[:cap(l)] {
		parts = append(parts, s.In[:cap(s.In)], s.Out[:cap(s.Out)])
	}
	for i, b := range parts {
		fill(b, byte(i))
	}
	for i, b := range parts {
		if bytes.Count(b, []byte{byte(i)}) != len(b) {
			t.Errorf("two slices of one list share memory")
			return
		}
	}
	clear(l[:cap(l)])
}

func checkSocksOk(t *testing.T, l []flat, want bool) {
	t.Helper()
	for _, spare := range spares() {
		arg, whole, arrays := roomySocks(l, spare)
		before, bytesBefore := flatsOf(whole), string(bytes.Join(arrays, nil))
		if impl.SocksOk(arg) != want {
			t.Errorf("SocksOk(%+v) is not %v", l, want)
		}
		if !slices.Equal(flatsOf(whole), before) || string(bytes.Join(arrays, nil)) != bytesBefore {
			t.Errorf("SocksOk(%+v) wrote to its argument", l)
		}
	}
}

func checkSockAt(t *testing.T, l []flat, id, want int) {
	t.Helper()
	arg, whole, _ := roomySocks(l, "x")
	before := flatsOf(whole)
	if got := impl.SockAt(arg, id); got != want {
		t.Errorf("SockAt(%+v, %d) = %d, want %d", l, id, got, want)
	}
	if !slices.Equal(flatsOf(whole), before) {
		t.Errorf("SockAt(%+v, %d) wrote to its argument", l, id)
	}
}

// rowOf returns n valid sockets with the Ids from, from+1, ..
func rowOf(from, n int) []flat {
	var l []flat
	for i := range n {
		p := flat{id: from + i, kind: impl.SkAsk, hold: 1 + i%3, in: strings.Repeat("i", i), out: strings.Repeat("o", 2*i)}
		if i%2 == 1 {
			p.kind, p.st, p.done, p.shut = impl.SkLine, i%3, i, i%4 == 1
		}
		l = append(l, p)
	}
	return l
}

// badSocks are invalid sockets, each with one field that is not as stated. Their bytes are such that an operation would have an effect if they were valid.
func badSocks() []flat {
	in, out := spoken(query("one")), spoken(query("begin"))
	good := []flat{{id: 3, kind: 1, hold: 1, in: in, out: out}, {id: 4, kind: 2, hold: 3, in: in, out: out, st: 1}}
	var l []flat
	for _, p := range good {
		for _, n := range []int{0, -1, -9999, 10000, 10001, 65537, 1<<32 + 3, math.MaxInt64, math.MinInt64} {
			q := p
			q.id = n
			l = append(l, q)
		}
		for _, n := range []int{0, 3, 4, -1, -2, 257, 258, 1<<32 + 1, 1<<32 + 2, math.MaxInt64, math.MinInt64} {
			q := p
			q.kind, q.st = n, 0
			l = append(l, q)
		}
		for _, n := range []int{0, 4, 5, 6, 7, 8, -1, -2, -3, 257, 259, 1<<32 + 3, math.MaxInt64, math.MinInt64} {
			q := p
			q.hold = n
			l = append(l, q)
		}
		for _, n := range []int{-1, 3, 4, 256, 257, math.MaxInt64, math.MinInt64} {
			q := p
			q.st = n
			l = append(l, q)
		}
		for _, n := range []int{-1, -2, len(out) + 1, len(out) + 2, 256, math.MaxInt64, math.MinInt64} {
			q := p
			q.done = n
			l = append(l, q)
		}
		for _, n := range []int{241, 242, 256, 480, 1000} {
			q := p
			q.in = in + strings.Repeat("x", n-len(in))
			l = append(l, q)
		}
	}
	for _, x := range [][2]int{{1, 0}, {2, 0}, {0, 1}, {0, len(out)}, {1, 1}} {
		l = append(l, flat{id: 3, kind: 1, hold: 1, in: in, out: out, st: x[0], done: x[1]})
	}
	return append(l, flat{}, flat{shut: true}, flat{in: in, out: out})
}

func TestSockLimits(t *testing.T) {
	if impl.SkAsk != 1 || impl.SkLine != 2 || impl.MaxSocks != 12 || impl.MaxIn != 240 || impl.MaxSock != 9999 {
		t.Error(impl.SkAsk, impl.SkLine, impl.MaxSocks, impl.MaxIn, impl.MaxSock)
	}
}

func TestSockOk(t *testing.T) {
	for _, x := range []struct {
		p    flat
		want bool
	}{
		{flat{id: 1, kind: 1, hold: 1}, true},
		{flat{id: 9999, kind: 2, hold: 3}, true},
		{flat{id: 0, kind: 1, hold: 1}, false},
		{flat{id: 10000, kind: 2, hold: 1}, false},
		{flat{id: -1, kind: 1, hold: 1}, false},
		{flat{id: 5, kind: 0, hold: 1}, false},
		{flat{id: 5, kind: 3, hold: 1}, false},
		{flat{id: 5, kind: 1, hold: 0}, false},
		{flat{id: 5, kind: 1, hold: 2}, true},
		{flat{id: 5, kind: 2, hold: 4}, false},
		{flat{id: 5, kind: 2, hold: -1}, false},
		{flat{id: 5, kind: 1, hold: 1, in: long(240)}, true},
		{flat{id: 5, kind: 1, hold: 1, in: long(241)}, false},
		{flat{id: 5, kind: 2, hold: 1, in: long(240), out: long(5000)}, true},
		{flat{id: 5, kind: 2, hold: 1, in: long(241)}, false},
		{flat{id: 5, kind: 1, hold: 1, out: long(241)}, true},
		{flat{id: 5, kind: 1, hold: 1, shut: true, in: "\xff", out: "\xff"}, true},
		{flat{id: 5, kind: 2, hold: 1, st: 2, shut: true}, true},
		{flat{id: 5, kind: 2, hold: 1, st: 3}, false},
		{flat{id: 5, kind: 2, hold: 1, st: -1}, false},
		{flat{id: 5, kind: 2, hold: 1, out: "abc", done: 3}, true},
		{flat{id: 5, kind: 2, hold: 1, out: "abc", done: 4}, false},
		{flat{id: 5, kind: 2, hold: 1, out: "abc", done: -1}, false},
		{flat{id: 5, kind: 2, hold: 1, done: 1}, false},
		{flat{id: 5, kind: 2, hold: 1, in: "abcd", out: "abc", done: 4}, false},
		{flat{id: 5, kind: 1, hold: 1, st: 1}, false},
		{flat{id: 5, kind: 1, hold: 1, out: "abc", done: 1}, false},
		{flat{id: 5, kind: 1, hold: 1, out: "abc", done: 3}, false},
		{flat{}, false},
	} {
		checkSockOk(t, x.p, x.want)
	}
}

func TestSockOkOfAnyFields(t *testing.T) {
	for kind := -1; kind <= 4; kind++ {
		for _, id := range []int{0, 1, 2, 9998, 9999, 10000} {
			for hold := -1; hold <= 8; hold++ {
				for st := -1; st <= 3; st++ {
					for done := -1; done <= 4; done++ {
						p := flat{id: id, kind: kind, hold: hold, st: st, out: "out", done: done, shut: done == 0}
						if got := impl.SockOk(p.bare()); got != isSock(p) {
							t.Errorf("SockOk(%+v) = %v", p, got)
						}
					}
				}
			}
		}
	}
}

func TestSockOkOfEveryId(t *testing.T) {
	for id := -300; id <= 10300; id++ {
		for kind := 1; kind <= 2; kind++ {
			p := flat{id: id, kind: kind, hold: 1}
			if got := impl.SockOk(p.bare()); got != (id >= 1 && id <= 9999) {
				t.Errorf("SockOk(%+v) = %v", p, got)
			}
		}
	}
}

func TestSockOkOfEveryLength(t *testing.T) {
	for n := range 600 {
		for _, p := range []flat{asker(long(n)), line(1, long(n), "", 0), line(2, "", long(n), n), line(0, long(n), long(n), n/2)} {
			want := n <= 240 || p.in == ""
			if got := impl.SockOk(p.bare()); got != want {
				t.Errorf("SockOk with %d bytes in and %d out is %v", len(p.in), len(p.out), got)
			}
		}
		for done := n - 2; done <= n+2; done++ {
			p := line(0, "", long(n), done)
			if got := impl.SockOk(p.bare()); got != (done >= 0 && done <= n) {
				t.Errorf("SockOk with %d bytes out and %d of them done is %v", n, done, got)
			}
		}
	}
}

func TestBadSocks(t *testing.T) {
	for _, p := range badSocks() {
		if isSock(p) {
			t.Fatalf("%+v is valid", p)
		}
		checkSockOk(t, p, false)
		for _, b := range []string{"", "a"} {
			checkSock(t, "Hear", p, p, false, func(s impl.Sock) (impl.Sock, bool) { return impl.Hear(s, []byte(b)) })
		}
		for _, f := range append(goodFrames(), impl.Frame{}) {
			checkSock(t, "Tell", p, p, true, func(s impl.Sock) (impl.Sock, bool) { return impl.Tell(s, f), true })
		}
		checkSock(t, "Answer", p, p, false, impl.Answer)
		checkOperations(t, p)
		checkOperations(t, closed(p))
	}
}

func TestSocksOk(t *testing.T) {
	for n := range 40 {
		checkSocksOk(t, rowOf(1, n), n <= 12)
	}
	checkSocksOk(t, rowOf(9988, 12), true)
	checkSocksOk(t, rowOf(9987, 13), false)
	checkSocksOk(t, rowOf(9989, 12), false)
	checkSocksOk(t, rowOf(0, 3), false)
	checkSocksOk(t, nil, true)
	if !impl.SocksOk(nil) || !impl.SocksOk([]impl.Sock{}) {
		t.Error("the empty list is valid")
	}
}

func TestSocksOkOfOrder(t *testing.T) {
	ids := []int{1, 2, 3, 9999}
	for _, a := range ids {
		for _, b := range ids {
			for _, c := range ids {
				l := rowOf(1, 3)
				l[0].id, l[1].id, l[2].id = a, b, c
				checkSocksOk(t, l, a < b && b < c)
				checkSocksOk(t, l[:2], a < b)
				checkSocksOk(t, l[:1], true)
			}
		}
	}
	l := rowOf(5, 12)
	for i := range 11 {
		x := slices.Clone(l)
		x[i], x[i+1] = x[i+1], x[i]
		checkSocksOk(t, x, false)
		x = slices.Clone(l)
		x[i+1].id = x[i].id
		checkSocksOk(t, x, false)
		x[i+1] = x[i]
		checkSocksOk(t, x, false)
	}
	slices.Reverse(l)
	checkSocksOk(t, l, false)
}

func TestSocksOkWithOneBadSocket(t *testing.T) {
	for i := range 12 {
		for _, bad := range []func(*flat){
			func(p *flat) { p.hold = 0 },
			func(p *flat) { p.hold = 4 },
			func(p *flat) { p.kind = 0 },
			func(p *flat) { p.kind = 3 },
			func(p *flat) { p.st = 3 },
			func(p *flat) { p.st = -1 },
			func(p *flat) { p.done = len(p.out) + 1 },
			func(p *flat) { p.in = long(241) },
		} {
			l := rowOf(1, 12)
			bad(&l[i])
			checkSocksOk(t, l, false)
			checkSocksOk(t, l[:i+1], false)
			checkSocksOk(t, l[:i], true)
		}
	}
}

func TestSockAt(t *testing.T) {
	l := rowOf(1, 12)
	for i := range 12 {
		checkSockAt(t, l, i+1, i)
		checkSockAt(t, l[:i], i+1, -1)
	}
	for _, id := range []int{0, -1, 13, 9998, 9999, 10000, 65537, 1<<32 + 1, math.MaxInt64, math.MinInt64} {
		checkSockAt(t, l, id, -1)
		checkSockAt(t, nil, id, -1)
	}
	// The first one counts, also in a list that is not valid.
	checkSockAt(t, []flat{{id: 4}, {id: 9}, {id: 4, kind: 1, hold: 1}, {id: 9}}, 4, 0)
	checkSockAt(t, []flat{{id: 4}, {id: 9}, {id: 4, kind: 1, hold: 1}, {id: 9}}, 9, 1)
	checkSockAt(t, []flat{{id: 9}, {id: 5}, {id: 4}, {id: 4}}, 4, 2)
	checkSockAt(t, []flat{{id: 5, shut: true}, {}, {id: -3}, {id: math.MaxInt64}}, 0, 1)
	checkSockAt(t, []flat{{id: 5, shut: true}, {}, {id: -3}, {id: math.MaxInt64}}, -3, 2)
	checkSockAt(t, []flat{{id: 5, shut: true}, {}, {id: -3}, {id: math.MaxInt64}}, math.MaxInt64, 3)
	many := rowOf(20, 300)
	for i := range many {
		checkSockAt(t, many, 20+i, i)
	}
}

func TestHear(t *testing.T) {
	for _, x := range []struct {
		p    flat
		b    string
		want string
		ok   bool
	}{
		{asker(""), "", "", true},
		{asker(""), "ab", "ab", true},
		{asker("ab"), "", "ab", true},
		{asker("ab"), "c\x00d", "abc\x00d", true},
		{asker(""), long(240), long(240), true},
		{asker(""), long(241), "", false},
		{asker("a"), "b" + long(238), "ab" + long(238), true},
		{asker("a"), "b" + long(239), "a", false},
		{asker(long(239)), "a", long(239) + "a", true},
		{asker(long(239)), "ab", long(239), false},
		{asker(long(240)), "", long(240), true},
		{asker(long(240)), "a", long(240), false},
		{asker(long(240)), long(70000), long(240), false},
		{line(2, "ab", "out", 3), "c", "abc", true},
		{line(0, "", "out", 0), long(240), long(240), true},
		{line(0, "", "out", 0), long(241), "", false},
		{closed(asker("")), "", "", false},
		{closed(asker("ab")), "", "ab", false},
		{closed(asker("ab")), "c", "ab", false},
		{closed(line(1, "ab", "out", 1)), "c", "ab", false},
		{asker(long(241)), "", long(241), false},
		{flat{in: "ab"}, "c", "ab", false},
	} {
		want := x.p
		want.in = x.want
		if got := checkHear(t, x.p, x.b); got != want {
			t.Errorf("Hear(%+v, %q) should lead to %+v, not %+v", x.p, x.b, want, got)
		}
		if _, ok := impl.Hear(x.p.bare(), []byte(x.b)); ok != x.ok {
			t.Errorf("Hear(%+v, %q) reports %v", x.p, x.b, ok)
		}
	}
	if s, ok := impl.Hear(asker("ab").bare(), nil); flatOf(s) != asker("ab") || !ok {
		t.Errorf("Hear of nil = %+v, %v", flatOf(s), ok)
	}
}

func TestHearOfEveryLength(t *testing.T) {
	for n := range 245 {
		for _, p := range []flat{asker(long(n)), line(1, long(n), spoken(query("one")), 0)} {
			for _, room := range []int{240 - n, 241 - n, 0, 1} {
				if room < 0 {
					continue
				}
				b := strings.Repeat("b", room)
				s, ok := impl.Hear(p.bare(), []byte(b))
				want := p
				if n+room <= 240 {
					want.in += b
				}
				if ok != (n+room <= 240) || flatOf(s) != want {
					t.Errorf("Hear of %d bytes after %d reports %v: %+v", room, n, ok, flatOf(s))
				}
			}
		}
	}
}

func TestHearOfEveryByte(t *testing.T) {
	all := make([]byte, 256)
	for x := range all {
		all[x] = byte(x)
		c := string([]byte{byte(x)})
		for _, p := range []flat{asker(""), asker("ab"), line(2, "\x01", "\x02", 1), closed(asker(c))} {
			checkHear(t, p, c)
			checkHear(t, p, "a"+c+"b")
		}
	}
	// Bytes that are heard one by one are the same as bytes that are heard at once.
	for _, p := range []flat{asker(""), line(0, "", "out", 2)} {
		for _, size := range []int{1, 2, 3, 7, 50, 240} {
			s, q := p.bare(), p
			for b := all[10:250]; len(b) > 0; {
				n := min(size, len(b))
				var ok bool
				s, ok = impl.Hear(s, b[:n])
				q.in += string(b[:n])
				b = b[n:]
				if flatOf(s) != q || !ok {
					t.Fatalf("Hear in parts of %d: %+v, %v, want %+v", size, flatOf(s), ok, q)
				}
			}
			if s, ok := impl.Hear(s, []byte("a")); flatOf(s) != q || ok {
				t.Errorf("a full socket hears %+v", flatOf(s))
			}
		}
	}
}

func TestHearOfItsOwnBytes(t *testing.T) {
	for _, p := range []flat{asker("abc"), line(1, "abc", "de", 2), closed(asker("abc")), asker(long(121))} {
		for _, spare := range spares() {
			s, whole := p.sock(spare)
			before := string(whole)
			for _, b := range [][]byte{s.In, s.Out, s.In[1:], s.In[:0], whole} {
				want, wantOk := otherHear(p, string(b))
				x, ok := impl.Hear(s, b)
				fill(x.Out, 1)
				if x.Out = []byte(p.out); flatOf(x) != want || ok != wantOk || string(whole) != before {
					t.Errorf("Hear(%+v, %q) = %+v, %v", p, b, flatOf(x), ok)
				}
				fill(x.In, 2)
				if string(whole) != before {
					t.Errorf("Hear(%+v, %q) shares memory", p, b)
				}
			}
		}
	}
}

func TestPeekAndEat(t *testing.T) {
	none := impl.Frame{}
	for _, x := range []struct {
		in     string
		want   impl.Frame
		code   int
		rest   string
		closed int
	}{
		{"", none, impl.GoWait, "", impl.GoWait},
		{"\x03", bye(), impl.GoGood, "", impl.GoGood},
		{"\x05\x02", ready(2), impl.GoGood, "", impl.GoGood},
		{"\x01\x04main", hello("main"), impl.GoGood, "", impl.GoGood},
		{"\x02\x00", query(""), impl.GoGood, "", impl.GoGood},
		{"\x04\x03a b", answer("a b"), impl.GoGood, "", impl.GoGood},
		{"\x06\x04form", failure("form"), impl.GoGood, "", impl.GoGood},
		{"\x03\x03", bye(), impl.GoGood, "\x03", impl.GoGood},
		{"\x02\x01a\x02", query("a"), impl.GoGood, "\x02", impl.GoGood},
		{"\x02\x01a\x02\x01b\x05\x01", query("a"), impl.GoGood, "\x02\x01b\x05\x01", impl.GoGood},
		{"\x05\x00\xff\x02", ready(0), impl.GoGood, "\xff\x02", impl.GoGood},
		{"\x02", none, impl.GoWait, "\x02", impl.GoBad},
		{"\x02\x02a", none, impl.GoWait, "\x02\x02a", impl.GoBad},
		{"\x05", none, impl.GoWait, "\x05", impl.GoBad},
		{"\x01\x04mai", none, impl.GoWait, "\x01\x04mai", impl.GoBad},
		{"\x06\x64", none, impl.GoWait, "\x06\x64", impl.GoBad},
		{"\x06\x65", none, impl.GoBad, "\x06\x65", impl.GoBad},
		{"\x00", none, impl.GoBad, "\x00", impl.GoBad},
		{"\x07\x00", none, impl.GoBad, "\x07\x00", impl.GoBad},
		{"\x05\x03", none, impl.GoBad, "\x05\x03", impl.GoBad},
		{"\x01\x00\x03", none, impl.GoBad, "\x01\x00\x03", impl.GoBad},
		{"\x02\x01\x1f\x03", none, impl.GoBad, "\x02\x01\x1f\x03", impl.GoBad},
	} {
		for _, p := range []flat{asker(x.in), line(1, x.in, "out", 2), {in: x.in}, {id: 3, kind: 9, hold: 9, st: -5, done: 7, in: x.in}} {
			if f, code := impl.Peek(p.bare()); f != x.want || code != x.code {
				t.Errorf("Peek(%+v) = %+v, %d, want %+v, %d", p, f, code, x.want, x.code)
			}
			if f, code := impl.Peek(closed(p).bare()); f != x.want || code != x.closed {
				t.Errorf("Peek(%+v) = %+v, %d, want %+v, %d", closed(p), f, code, x.want, x.closed)
			}
			for _, p := range []flat{p, closed(p)} {
				checkPeek(t, p)
				want := p
				want.in = x.rest
				if got := checkEat(t, p); got != want {
					t.Errorf("Eat(%+v) should lead to %+v, not %+v", p, want, got)
				}
			}
		}
	}
}

func TestPeekAndEatOfEveryFrame(t *testing.T) {
	for _, f := range goodFrames() {
		b := spoken(f)
		for n := range len(b) {
			for _, p := range []flat{asker(b[:n]), line(0, b[:n], b, len(b))} {
				if code := checkPeek(t, p); code != impl.GoWait {
					t.Errorf("Peek(%+v) = %d", p, code)
				}
				want := impl.GoBad
				if n == 0 {
					want = impl.GoWait
				}
				if code := checkPeek(t, closed(p)); code != want {
					t.Errorf("Peek(%+v) = %d, want %d", closed(p), code, want)
				}
				if checkEat(t, p) != p || checkEat(t, closed(p)) != closed(p) {
					t.Errorf("a part of %+v was eaten", f)
				}
			}
		}
		for _, rest := range rests() {
			for _, p := range []flat{asker(b + rest), closed(asker(b + rest)), line(2, b+rest, b, 0), closed(line(1, b+rest, "", 0))} {
				if code := checkPeek(t, p); code != impl.GoGood {
					t.Errorf("Peek(%+v) = %d", p, code)
				}
				if q := checkEat(t, p); q.in != rest {
					t.Errorf("Eat(%+v) leaves %q", p, q.in)
				}
			}
		}
	}
}

func TestPeekAndEatOfEveryShortString(t *testing.T) {
	letters := "\x00\x01\x02\x03\x05\x06\x07\x1fa~\x64\x65\xff"
	var visit func(in string, n int)
	visit = func(in string, n int) {
		for _, p := range []flat{asker(in), closed(asker(in))} {
			want, wantCode := otherPeek(p)
			s, whole := p.sock("a\x00a")
			before := string(whole)
			f, code := impl.Peek(s)
			x := impl.Eat(s)
			if f != want || code != wantCode || flatOf(x) != otherEat(p) || string(whole) != before {
				t.Errorf("Peek(%+v) = %+v, %d; Eat = %+v", p, f, code, flatOf(x))
			}
		}
		if n == 0 {
			return
		}
		for i := range len(letters) {
			visit(in+letters[i:i+1], n-1)
		}
	}
	visit("", 4)
}

func TestEatTakesFramesInOrder(t *testing.T) {
	l := []impl.Frame{query("begin"), query("one"), bye(), ready(1), answer("a b"), hello("main"), failure("x"), query(""), ready(0)}
	for n := range len(l) + 1 {
		for _, rest := range []string{"", "\x02\x05be", "\x00"} {
			for _, p := range []flat{asker(spoken(l[:n]...) + rest), closed(asker(spoken(l[:n]...) + rest)), line(1, spoken(l[:n]...)+rest, "out", 0)} {
				s := p.bare()
				for _, want := range l[:n] {
					if f, code := impl.Peek(s); f != want || code != impl.GoGood {
						t.Errorf("Peek = %+v, %d, want %+v", f, code, want)
					}
					s = impl.Eat(s)
				}
				p.in = rest
				if flatOf(s) != p || flatOf(impl.Eat(s)) != p {
					t.Errorf("%+v is left, want %+v", flatOf(s), p)
				}
			}
		}
	}
}

func TestTell(t *testing.T) {
	for _, x := range []struct {
		p    flat
		f    impl.Frame
		want string
	}{
		{asker(""), hello("main"), "\x01\x04main"},
		{asker(""), query("a b"), "\x02\x03a b"},
		{asker(""), bye(), "\x03"},
		{asker(""), answer(""), "\x04\x00"},
		{asker("in"), ready(2), "\x05\x02"},
		{asker(""), failure("form"), "\x06\x04form"},
		{line(0, "", "\x03", 0), bye(), "\x03\x03"},
		{line(2, "in", "\x03", 1), query("x"), "\x03\x02\x01x"},
		{line(0, "", "\x02", 1), ready(0), "\x02\x05\x00"},
		{closed(asker("ab")), ready(1), "\x05\x01"},
		{closed(line(1, "", "zz", 2)), query(""), "zz\x02\x00"},
		{asker(""), impl.Frame{}, ""},
		{line(0, "", "ab", 0), ready(3), "ab"},
		{line(0, "", "ab", 0), hello(""), "ab"},
		{line(0, "", "ab", 0), query("\x1f"), "ab"},
		{line(0, "", "ab", 0), answer(strings.Repeat("a", 101)), "ab"},
		{line(0, "", "ab", 0), impl.Frame{Kind: impl.FrBye, St: 1}, "ab"},
		{line(0, "", "ab", 0), impl.Frame{Kind: 7}, "ab"},
		{flat{out: "ab"}, bye(), "ab"},
		{asker(long(241)), bye(), ""},
		{line(3, "", "ab", 0), bye(), "ab"},
		{line(0, "", "ab", 3), bye(), "ab"},
	} {
		want := x.p
		want.out = x.want
		if got := checkTell(t, x.p, x.f); got != want {
			t.Errorf("Tell(%+v, %+v) should lead to %+v, not %+v", x.p, x.f, want, got)
		}
	}
}

func TestTellOfEveryFrame(t *testing.T) {
	bad := []impl.Frame{{St: 1}, {Text: "a"}, {Kind: impl.FrHello, Text: "main", St: 1}, {Kind: impl.FrReady, Text: "a"}, {Kind: impl.FrBye, Text: "a"}, hello("Main"), failure("\x7f"), ready(-1)}
	for _, k := range otherKinds() {
		bad = append(bad, impl.Frame{Kind: k})
	}
	for _, p := range []flat{asker(""), asker(long(240)), line(0, "", "", 0), line(2, "in", "\x02\x01a", 3), line(1, "in", long(5000), 4000)} {
		for _, p := range []flat{p, closed(p)} {
			all := p
			s := p.bare()
			for _, f := range append(goodFrames(), bad...) {
				if !isFrame(f) && checkTell(t, p, f) != p {
					t.Errorf("%+v was told", f)
				}
				want := p
				want.out += spoken(f)
				if isFrame(f) && checkTell(t, p, f) != want {
					t.Errorf("%+v was not told", f)
				}
				if isFrame(f) {
					all.out += spoken(f)
				}
				s = impl.Tell(s, f)
			}
			// What is told one after the other is in Out in this order.
			if flatOf(s) != all {
				t.Errorf("told frame by frame: %+v, want %+v", flatOf(s), all)
			}
		}
	}
}

func TestFree(t *testing.T) {
	at := func(id, hold int) flat {
		return flat{id: id, kind: impl.SkLine, hold: hold, in: fmt.Sprint("in", id), out: fmt.Sprint("out", id), st: 1, done: 2}
	}
	for _, x := range []struct {
		l        []flat
		id, hold int
		want     []flat
	}{
		{nil, 4, 3, nil},
		{[]flat{at(4, 1)}, 4, 1, nil},
		{[]flat{at(4, 1)}, 4, 2, []flat{at(4, 1)}},
		{[]flat{at(4, 1)}, 4, 3, nil},
		{[]flat{at(4, 2)}, 4, 1, []flat{at(4, 2)}},
		{[]flat{at(4, 2)}, 4, 2, nil},
		{[]flat{at(4, 2)}, 4, 3, nil},
		{[]flat{at(4, 3)}, 4, 1, []flat{at(4, 2)}},
		{[]flat{at(4, 3)}, 4, 2, []flat{at(4, 1)}},
		{[]flat{at(4, 3)}, 4, 3, nil},
		{[]flat{at(4, 3)}, 4, 0, []flat{at(4, 3)}},
		{[]flat{at(4, 1)}, 4, 4, []flat{at(4, 1)}},
		{[]flat{at(4, 1)}, 4, 5, []flat{at(4, 1)}},
		{[]flat{at(4, 3)}, 4, -1, []flat{at(4, 3)}},
		{[]flat{at(4, 3)}, 5, 3, []flat{at(4, 3)}},
		{[]flat{at(3, 1), at(4, 1), at(5, 1)}, 4, 1, []flat{at(3, 1), at(5, 1)}},
		{[]flat{at(3, 1), at(4, 3), at(5, 1)}, 4, 1, []flat{at(3, 1), at(4, 2), at(5, 1)}},
		{[]flat{at(3, 1), at(4, 1), at(5, 1)}, 3, 1, []flat{at(4, 1), at(5, 1)}},
		{[]flat{at(3, 1), at(4, 1), at(5, 1)}, 5, 1, []flat{at(3, 1), at(4, 1)}},
		{[]flat{at(4, 1), at(4, 3), at(5, 1), at(4, 2)}, 4, 1, []flat{at(4, 2), at(5, 1), at(4, 2)}},
		{[]flat{at(4, 1), at(4, 3), at(5, 1), at(4, 2)}, 4, 3, []flat{at(5, 1)}},
		{[]flat{at(9, 3), at(5, 3), at(9, 3)}, 9, 2, []flat{at(9, 1), at(5, 3), at(9, 1)}},
	} {
		if got := checkFree(t, x.l, x.id, x.hold); !slices.Equal(got, x.want) {
			t.Errorf("Free(%+v, %d, %d) should be %+v, not %+v", x.l, x.id, x.hold, x.want, got)
		}
	}
}

func TestFreeOfEveryHold(t *testing.T) {
	l := rowOf(1, 12)
	holds := []int{-1, 0, 1, 2, 3, 4, 5, 6, 7, 8, -2, -3, -4, 255, 256, 257, 259, 1<<32 + 1, 1<<32 + 3, math.MaxInt64, math.MinInt64, math.MinInt64 + 1}
	for _, hold := range holds {
		for _, id := range []int{1, 2, 3, 5, 12, 13, 0, -1, 65537, math.MaxInt64, math.MinInt64} {
			got := checkFree(t, l, id, hold)
			if hold < 1 || hold > 3 || id < 1 || id > 12 {
				if !slices.Equal(got, l) {
					t.Errorf("Free of the socket %d with hold %d = %+v", id, hold, got)
				}
			}
		}
	}
	for hold := 4; hold < 2000; hold++ {
		for _, n := range []int{hold, -hold} {
			if x := impl.Free([]impl.Sock{l[2].bare()}, 3, n); !slices.Equal(flatsOf(x), l[2:3]) {
				t.Errorf("Free with hold %d = %+v", n, flatsOf(x))
			}
		}
	}
}

func TestFreeOfAListThatIsNotValid(t *testing.T) {
	for _, bad := range badSocks() {
		for hold := -1; hold <= 4; hold++ {
			checkFree(t, []flat{bad, asker("in"), bad}, bad.id, hold)
			checkFree(t, []flat{asker("in"), bad}, 7, hold)
		}
	}
	// A hold that is not from 1 to 3 removes not even a socket that nobody holds.
	l := []flat{{id: 4, kind: impl.SkAsk}, asker("in"), {id: 4}}
	for _, hold := range []int{0, -1, 4, 5, 256, math.MaxInt64, math.MinInt64} {
		if got := checkFree(t, l, 4, hold); !slices.Equal(got, l) {
			t.Errorf("Free(%+v, 4, %d) = %+v", l, hold, got)
		}
	}
	// Sockets in any order, more than there may be.
	l = append(rowOf(1, 20), rowOf(1, 20)...)
	slices.Reverse(l[10:30])
	for id := range 22 {
		for hold := range 5 {
			checkFree(t, l, id, hold)
		}
	}
}

func TestFreeUntilNobodyHolds(t *testing.T) {
	l := rowOf(1, 12)
	for i := range l {
		l[i].hold = 3
	}
	var socks []impl.Sock
	for _, p := range l {
		socks = append(socks, p.bare())
	}
	for i := range 12 {
		socks = impl.Free(socks, 12-i, 1)
		l[11-i].hold = 2
		if !slices.Equal(flatsOf(socks), l) || !impl.SocksOk(socks) {
			t.Errorf("%+v is left, want %+v", flatsOf(socks), l)
		}
	}
	for i := range 12 {
		socks = impl.Free(socks, i+1, 2)
		if !slices.Equal(flatsOf(socks), l[i+1:]) || impl.SockAt(socks, i+1) != -1 || !impl.SocksOk(socks) {
			t.Errorf("%+v is left, want %+v", flatsOf(socks), l[i+1:])
		}
	}
}

func TestAnswer(t *testing.T) {
	one := spoken(query("one"))
	for _, x := range []struct {
		p      flat
		in     string
		st     int
		done   int
		wanted bool
	}{
		{line(0, "", "\x02\x05begin", 0), "\x04\x05begin\x05\x01", 1, 7, true},
		{line(0, "", "\x02\x03one", 0), "\x04\x03one\x05\x00", 0, 5, true},
		{line(0, "", "\x02\x00", 0), "\x04\x00\x05\x00", 0, 2, true},
		{line(0, "", "\x02\x04fail", 0), "\x06\x06failed\x05\x00", 0, 6, true},
		{line(0, "", "\x02\x06commit", 0), "\x04\x06commit\x05\x00", 0, 8, true},
		{line(1, "", "\x02\x05begin", 0), "\x04\x05begin\x05\x01", 1, 7, true},
		{line(1, "", "\x02\x03one", 0), "\x04\x03one\x05\x01", 1, 5, true},
		{line(1, "", "\x02\x04fail", 0), "\x06\x06failed\x05\x02", 2, 6, true},
		{line(1, "", "\x02\x06commit", 0), "\x04\x06commit\x05\x00", 0, 8, true},
		{line(1, "", "\x02\x08rollback", 0), "\x04\x08rollback\x05\x00", 0, 10, true},
		{line(2, "", "\x02\x03one", 0), "\x06\x07aborted\x05\x02", 2, 5, true},
		{line(2, "", "\x02\x04fail", 0), "\x06\x07aborted\x05\x02", 2, 6, true},
		{line(2, "", "\x02\x05begin", 0), "\x06\x07aborted\x05\x02", 2, 7, true},
		{line(2, "", "\x02\x06commit", 0), "\x04\x08rollback\x05\x00", 0, 8, true},
		{line(2, "", "\x02\x08rollback", 0), "\x04\x08rollback\x05\x00", 0, 10, true},
		{line(0, "", "\x01\x04main", 0), "\x06\x04form\x05\x00", 0, 6, true},
		{line(1, "", "\x01\x05begin", 0), "\x06\x04form\x05\x01", 1, 7, true},
		{line(2, "", "\x03", 0), "\x06\x04form\x05\x02", 2, 1, true},
		{line(1, "", "\x04\x06commit", 0), "\x06\x04form\x05\x01", 1, 8, true},
		{line(0, "", "\x04\x05begin", 0), "\x06\x04form\x05\x00", 0, 7, true},
		{line(1, "", "\x05\x00", 0), "\x06\x04form\x05\x01", 1, 2, true},
		{line(0, "", "\x05\x02", 0), "\x06\x04form\x05\x00", 0, 2, true},
		{line(1, "", "\x06\x04fail", 0), "\x06\x04form\x05\x01", 1, 6, true},
		{line(1, "ab", "\x02\x03one\x02\x06commit", 5), "ab\x04\x06commit\x05\x00", 0, 13, true},
		{line(1, "ab", "\x02\x03one\x02\x06commit", 0), "ab\x04\x03one\x05\x01", 1, 5, true},
		// Done need not be where a frame begins.
		{line(0, "", "\x02\x03\x02\x00a", 2), "\x04\x00\x05\x00", 0, 4, true},
		{line(0, "\xff", "zz\x03", 2), "\xff\x06\x04form\x05\x00", 0, 3, true},
		{line(0, "", "\x02\x03one", 1), "\x06\x04form\x05\x00", 0, 2, true},
		{line(0, "", "\x02\x03one", 2), "", 0, 2, false},
		{line(0, "", "", 0), "", 0, 0, false},
		{line(1, "in", one, 5), "in", 1, 5, false},
		{line(1, "in", one[:4], 0), "in", 1, 0, false},
		{line(1, "in", one+"\x05", 5), "in", 1, 5, false},
		{line(0, "", "\x00"+one, 0), "", 0, 0, false},
		{line(0, "", "\x02\x65"+one, 0), "", 0, 0, false},
		{line(0, "", "\x05\x03"+one, 0), "", 0, 0, false},
		{line(0, "", "\x02\x01\x1f"+one, 0), "", 0, 0, false},
		{line(0, "", "\x01\x00"+one, 0), "", 0, 0, false},
		{closed(line(0, "in", one, 0)), "in", 0, 0, false},
		{flat{id: 4, kind: impl.SkAsk, hold: 1, in: "in", out: one}, "in", 0, 0, false},
		{flat{id: 0, kind: impl.SkLine, hold: 1, in: "in", out: one}, "in", 0, 0, false},
		{flat{id: 4, kind: impl.SkLine, hold: 4, in: "in", out: one}, "in", 0, 0, false},
		{line(3, "in", one, 0), "in", 3, 0, false},
		{line(0, "in", one, -1), "in", 0, -1, false},
		{line(0, "in", one, 6), "in", 0, 6, false},
	} {
		want := x.p
		want.in, want.st, want.done = x.in, x.st, x.done
		if got, ok := checkServe(t, x.p); got != want || ok != x.wanted {
			t.Errorf("Answer(%+v) should lead to %+v, %v, not %+v, %v", x.p, want, x.wanted, got, ok)
		}
	}
}

func TestAnswerOfEveryFrame(t *testing.T) {
	frames := goodFrames()
	for _, q := range append(slices.Clone(spokenWords), spokenTexts()...) {
		frames = append(frames, query(q), answer(q), failure(q))
	}
	for _, f := range frames {
		b := spoken(f)
		for st := range 3 {
			for _, before := range []string{"", "\x03", "\x02\x03one", "\xff\x00"} {
				for _, rest := range []string{"", "\x02\x05begin", "\x02\x05beg", "\x00"} {
					p := line(st, "in", before+b+rest, len(before))
					got, ok := checkServe(t, p)
					if !ok || got.done != len(before+b) || got.out != p.out {
						t.Errorf("Answer(%+v) = %+v, %v", p, got, ok)
					}
				}
			}
			for n := range len(b) {
				p := line(st, "in", "\x03"+b[:n], 1)
				if got, ok := checkServe(t, p); ok || got != p {
					t.Errorf("Answer(%+v) = %+v, %v", p, got, ok)
				}
			}
			checkServe(t, closed(line(st, "in", b, 0)))
			checkServe(t, flat{id: 4, kind: impl.SkAsk, hold: 3, in: "in", out: b})
		}
	}
}

func TestAnswerReachesMaxIn(t *testing.T) {
	for _, f := range []impl.Frame{query("one"), query(""), query("begin"), query("commit"), query("rollback"), query("fail"), query(strings.Repeat("q", 100)), hello("main"), bye(), ready(1), failure("x"), answer("y")} {
		for st := range 3 {
			said := spoken(failure("form"), ready(st))
			next := st
			if f.Kind == impl.FrQuery {
				said, next = spoken(otherAnswer(st, f.Text)...), nextStates[st][otherWord(f.Text)]
			}
			for n := 238 - len(said); n <= 240; n++ {
				p := line(st, strings.Repeat("i", n), spoken(f)+"\x03", 0)
				want, ok := p, n+len(said) <= 240
				if ok {
					want.in, want.st, want.done = p.in+said, next, len(spoken(f))
				}
				if got, gotOk := checkServe(t, p); got != want || gotOk != ok {
					t.Errorf("Answer(%+v) = %+v, %v", p, got, gotOk)
				}
			}
		}
	}
}

func TestAnswersComeInOrder(t *testing.T) {
	queries := []string{"one", "begin", "two", "fail", "three", "commit", "begin", "four", "commit", "fail", ""}
	s := line(0, "", "", 0).bare()
	for _, q := range queries {
		s = impl.Tell(s, query(q))
	}
	st := 0
	for i, q := range queries {
		var ok bool
		if s, ok = impl.Answer(s); !ok {
			t.Fatalf("query %d is not answered: %+v", i, flatOf(s))
		}
		for _, want := range otherAnswer(st, q) {
			if f, code := impl.Peek(s); f != want || code != impl.GoGood {
				t.Errorf("query %d: Peek = %+v, %d, want %+v", i, f, code, want)
			}
			s = impl.Eat(s)
		}
		if st = nextStates[st][otherWord(q)]; s.St != st || impl.Walk(0, queries[:i+1]) != st {
			t.Errorf("query %d leads to the status %d, want %d", i, s.St, st)
		}
	}
	if x, ok := impl.Answer(s); ok || flatOf(x) != flatOf(s) || s.Done != len(s.Out) || len(s.In) != 0 {
		t.Errorf("%+v is left", flatOf(s))
	}
}

// A server that has no room for an answer gives the same one when there is room.
func TestAnswerWaitsForRoom(t *testing.T) {
	var p flat
	s := line(0, "", "", 0).bare()
	for range 40 {
		s = impl.Tell(s, query(strings.Repeat("q", 20)))
	}
	answered := 0
	for range 40 {
		x, ok := impl.Answer(s)
		for ok {
			s, answered = x, answered+1
			x, ok = impl.Answer(s)
		}
		if p = flatOf(s); flatOf(x) != p || len(p.in) > 240 || len(p.in)+24 <= 240 && answered < 40 {
			t.Fatalf("no further answer although %+v", p)
		}
		s = impl.Eat(impl.Eat(s))
	}
	if answered != 40 || s.Done != len(s.Out) {
		t.Errorf("%d answers: %+v", answered, flatOf(s))
	}
}

// randomSock returns a socket of which the parts are mostly valid.
func randomSock(r *rand.Rand) flat {
	pick := func(l ...int) int { return l[r.Intn(len(l))] }
	text := func(n int) string {
		var b string
		for range r.Intn(n) {
			l := goodFrames()
			b += spoken(l[r.Intn(len(l))])
		}
		switch r.Intn(4) {
		case 0:
			b = b[:r.Intn(len(b)+1)]
		case 1:
			b += string([]byte{byte(r.Intn(256))})
		}
		return b
	}
	p := flat{id: pick(1, 2, 5, 9999), kind: pick(1, 2, 2), hold: pick(1, 2, 3), shut: r.Intn(4) == 0, in: text(6), out: text(6)}
	if p.kind == 2 {
		p.st, p.done = r.Intn(3), pick(0, 0, len(p.out), r.Intn(len(p.out)+1))
	}
	switch r.Intn(12) {
	case 0:
		p.id = pick(0, 10000)
	case 1:
		p.kind = pick(0, 3)
	case 2:
		p.hold = pick(0, 4)
	case 3:
		p.st = pick(-1, 3, 1)
	case 4:
		p.done = pick(-1, len(p.out)+1, len(p.out))
	}
	return p
}

func TestSocksAtRandom(t *testing.T) {
	r := rand.New(rand.NewSource(8))
	for range 600 {
		p := randomSock(r)
		checkOperations(t, p)
		checkTell(t, p, goodFrames()[r.Intn(len(goodFrames()))])
	}
}

// Bytes pass through a client's socket in any pieces, and through a server's in any order of events, as through two queues.
func TestBytesAreDeliveredInOrder(t *testing.T) {
	r := rand.New(rand.NewSource(80))
	for range 200 {
		p := asker("")
		s := p.bare()
		var sent []impl.Frame
		var way string
		eaten := 0
		for range 200 {
			switch r.Intn(4) {
			case 0:
				f := goodFrames()[r.Intn(len(goodFrames()))]
				sent = append(sent, f)
				way += spoken(f)
			case 1, 2:
				n := r.Intn(min(len(way), 60) + 1)
				var ok bool
				if s, ok = impl.Hear(s, []byte(way[:n])); ok {
					p.in += way[:n]
					way = way[n:]
				} else if len(p.in)+n <= 240 {
					t.Fatalf("%d bytes after %d are not heard", n, len(p.in))
				}
			default:
				f, code := impl.Peek(s)
				if code == impl.GoGood {
					if f != sent[eaten] {
						t.Fatalf("frame %d is %+v, want %+v", eaten, f, sent[eaten])
					}
					p.in = p.in[len(rawFrame(f)):]
					eaten++
				}
				s = impl.Eat(s)
			}
			if flatOf(s) != p {
				t.Fatalf("%+v, want %+v", flatOf(s), p)
			}
		}
	}
}

func TestServersAtRandom(t *testing.T) {
	r := rand.New(rand.NewSource(88))
	for range 100 {
		p := line(0, "", "", 0)
		s := p.bare()
		for range 100 {
			ok, want := true, true
			switch r.Intn(5) {
			case 0, 1:
				f := goodFrames()[r.Intn(len(goodFrames()))]
				if r.Intn(3) > 0 {
					f = query(spokenWords[r.Intn(len(spokenWords))])
				}
				s, p = impl.Tell(s, f), otherTell(p, f)
			case 2, 3:
				s, ok = impl.Answer(s)
				p, want = otherServe(p)
			default:
				s, p = impl.Eat(s), otherEat(p)
			}
			if flatOf(s) != p || ok != want {
				t.Fatalf("%+v, %v, want %+v, %v", flatOf(s), ok, p, want)
			}
		}
	}
}
