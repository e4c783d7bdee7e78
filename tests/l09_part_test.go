package tests

import (
	"encoding/binary"
	"math"
	"math/rand"
	"reflect"
	"regexp"
	"slices"
	"strings"
	"testing"

	"loop.example/g00482/impl"
)

// span is the range of the numbers that a field may have.
type span struct{ least, most int }

// form says what the fields may be in one state. A field that it does not name is zero.
type form struct {
	numbers map[string]span
	texts   map[string]*regexp.Regexp
}

// askerForms and lineForms are indexed by the state.
var askerForms = []form{
	{numbers: map[string]span{"Sock": {1, 9999}}},
	{
		numbers: map[string]span{"St": {1, 1}, "Sock": {1, 9999}},
		texts:   map[string]*regexp.Regexp{"Db": nameForm},
	},
	{
		numbers: map[string]span{"St": {2, 2}, "Sock": {1, 9999}, "Ticket": {0, 65535}, "Since": {0, 100000}},
		texts:   map[string]*regexp.Regexp{"Db": nameForm, "Q": textForm},
	},
	{
		numbers: map[string]span{"St": {3, 3}, "Sock": {1, 9999}, "Line": {1, 9999}, "Lease": {1, math.MaxInt}},
		texts:   map[string]*regexp.Regexp{"Db": nameForm},
	},
	{
		numbers: map[string]span{"St": {4, 4}, "Sock": {1, 9999}, "Line": {1, 9999}, "Lease": {1, math.MaxInt}},
		texts:   map[string]*regexp.Regexp{"Db": nameForm},
	},
}

var lineForms = []form{
	{
		numbers: map[string]span{"St": {0, 0}, "Sock": {1, 9999}, "Gen": {1, 60000}, "Since": {0, 100000}},
		texts:   map[string]*regexp.Regexp{"Db": nameForm},
	},
	{
		numbers: map[string]span{"St": {1, 1}, "Sock": {1, 9999}, "Gen": {1, 60000}, "Asker": {1, 9999}, "Lease": {1, math.MaxInt}},
		texts:   map[string]*regexp.Regexp{"Db": nameForm},
	},
	{
		numbers: map[string]span{"St": {2, 2}, "Sock": {1, 9999}, "Gen": {1, 60000}, "Asker": {1, 9999}, "Lease": {1, math.MaxInt}},
		texts:   map[string]*regexp.Regexp{"Db": nameForm},
	},
}

// fits reports whether all fields of x, a struct, are as f says.
func (f form) fits(x any) bool {
	v := reflect.ValueOf(x)
	for i := range v.NumField() {
		name := v.Type().Field(i).Name
		switch y := v.Field(i).Interface().(type) {
		case int:
			if s := f.numbers[name]; y < s.least || y > s.most {
				return false
			}
		case string:
			if r := f.texts[name]; r == nil && y != "" || r != nil && !r.MatchString(y) {
				return false
			}
		}
	}
	return true
}

// isAsker is a second definition of the valid clients.
func isAsker(a impl.Asker) bool {
	return slices.ContainsFunc(askerForms, func(f form) bool { return f.fits(a) })
}

// isLine is a second definition of the valid server connections.
func isLine(x impl.Line) bool {
	return slices.ContainsFunc(lineForms, func(f form) bool { return f.fits(x) })
}

// askers are valid clients in every state, with the least, with other and with the greatest values.
func askers() []impl.Asker {
	return []impl.Asker{
		{Sock: 1}, {Sock: 258}, {Sock: 9999},
		{Sock: 1, Db: "a", St: 1}, {Sock: 258, Db: "main", St: 1}, {Sock: 9999, Db: "zzzzzzzz", St: 1},
		{Sock: 1, Db: "a", St: 2}, {Sock: 258, Db: "main", St: 2, Ticket: 772, Since: 66051, Q: "one"},
		{Sock: 9999, Db: "zzzzzzzz", St: 2, Ticket: 65535, Since: 100000, Q: strings.Repeat("~", 100)},
		{Sock: 1, Db: "a", St: 3, Line: 1, Lease: 1}, {Sock: 258, Db: "main", St: 3, Line: 259, Lease: 772},
		{Sock: 9999, Db: "zzzzzzzz", St: 3, Line: 9999, Lease: 65535},
		{Sock: 1, Db: "a", St: 4, Line: 1, Lease: 1}, {Sock: 258, Db: "main", St: 4, Line: 259, Lease: 772},
		{Sock: 9999, Db: "zzzzzzzz", St: 4, Line: 9999, Lease: 65535},
	}
}

// lines are valid server connections, like askers.
func lines() []impl.Line {
	return []impl.Line{
		{Sock: 1, Db: "a", Gen: 1}, {Sock: 258, Db: "main", Gen: 772, Since: 66051}, {Sock: 9999, Db: "zzzzzzzz", Gen: 60000, Since: 100000},
		{Sock: 1, Db: "a", Gen: 1, St: 1, Asker: 1, Lease: 1}, {Sock: 258, Db: "main", Gen: 772, St: 1, Asker: 259, Lease: 515},
		{Sock: 9999, Db: "zzzzzzzz", Gen: 60000, St: 1, Asker: 9999, Lease: 65535},
		{Sock: 1, Db: "a", Gen: 1, St: 2, Asker: 1, Lease: 1}, {Sock: 258, Db: "main", Gen: 772, St: 2, Asker: 259, Lease: 515},
		{Sock: 9999, Db: "zzzzzzzz", Gen: 60000, St: 2, Asker: 9999, Lease: 65535},
	}
}

// edgeNumbers are the ends of all ranges of numbers, one beyond, and numbers whose low bytes are in range.
func edgeNumbers() []int {
	return []int{
		0, 1, 2, 3, 4, 5, 127, 128, 254, 255, 256, 257, 258, 259, 260, 261, 300, 512, 9998, 9999, 10000, 10001, 32767, 32768, 59999, 60000, 60001,
		65534, 65535, 65536, 65537, 65538, 99999, 100000, 100001, 131073, 1 << 24, 1<<24 + 1, 1<<32 - 1, 1 << 32, 1<<32 + 1, 1<<48 + 1, math.MaxInt - 1, math.MaxInt,
		-1, -2, -255, -256, -257, -65535, -65536, -1 << 32, math.MinInt + 1, math.MinInt,
	}
}

// edgeTexts are texts and names, and what is almost one.
func edgeTexts() []string {
	l := slices.Concat(spokenTexts(), badTexts(), badNames())
	for x := range 256 {
		c := string([]byte{byte(x)})
		l = append(l, c, c+"b", "b"+c, "b"+c+"b", "bbbbbbb"+c, strings.Repeat("b", 99)+c)
	}
	for n := range 103 {
		l = append(l, strings.Repeat("q", n))
	}
	return l
}

// changed returns x, a struct, with each of its fields at each edge value, one field at a time. The first one is x.
func changed[T any](x T) []T {
	l := []T{x}
	for i := range reflect.TypeOf(x).NumField() {
		y := x
		field := reflect.ValueOf(&y).Elem().Field(i)
		if field.Kind() == reflect.String {
			for _, s := range edgeTexts() {
				field.SetString(s)
				l = append(l, y)
			}
			continue
		}
		for _, n := range edgeNumbers() {
			field.SetInt(int64(n))
			l = append(l, y)
		}
	}
	return l
}

func itemOf(a impl.Asker) impl.Item {
	return impl.Item{Kind: 1, A: a}
}

func lineItem(x impl.Line) impl.Item {
	return impl.Item{Kind: 2, L: x}
}

func goodItems() []impl.Item {
	var l []impl.Item
	for _, a := range askers() {
		l = append(l, itemOf(a))
	}
	for _, x := range lines() {
		l = append(l, lineItem(x))
	}
	return l
}

// isItem is a second definition of the items with an encoding.
func isItem(x impl.Item) bool {
	switch x {
	case itemOf(x.A):
		return isAsker(x.A) && x.A.Lease < 65536
	case lineItem(x.L):
		return isLine(x.L) && x.L.Lease < 65536
	}
	return false
}

// rawItem encodes any item, also an invalid one. The three bytes of a time are one number.
func rawItem(x impl.Item) []byte {
	word := func(b []byte, n int) []byte { return binary.BigEndian.AppendUint16(b, uint16(n)) }
	text := func(b []byte, s string) []byte { return append(append(b, byte(len(s))), s...) }
	since := func(b []byte, n int) []byte { return append(b, byte(n>>16), byte(n>>8), byte(n)) }
	b := []byte{byte(x.Kind)}
	if x.Kind == 1 {
		b = text(append(word(b, x.A.Sock), byte(x.A.St)), x.A.Db)
		b = text(since(word(b, x.A.Ticket), x.A.Since), x.A.Q)
		return word(word(b, x.A.Line), x.A.Lease)
	}
	b = text(append(word(b, x.L.Sock), byte(x.L.St)), x.L.Db)
	return word(word(since(word(b, x.L.Gen), x.L.Since), x.L.Asker), x.L.Lease)
}

// readItem is a second definition of GetItem.
func readItem(b []byte) (impl.Item, bool) {
	rest, cut := string(b), false
	take := func(n int) string {
		cut = cut || n > len(rest)
		n = min(n, len(rest))
		part := rest[:n]
		rest = rest[n:]
		return part
	}
	number := func(size int) int {
		n := 0
		for _, c := range []byte(take(size)) {
			n = 256*n + int(c)
		}
		return n
	}
	x := impl.Item{Kind: number(1)}
	sock, st, db, n, since := number(2), number(1), take(number(1)), number(2), number(3)
	if x.Kind == 1 {
		x.A = impl.Asker{Sock: sock, Db: db, St: st, Ticket: n, Since: since, Q: take(number(1)), Line: number(2), Lease: number(2)}
	} else {
		x.L = impl.Line{Sock: sock, Db: db, Gen: n, St: st, Since: since, Asker: number(2), Lease: number(2)}
	}
	if cut || rest != "" || !isItem(x) {
		return impl.Item{}, false
	}
	return x, true
}

// checkGetItem checks GetItem of b with bytes behind it, and that it neither writes to nor shares them.
func checkGetItem(t *testing.T, b, behind string, want impl.Item, wantOk bool) {
	t.Helper()
	whole := []byte(b + behind)
	x, ok := impl.GetItem(whole[:len(b)])
	if x != want || ok != wantOk {
		t.Errorf("GetItem(%q) before %q = %+v, %v, want %+v, %v", b, behind, x, ok, want, wantOk)
	}
	if string(whole) != b+behind {
		t.Errorf("GetItem(%q) wrote to its argument: %q", b, whole)
	}
	fill(whole, 'q')
	if x != want {
		t.Errorf("GetItem(%q) shares memory with its argument: %+v", b, x)
	}
}

func checkNoItem(t *testing.T, b, behind string) {
	t.Helper()
	checkGetItem(t, b, behind, impl.Item{}, false)
}

// checkAnyItem compares GetItem with readItem, and PutItem with b if b is accepted.
func checkAnyItem(t *testing.T, b []byte) bool {
	t.Helper()
	want, ok := readItem(b)
	checkGetItem(t, string(b), "", want, ok)
	if ok && string(impl.PutItem(want)) != string(b) {
		t.Errorf("PutItem(%+v) = %q, want %q", want, impl.PutItem(want), b)
	}
	return ok
}

// checkPutItem also checks that no result shares memory with another one or with the texts of x.
func checkPutItem(t *testing.T, x impl.Item, want string) {
	t.Helper()
	x.A.Db, x.A.Q, x.L.Db = strings.Clone(x.A.Db), strings.Clone(x.A.Q), strings.Clone(x.L.Db)
	first, second := impl.PutItem(x), impl.PutItem(x)
	if string(first) != want {
		t.Errorf("PutItem(%+v) = %q, want %q", x, first, want)
	}
	fill(first, 'q')
	if string(second) != want || string(impl.PutItem(x)) != want {
		t.Errorf("PutItem(%+v) shares memory: %q, want %q", x, second, want)
	}
}

// checkItem checks PutItem of any item and GetItem of what rawItem makes of it.
func checkItem(t *testing.T, x impl.Item) {
	t.Helper()
	b := string(rawItem(x))
	if !isItem(x) {
		checkPutItem(t, x, "")
		checkAnyItem(t, []byte(b))
		return
	}
	checkPutItem(t, x, b)
	checkGetItem(t, b, "", x, true)
	checkGetItem(t, b, b, x, true)
}

func TestPartConstants(t *testing.T) {
	if got := []int{impl.AkNew, impl.AkIdle, impl.AkWait, impl.AkBusy, impl.AkHeld}; !slices.Equal(got, []int{0, 1, 2, 3, 4}) {
		t.Error(got)
	}
	if got := []int{impl.LnIdle, impl.LnBusy, impl.LnHeld}; !slices.Equal(got, []int{0, 1, 2}) {
		t.Error(got)
	}
}

func TestAskerOk(t *testing.T) {
	for _, a := range askers() {
		if !isAsker(a) {
			t.Fatal(a)
		}
		for _, x := range changed(a) {
			if got := impl.AskerOk(x); got != isAsker(x) {
				t.Errorf("AskerOk(%+v) = %v", x, got)
			}
		}
	}
}

func TestLineOk(t *testing.T) {
	for _, a := range lines() {
		if !isLine(a) {
			t.Fatal(a)
		}
		for _, x := range changed(a) {
			if got := impl.LineOk(x); got != isLine(x) {
				t.Errorf("LineOk(%+v) = %v", x, got)
			}
		}
	}
}

func TestAskerOkOfEachField(t *testing.T) {
	named := func(st int) impl.Asker { return impl.Asker{Sock: 5, Db: "main", St: st} }
	wait := func(ticket, since int, q string) impl.Asker {
		return impl.Asker{Sock: 5, Db: "main", St: impl.AkWait, Ticket: ticket, Since: since, Q: q}
	}
	leased := func(st, line, lease int) impl.Asker {
		return impl.Asker{Sock: 5, Db: "main", St: st, Line: line, Lease: lease}
	}
	good := []impl.Asker{
		{Sock: 1}, {Sock: 9999}, named(1), {Sock: 1, Db: "a", St: 1}, {Sock: 1, Db: "abcdefgh", St: 4, Line: 1, Lease: 1},
		wait(0, 0, ""), wait(65535, 0, ""), wait(0, 100000, ""), wait(0, 0, " ~"), wait(0, 0, strings.Repeat("q", 100)),
		leased(3, 1, 1), leased(3, 9999, 1), leased(3, 1, 65536), leased(4, 1, 1), leased(4, 9999, 1), leased(4, 1, math.MaxInt),
		// The chapter does not exclude that a client and its connection have one number.
		leased(3, 5, 1),
	}
	for _, a := range good {
		if !impl.AskerOk(a) || !isAsker(a) {
			t.Errorf("AskerOk(%+v) is not true", a)
		}
	}
	bad := []impl.Asker{
		{}, {Sock: -1}, {Sock: 10000}, {Sock: 5, Db: "main"}, {Sock: 5, Ticket: 1}, {Sock: 5, Since: 1}, {Sock: 5, Q: "q"}, {Sock: 5, Line: 1}, {Sock: 5, Lease: 1},
		named(-1), named(2 + 256), named(5), named(0), named(3), named(4), {Sock: 5, St: -1}, {Sock: 5, St: 5},
		{Sock: 5, St: 1}, {Sock: 5, Db: "Main", St: 1}, {Sock: 5, Db: "abcdefghi", St: 1}, {Db: "main", St: 1}, {Sock: 10000, Db: "main", St: 1},
		{Sock: 5, Db: "main", St: 1, Ticket: 1}, {Sock: 5, Db: "main", St: 1, Since: 1}, {Sock: 5, Db: "main", St: 1, Q: "q"},
		{Sock: 5, Db: "main", St: 1, Line: 1}, {Sock: 5, Db: "main", St: 1, Lease: 1}, leased(1, 1, 1), leased(2, 1, 1), leased(5, 1, 1), leased(-1, 1, 1),
		wait(-1, 0, ""), wait(65536, 0, ""), wait(0, -1, ""), wait(0, 100001, ""), wait(0, 0, strings.Repeat("q", 101)), wait(0, 0, "\x1f"), wait(0, 0, "\x7f"),
		{Sock: 5, St: 2}, {Sock: 5, Db: "main", St: 2, Line: 1}, {Sock: 5, Db: "main", St: 2, Lease: 1}, {Sock: 5, Db: "main", St: 2, Line: 1, Lease: 1},
		leased(3, 0, 1), leased(3, 10000, 1), leased(3, 1, 0), leased(3, 1, -1), leased(4, 0, 1), leased(4, -1, 1), leased(4, 10000, 1), leased(4, 1, 0), leased(4, 1, math.MinInt),
		{Sock: 5, St: 3, Line: 1, Lease: 1}, {Sock: 5, St: 4, Line: 1, Lease: 1}, {Db: "main", St: 3, Line: 1, Lease: 1}, {Db: "main", St: 4, Line: 1, Lease: 1},
		{Sock: 5, Db: "main", St: 3, Line: 1, Lease: 1, Ticket: 1}, {Sock: 5, Db: "main", St: 3, Line: 1, Lease: 1, Since: 1}, {Sock: 5, Db: "main", St: 3, Line: 1, Lease: 1, Q: " "},
		{Sock: 5, Db: "main", St: 4, Line: 1, Lease: 1, Ticket: -1}, {Sock: 5, Db: "main", St: 4, Line: 1, Lease: 1, Since: -1}, {Sock: 5, Db: "main", St: 4, Line: 1, Lease: 1, Q: "\x00"},
	}
	for _, a := range bad {
		if impl.AskerOk(a) || isAsker(a) {
			t.Errorf("AskerOk(%+v) is not false", a)
		}
		checkPutItem(t, itemOf(a), "")
	}
}

func TestLineOkOfEachField(t *testing.T) {
	idle := func(sock, gen, since int) impl.Line { return impl.Line{Sock: sock, Db: "main", Gen: gen, Since: since} }
	leased := func(st, asker, lease int) impl.Line {
		return impl.Line{Sock: 5, Db: "main", Gen: 1, St: st, Asker: asker, Lease: lease}
	}
	good := []impl.Line{
		idle(1, 1, 0), idle(9999, 1, 0), idle(1, 60000, 0), idle(1, 1, 100000), {Sock: 1, Db: "a", Gen: 1}, {Sock: 1, Db: "abcdefgh", Gen: 1},
		leased(1, 1, 1), leased(1, 9999, 1), leased(1, 1, 65536), leased(2, 1, 1), leased(2, 9999, 1), leased(2, 1, math.MaxInt), leased(1, 5, 1),
	}
	for _, x := range good {
		if !impl.LineOk(x) || !isLine(x) {
			t.Errorf("LineOk(%+v) is not true", x)
		}
	}
	bad := []impl.Line{
		{}, idle(0, 1, 0), idle(-1, 1, 0), idle(10000, 1, 0), idle(1, 0, 0), idle(1, -1, 0), idle(1, 60001, 0), idle(1, 1, -1), idle(1, 1, 100001),
		{Sock: 1, Gen: 1}, {Sock: 1, Db: "A", Gen: 1}, {Sock: 1, Db: "abcdefghi", Gen: 1}, {Sock: 1, Db: "main", Gen: 1, Asker: 1}, {Sock: 1, Db: "main", Gen: 1, Lease: 1},
		{Sock: 1, Gen: 1, St: 1, Asker: 1, Lease: 1}, {Sock: 1, Db: "main", St: 1, Asker: 1, Lease: 1}, {Db: "main", Gen: 1, St: 2, Asker: 1, Lease: 1},
		leased(0, 1, 1), leased(-1, 1, 1), leased(3, 1, 1), leased(256+1, 1, 1), leased(-1, 0, 0), leased(3, 0, 0),
		leased(1, 0, 1), leased(1, -1, 1), leased(1, 10000, 1), leased(1, 1, 0), leased(1, 1, -1), leased(2, 0, 1), leased(2, 10000, 1), leased(2, 1, 0), leased(2, 1, math.MinInt),
		{Sock: 1, Db: "main", Gen: 1, St: 1, Asker: 1, Lease: 1, Since: 1}, {Sock: 1, Db: "main", Gen: 1, St: 2, Asker: 1, Lease: 1, Since: -1},
	}
	for _, x := range bad {
		if impl.LineOk(x) || isLine(x) {
			t.Errorf("LineOk(%+v) is not false", x)
		}
		checkPutItem(t, lineItem(x), "")
	}
}

// randomOf is a random value that may be valid in one of the forms, with a few other fields.
func randomOf[T any](r *rand.Rand, forms []form) T {
	var x T
	f := forms[r.Intn(len(forms))]
	v := reflect.ValueOf(&x).Elem()
	for i := range v.NumField() {
		s := f.numbers[v.Type().Field(i).Name]
		other := r.Intn(40) == 0
		if v.Field(i).Kind() == reflect.Int {
			n := s.least + r.Intn(min(s.most, 65535)-s.least+1)
			if other {
				n = edgeNumbers()[r.Intn(len(edgeNumbers()))]
			}
			v.Field(i).SetInt(int64(n))
			continue
		}
		if f.texts[v.Type().Field(i).Name] != nil != other {
			v.Field(i).SetString([]string{"a", "main", "zzzzzzzz", "a b", ""}[r.Intn(3+2*r.Intn(2))])
		}
	}
	return x
}

func TestItemsAtRandom(t *testing.T) {
	r := rand.New(rand.NewSource(9))
	var good [4]int
	count := func(i int, ok bool) {
		if ok {
			good[i]++
		}
	}
	for range 20000 {
		a, x := randomOf[impl.Asker](r, askerForms), randomOf[impl.Line](r, lineForms)
		if impl.AskerOk(a) != isAsker(a) || impl.LineOk(x) != isLine(x) {
			t.Errorf("AskerOk(%+v) = %v, LineOk(%+v) = %v", a, impl.AskerOk(a), x, impl.LineOk(x))
		}
		count(0, isAsker(a))
		count(1, isLine(x))
		checkItem(t, itemOf(a))
		checkItem(t, lineItem(x))
		for i, b := range [][]byte{rawItem(itemOf(a)), rawItem(lineItem(x))} {
			b[r.Intn(len(b))] ^= 1 << r.Intn(8)
			count(2+i, checkAnyItem(t, b))
		}
	}
	for i, n := range good {
		if n < 2000 || n > 18000 {
			t.Errorf("%d: %d of 20000 are valid", i, n)
		}
	}
}

// checkAskerAt has clients with this and with other sockets behind the list.
func checkAskerAt(t *testing.T, l []impl.Asker, sock, want int) {
	t.Helper()
	whole := append(slices.Clone(l), impl.Asker{Sock: sock}, impl.Asker{Sock: -7}, impl.Asker{Sock: sock})
	before := slices.Clone(whole)
	if got := impl.AskerAt(whole[:len(l)], sock); got != want {
		t.Errorf("AskerAt(%+v, %d) = %d, want %d", l, sock, got, want)
	}
	if !slices.Equal(whole, before) {
		t.Errorf("AskerAt(%+v, %d) wrote to its argument: %+v", l, sock, whole)
	}
}

func checkLineAt(t *testing.T, l []impl.Line, sock, want int) {
	t.Helper()
	whole := append(slices.Clone(l), impl.Line{Sock: sock}, impl.Line{Sock: -7}, impl.Line{Sock: sock})
	before := slices.Clone(whole)
	if got := impl.LineAt(whole[:len(l)], sock); got != want {
		t.Errorf("LineAt(%+v, %d) = %d, want %d", l, sock, got, want)
	}
	if !slices.Equal(whole, before) {
		t.Errorf("LineAt(%+v, %d) wrote to its argument: %+v", l, sock, whole)
	}
}

// TestAskerAtAndLineAt has elements whose other numbers are the Sock of another one.
func TestAskerAtAndLineAt(t *testing.T) {
	rows := []struct {
		socks      []int
		sock, want int
	}{
		{nil, 0, -1}, {nil, 1, -1}, {nil, -1, -1}, {[]int{}, 5, -1},
		{[]int{5}, 5, 0}, {[]int{5}, 4, -1}, {[]int{5}, 6, -1}, {[]int{5}, 0, -1}, {[]int{5}, -5, -1}, {[]int{5}, 5 + 1<<32, -1}, {[]int{5}, 5 + 65536, -1},
		{[]int{2, 5, 9999}, 2, 0}, {[]int{2, 5, 9999}, 5, 1}, {[]int{2, 5, 9999}, 9999, 2}, {[]int{2, 5, 9999}, 1, -1}, {[]int{2, 5, 9999}, 3, -1}, {[]int{2, 5, 9999}, 10000, -1},
		{[]int{2, 5, 5, 5, 6}, 5, 1}, {[]int{5, 5}, 5, 0}, {[]int{9, 5, 2}, 2, 2}, {[]int{9, 5, 2, 9}, 9, 0}, {[]int{9, 5, 2, 5}, 5, 1},
		{[]int{0, -1, 10000, math.MaxInt, math.MinInt}, 0, 0}, {[]int{0, -1, 10000, math.MaxInt, math.MinInt}, -1, 1}, {[]int{0, -1, 10000, math.MaxInt, math.MinInt}, 10000, 2},
		{[]int{0, -1, 10000, math.MaxInt, math.MinInt}, math.MaxInt, 3}, {[]int{0, -1, 10000, math.MaxInt, math.MinInt}, math.MinInt, 4}, {[]int{0, -1, 10000, math.MaxInt, math.MinInt}, 1, -1},
	}
	for _, row := range rows {
		var as, bareAs []impl.Asker
		var ls, bareLs []impl.Line
		for i, sock := range row.socks {
			other := row.socks[len(row.socks)-1-i]
			as = append(as, impl.Asker{Sock: sock, St: i - 1, Db: "main", Ticket: other, Since: other, Line: row.sock, Lease: other})
			ls = append(ls, impl.Line{Sock: sock, St: i - 1, Gen: other, Since: other, Asker: row.sock, Lease: other})
			bareAs, bareLs = append(bareAs, impl.Asker{Sock: sock}), append(bareLs, impl.Line{Sock: sock})
		}
		checkAskerAt(t, as, row.sock, row.want)
		checkAskerAt(t, bareAs, row.sock, row.want)
		checkLineAt(t, ls, row.sock, row.want)
		checkLineAt(t, bareLs, row.sock, row.want)
	}
	for i, a := range askers() {
		checkAskerAt(t, askers()[i:i+1], a.Sock, 0)
	}
	many := make([]impl.Asker, 1000)
	checkAskerAt(t, many, 7, -1)
	many[999].Sock = 7
	checkAskerAt(t, many, 7, 999)
	manyLines := make([]impl.Line, 1000)
	checkLineAt(t, manyLines, 7, -1)
	manyLines[999].Sock = 7
	checkLineAt(t, manyLines, 7, 999)
}

func TestItemBytes(t *testing.T) {
	rows := []struct {
		x    impl.Item
		want string
	}{
		{itemOf(impl.Asker{Sock: 1}), "\x01\x00\x01\x00\x00\x00\x00\x00\x00\x00\x00\x00\x00\x00\x00"},
		{itemOf(impl.Asker{Sock: 9999, Db: "a", St: impl.AkIdle}), "\x01\x27\x0f\x01\x01a\x00\x00\x00\x00\x00\x00\x00\x00\x00\x00"},
		{itemOf(impl.Asker{Sock: 258, Db: "main", St: impl.AkWait, Ticket: 772, Since: 300, Q: "one"}), "\x01\x01\x02\x02\x04main\x03\x04\x00\x01\x2c\x03one\x00\x00\x00\x00"},
		{itemOf(impl.Asker{Sock: 1, Db: "a", St: impl.AkWait}), "\x01\x00\x01\x02\x01a\x00\x00\x00\x00\x00\x00\x00\x00\x00\x00"},
		{itemOf(impl.Asker{Sock: 1, Db: "a", St: impl.AkWait, Ticket: 65535, Since: 255, Q: " "}), "\x01\x00\x01\x02\x01a\xff\xff\x00\x00\xff\x01 \x00\x00\x00\x00"},
		{itemOf(impl.Asker{Sock: 1, Db: "a", St: impl.AkWait, Since: 256}), "\x01\x00\x01\x02\x01a\x00\x00\x00\x01\x00\x00\x00\x00\x00\x00"},
		{itemOf(impl.Asker{Sock: 1, Db: "a", St: impl.AkWait, Since: 100000}), "\x01\x00\x01\x02\x01a\x00\x00\x01\x86\xa0\x00\x00\x00\x00\x00"},
		{itemOf(impl.Asker{Sock: 1, Db: "a", St: impl.AkBusy, Line: 772, Lease: 258}), "\x01\x00\x01\x03\x01a\x00\x00\x00\x00\x00\x00\x03\x04\x01\x02"},
		{itemOf(impl.Asker{Sock: 1, Db: "a", St: impl.AkHeld, Line: 9999, Lease: 65535}), "\x01\x00\x01\x04\x01a\x00\x00\x00\x00\x00\x00\x27\x0f\xff\xff"},
		{lineItem(impl.Line{Sock: 258, Db: "main", Gen: 772}), "\x02\x01\x02\x00\x04main\x03\x04\x00\x00\x00\x00\x00\x00\x00"},
		{lineItem(impl.Line{Sock: 1, Db: "a", Gen: 60000, Since: 255}), "\x02\x00\x01\x00\x01a\xea\x60\x00\x00\xff\x00\x00\x00\x00"},
		{lineItem(impl.Line{Sock: 1, Db: "a", Gen: 1, Since: 256}), "\x02\x00\x01\x00\x01a\x00\x01\x00\x01\x00\x00\x00\x00\x00"},
		{lineItem(impl.Line{Sock: 1, Db: "a", Gen: 1, Since: 100000}), "\x02\x00\x01\x00\x01a\x00\x01\x01\x86\xa0\x00\x00\x00\x00"},
		{lineItem(impl.Line{Sock: 1, Db: "a", Gen: 1, St: impl.LnBusy, Asker: 772, Lease: 258}), "\x02\x00\x01\x01\x01a\x00\x01\x00\x00\x00\x03\x04\x01\x02"},
		{lineItem(impl.Line{Sock: 9999, Db: "zzzzzzzz", Gen: 1, St: impl.LnHeld, Asker: 9999, Lease: 65535}), "\x02\x27\x0f\x02\x08zzzzzzzz\x00\x01\x00\x00\x00\x27\x0f\xff\xff"},
	}
	for _, row := range rows {
		checkPutItem(t, row.x, row.want)
		checkGetItem(t, row.want, "", row.x, true)
		checkGetItem(t, row.want, "\x00", row.x, true)
		checkNoItem(t, row.want+"\x00", "")
		if x, ok := readItem([]byte(row.want)); x != row.x || !ok || string(rawItem(x)) != row.want {
			t.Errorf("the second definition of %+v: %+v, %v, %q", row.x, x, ok, rawItem(row.x))
		}
	}
}

func TestItemsWithAChangedField(t *testing.T) {
	for _, a := range askers() {
		for _, x := range changed(a) {
			checkItem(t, itemOf(x))
		}
	}
	for _, a := range lines() {
		for _, x := range changed(a) {
			checkItem(t, lineItem(x))
		}
	}
}

func TestPutItemOfOtherKinds(t *testing.T) {
	kinds := append(otherKinds(), 3, 4, -1, 255, 256, 257, 258, -254, -255, 1<<32+1, 1<<32+2)
	for _, kind := range slices.DeleteFunc(kinds, func(n int) bool { return n == 1 || n == 2 }) {
		checkPutItem(t, impl.Item{Kind: kind}, "")
		for _, a := range askers() {
			checkPutItem(t, impl.Item{Kind: kind, A: a}, "")
			checkPutItem(t, impl.Item{Kind: kind, A: a, L: lines()[0]}, "")
		}
		for _, x := range lines() {
			checkPutItem(t, impl.Item{Kind: kind, L: x}, "")
		}
	}
}

func TestPutItemOfBothParts(t *testing.T) {
	for _, kind := range []int{1, 2} {
		checkPutItem(t, impl.Item{Kind: kind}, "")
		for _, a := range askers() {
			for _, x := range lines() {
				checkPutItem(t, impl.Item{Kind: kind, A: a, L: x}, "")
			}
		}
	}
	for _, a := range askers() {
		checkPutItem(t, impl.Item{Kind: 2, A: a}, "")
		for _, x := range changed(impl.Line{}) {
			if x != (impl.Line{}) {
				checkPutItem(t, impl.Item{Kind: 1, A: a, L: x}, "")
			}
		}
	}
	for _, x := range lines() {
		checkPutItem(t, impl.Item{Kind: 1, L: x}, "")
		for _, a := range changed(impl.Asker{}) {
			if a != (impl.Asker{}) {
				checkPutItem(t, impl.Item{Kind: 2, A: a, L: x}, "")
			}
		}
	}
}

func TestPutItemOfLongLeases(t *testing.T) {
	for _, lease := range []int{65536, 65537, 131071, 131073, 1 << 32, 1<<32 + 1, math.MaxInt} {
		for _, st := range []int{impl.AkBusy, impl.AkHeld} {
			a := impl.Asker{Sock: 1, Db: "a", St: st, Line: 2, Lease: lease}
			if !impl.AskerOk(a) {
				t.Errorf("AskerOk(%+v)", a)
			}
			checkPutItem(t, itemOf(a), "")
		}
		for _, st := range []int{impl.LnBusy, impl.LnHeld} {
			x := impl.Line{Sock: 1, Db: "a", Gen: 1, St: st, Asker: 2, Lease: lease}
			if !impl.LineOk(x) {
				t.Errorf("LineOk(%+v)", x)
			}
			checkPutItem(t, lineItem(x), "")
		}
	}
}

func TestItemsOfEveryNumber(t *testing.T) {
	for n := range 100002 {
		for _, x := range []impl.Item{
			itemOf(impl.Asker{Sock: n}),
			itemOf(impl.Asker{Sock: 1, Db: "a", St: 2, Ticket: n, Q: "q"}),
			itemOf(impl.Asker{Sock: 1, Db: "a", St: 2, Since: n, Q: "q"}),
			itemOf(impl.Asker{Sock: 1, Db: "a", St: 3, Line: n, Lease: 1}),
			itemOf(impl.Asker{Sock: 1, Db: "a", St: 4, Line: 1, Lease: n}),
			lineItem(impl.Line{Sock: n, Db: "a", Gen: 1}),
			lineItem(impl.Line{Sock: 1, Db: "a", Gen: n}),
			lineItem(impl.Line{Sock: 1, Db: "a", Gen: 1, Since: n}),
			lineItem(impl.Line{Sock: 1, Db: "a", Gen: 1, St: 1, Asker: n, Lease: 1}),
			lineItem(impl.Line{Sock: 1, Db: "a", Gen: 1, St: 2, Asker: 1, Lease: n}),
		} {
			b := impl.PutItem(x)
			if !isItem(x) {
				if len(b) != 0 {
					t.Errorf("PutItem(%+v) = %q", x, b)
				}
				continue
			}
			if y, ok := impl.GetItem(b); !ok || y != x || string(b) != string(rawItem(x)) {
				t.Errorf("PutItem(%+v) = %q, GetItem = %+v, %v", x, b, y, ok)
			}
		}
	}
}

// TestGetItemOfCutEncodings has the bytes that are cut off, and others, behind what is left.
func TestGetItemOfCutEncodings(t *testing.T) {
	checkNoItem(t, "", "")
	if x, ok := impl.GetItem(nil); ok || x != (impl.Item{}) {
		t.Errorf("GetItem(nil) = %+v, %v", x, ok)
	}
	for _, x := range goodItems() {
		b := string(rawItem(x))
		for n := range len(b) {
			checkNoItem(t, b[:n], "")
			checkNoItem(t, b[:n], b[n:])
			checkNoItem(t, b[:n], strings.Repeat("\x00", 20))
			checkAnyItem(t, []byte(b[n+1:]))
			checkAnyItem(t, []byte(b[:n]+b[n+1:]))
		}
	}
}

func TestGetItemOfLongerEncodings(t *testing.T) {
	for _, x := range goodItems() {
		b := string(rawItem(x))
		for c := range 256 {
			checkNoItem(t, b+string([]byte{byte(c)}), "")
		}
		for _, more := range []string{"\x00\x00", "\x01\x00", strings.Repeat("\x00", 256), strings.Repeat("a", 65536), b} {
			checkNoItem(t, b+more, "")
			checkNoItem(t, b+more, more)
		}
		for n := range len(b) {
			for _, c := range []string{"\x00", "\x01", "a", "\xff"} {
				checkAnyItem(t, []byte(b[:n]+c+b[n:]))
			}
		}
	}
}

func TestGetItemOfChangedEncodings(t *testing.T) {
	accepted := 0
	for _, x := range goodItems() {
		b := rawItem(x)
		for i, old := range b {
			for c := range 256 {
				b[i] = byte(c)
				if checkAnyItem(t, b) {
					accepted++
				}
			}
			b[i] = old
		}
	}
	if accepted < 10000 {
		t.Errorf("only %d changed encodings are accepted", accepted)
	}
}

func TestGetItemOfShortStrings(t *testing.T) {
	for x := range 256 {
		checkNoItem(t, string([]byte{byte(x)}), "")
		for y := range 256 {
			checkNoItem(t, string([]byte{byte(x), byte(y)}), "")
		}
	}
	for n := range 40 {
		for _, c := range []string{"\x00", "\x01", "\x02", "a", "\xff"} {
			checkNoItem(t, strings.Repeat(c, n), "")
		}
	}
}

// TestGetItemOfInvalidItems has encodings whose parts are complete.
func TestGetItemOfInvalidItems(t *testing.T) {
	for _, b := range []string{
		"\x00\x00\x01\x00\x00\x00\x00\x00\x00\x00\x00\x00\x00\x00\x00", // neither a client nor a connection
		"\x03\x00\x01\x00\x00\x00\x00\x00\x00\x00\x00\x00\x00\x00\x00",
		"\x01\x00\x00\x00\x00\x00\x00\x00\x00\x00\x00\x00\x00\x00\x00",      // Sock 0
		"\x01\x27\x10\x00\x00\x00\x00\x00\x00\x00\x00\x00\x00\x00\x00",      // Sock 10000
		"\x01\x00\x01\x00\x01a\x00\x00\x00\x00\x00\x00\x00\x00\x00\x00",     // AkNew with a database
		"\x01\x00\x01\x01\x00\x00\x00\x00\x00\x00\x00\x00\x00\x00\x00",      // AkIdle without one
		"\x01\x00\x01\x05\x01a\x00\x00\x00\x00\x00\x00\x00\x00\x00\x00",     // state 5
		"\x01\x00\x01\x02\x01a\x00\x00\x01\x86\xa1\x00\x00\x00\x00\x00",     // Since 100001
		"\x01\x00\x01\x02\x01a\x00\x00\xff\xff\xff\x00\x00\x00\x00\x00",     // the greatest Since
		"\x01\x00\x01\x02\x01a\x00\x00\x00\x00\x00\x01\n\x00\x00\x00\x00",   // no text
		"\x01\x00\x01\x02\x01A\x00\x00\x00\x00\x00\x00\x00\x00\x00\x00",     // no name
		"\x01\x00\x01\x03\x01a\x00\x00\x00\x00\x00\x00\x00\x01\x00\x00",     // Lease 0
		"\x01\x00\x01\x03\x01a\x00\x00\x00\x00\x00\x00\x00\x00\x00\x01",     // Line 0
		"\x01\x00\x01\x04\x01a\x00\x01\x00\x00\x00\x00\x00\x01\x00\x01",     // a Ticket that is not used
		"\x02\x00\x01\x00\x01a\x00\x00\x00\x00\x00\x00\x00\x00\x00",         // Gen 0
		"\x02\x00\x01\x00\x01a\xea\x61\x00\x00\x00\x00\x00\x00\x00",         // Gen 60001
		"\x02\x00\x01\x00\x00\x00\x01\x00\x00\x00\x00\x00\x00\x00",          // no database
		"\x02\x00\x01\x03\x01a\x00\x01\x00\x00\x00\x00\x01\x00\x01",         // state 3
		"\x02\x00\x01\x01\x01a\x00\x01\x00\x00\x01\x00\x01\x00\x01",         // a Since that is not used
		"\x02\x00\x01\x02\x01a\x00\x01\x00\x00\x00\x27\x10\x00\x01",         // Asker 10000
		"\x02\x00\x01\x02\x01a\x00\x01\x00\x00\x00\x00\x01\x00\x00",         // Lease 0
		"\x01\x00\x01\x02\x09aaaaaaaaa\x00\x00\x00\x00\x00\x00\x00\x00\x00", // a name of 9 letters
	} {
		checkNoItem(t, b, "")
		checkNoItem(t, b, "\x00\x00\x00\x00")
	}
	for _, q := range []string{strings.Repeat("q", 101), strings.Repeat("q", 255), "\x7f", "q\x80"} {
		checkNoItem(t, string(rawItem(itemOf(impl.Asker{Sock: 1, Db: "a", St: 2, Q: q}))), "")
	}
}
