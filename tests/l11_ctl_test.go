package tests

import (
	"bytes"
	"encoding/hex"
	"math"
	"math/rand"
	"reflect"
	"slices"
	"strings"
	"testing"

	"loop.example/g00482/impl"
)

// ctlForms are indexed by the kind less one. Paused, the items, and what depends on another field, are not in them.
var ctlForms = []form{
	{numbers: map[string]span{"Kind": {1, 1}, "From": {0, 1}, "Id": {1, 60000}, "N": {0, 19}, "Of": {1, 20}, "Ticket": {0, 65535}}},
	{numbers: map[string]span{"Kind": {2, 2}, "From": {0, 1}, "Id": {1, 60000}, "N": {0, 20}}},
	{numbers: map[string]span{"Kind": {3, 3}, "From": {0, 1}, "Id": {1, 60000}}},
}

// isCtl is a second definition of the valid messages.
func isCtl(m impl.Ctl) bool {
	i := slices.IndexFunc(ctlForms, func(f form) bool { return f.fits(m) })
	if i != 0 {
		return i > 0 && !m.Paused && len(m.Items) == 0
	}
	return m.Of-m.N > 0 && len(m.Items) < 3 && !slices.ContainsFunc(m.Items, func(x impl.Item) bool { return !isItem(x) })
}

func sameCtl(a, b impl.Ctl) bool {
	items := slices.Equal(a.Items, b.Items)
	a.Items, b.Items = nil, nil
	return items && reflect.DeepEqual(a, b)
}

func batch(n, of int, items ...impl.Item) impl.Ctl {
	return impl.Ctl{Kind: 1, From: 1, Id: 258, N: n, Of: of, Paused: true, Ticket: 772, Items: items}
}

func ack(n int) impl.Ctl {
	return impl.Ctl{Kind: 2, From: 1, Id: 258, N: n}
}

func over() impl.Ctl {
	return impl.Ctl{Kind: 3, From: 1, Id: 258}
}

// rawBody encodes any message, also an invalid one, without the sum.
func rawBody(m impl.Ctl) []byte {
	paused := map[bool]byte{true: 1}[m.Paused]
	b := []byte{byte(m.Kind), byte(m.From), byte(m.Id >> 8), byte(m.Id), byte(m.N), byte(m.Of), paused, byte(m.Ticket >> 8), byte(m.Ticket), byte(len(m.Items))}
	for _, x := range m.Items {
		item := rawItem(x)
		b = append(append(b, byte(len(item))), item...)
	}
	return b
}

func rawCtl(m impl.Ctl) []byte {
	return withSum(rawBody(m))
}

// readCtl is a second definition of GetCtl.
func readCtl(b []byte) (impl.Ctl, bool) {
	if len(b) < 12 || !bytes.Equal(withSum(b[:len(b)-2]), b) {
		return impl.Ctl{}, false
	}
	m := impl.Ctl{Kind: int(b[0]), From: int(b[1]), Id: int(b[2])*256 + int(b[3]), N: int(b[4]), Of: int(b[5]), Paused: b[6] == 1, Ticket: int(b[7])*256 + int(b[8])}
	rest := b[10 : len(b)-2]
	for range int(b[9]) {
		if len(rest) == 0 || len(rest) < 1+int(rest[0]) {
			return impl.Ctl{}, false
		}
		end := 1 + int(rest[0])
		x, ok := readItem(rest[1:end])
		if !ok {
			return impl.Ctl{}, false
		}
		m.Items = append(m.Items, x)
		rest = rest[end:]
	}
	if len(rest) > 0 || b[6] > 1 || !isCtl(m) {
		return impl.Ctl{}, false
	}
	return m, true
}

// spoilItems overwrites l and its spare capacity.
func spoilItems(l []impl.Item) {
	l = l[:cap(l)]
	for i := range l {
		l[i] = impl.Item{Kind: -5}
	}
}

// roomyCtl returns m with three times the item x behind its Items, and the array behind them.
func roomyCtl(m impl.Ctl, x impl.Item) (impl.Ctl, []impl.Item) {
	whole := append(slices.Clone(m.Items), x, x, x)
	m.Items = whole[:len(m.Items)]
	return m, whole
}

// checkGetCtl checks GetCtl of b with bytes behind it, that it neither writes to nor shares them, and that its results share nothing.
func checkGetCtl(t *testing.T, b, behind string, want impl.Ctl, wantOk bool) {
	t.Helper()
	whole := []byte(b + behind)
	first, ok := impl.GetCtl(whole[:len(b)])
	second, _ := impl.GetCtl(whole[:len(b)])
	if !sameCtl(first, want) || ok != wantOk {
		t.Errorf("GetCtl(%q) before %q = %+v, %v, want %+v, %v", b, behind, first, ok, want, wantOk)
	}
	if string(whole) != b+behind {
		t.Errorf("GetCtl(%q) wrote to its argument: %q", b, whole)
	}
	fill(whole, 'q')
	spoilItems(first.Items)
	if !sameCtl(second, want) {
		t.Errorf("GetCtl(%q) shares memory: %+v, want %+v", b, second, want)
	}
}

func checkNoCtl(t *testing.T, b string) {
	t.Helper()
	checkGetCtl(t, b, "", impl.Ctl{}, false)
	checkGetCtl(t, b, "\x00\x00", impl.Ctl{}, false)
}

// checkAnyCtl compares GetCtl with readCtl, and PutCtl with b if b is accepted.
func checkAnyCtl(t *testing.T, b []byte) bool {
	t.Helper()
	want, ok := readCtl(b)
	checkGetCtl(t, string(b), "", want, ok)
	if ok && string(impl.PutCtl(want)) != string(b) {
		t.Errorf("PutCtl(%+v) = %q, want %q", want, impl.PutCtl(want), b)
	}
	return ok
}

// checkPutCtl also checks that PutCtl and CtlOk neither read nor write the spare capacity, and that no result shares memory.
func checkPutCtl(t *testing.T, m impl.Ctl, want string) {
	t.Helper()
	for _, spare := range []impl.Item{goodItems()[3], {}} {
		arg, whole := roomyCtl(m, spare)
		before := slices.Clone(whole)
		first, second := impl.PutCtl(arg), impl.PutCtl(arg)
		if string(first) != want {
			t.Errorf("PutCtl(%+v) before %+v = %q, want %q", m, spare, first, want)
		}
		if impl.CtlOk(arg) != (want != "") {
			t.Errorf("CtlOk(%+v) before %+v = %v", m, spare, impl.CtlOk(arg))
		}
		fill(first, 'q')
		if !slices.Equal(whole, before) {
			t.Errorf("CtlOk or PutCtl wrote to the items of %+v: %+v", m, whole)
		}
		spoilItems(whole)
		if string(second) != want {
			t.Errorf("PutCtl(%+v) shares memory: %q, want %q", m, second, want)
		}
	}
}

// checkCtl checks CtlOk and PutCtl of any message, and GetCtl of what rawCtl makes of it.
func checkCtl(t *testing.T, m impl.Ctl, want bool) {
	t.Helper()
	if isCtl(m) != want {
		t.Errorf("the second definition: %+v is not %v", m, want)
	}
	b := string(rawCtl(m))
	if !want {
		checkPutCtl(t, m, "")
		checkAnyCtl(t, []byte(b))
		return
	}
	checkPutCtl(t, m, b)
	checkGetCtl(t, b, "", m, true)
	checkGetCtl(t, b, b, m, true)
}

// goodCtls are valid messages of every kind, with the least, with other and with the greatest values.
func goodCtls() []impl.Ctl {
	items := goodItems()
	long := impl.Item{Kind: 1, A: impl.Asker{Sock: 9999, Db: "zzzzzzzz", St: 2, Ticket: 65535, Since: 100000, Q: strings.Repeat("~", 100)}}
	return []impl.Ctl{
		{Kind: 1, Id: 1, Of: 1}, {Kind: 1, Id: 1, Of: 1, Items: items[:1]}, {Kind: 1, Id: 1, Of: 1, Items: items[15:17]},
		batch(3, 4), batch(3, 4, items[7]), batch(3, 4, items[16]), batch(3, 4, items[7], items[19]), batch(3, 4, items[16], items[10]), batch(0, 20, items[7], items[7]),
		{Kind: 1, From: 1, Id: 60000, N: 19, Of: 20, Paused: true, Ticket: 65535}, {Kind: 1, From: 1, Id: 60000, N: 19, Of: 20, Paused: true, Ticket: 65535, Items: []impl.Item{long, long}},
		{Kind: 2, Id: 1}, ack(3), {Kind: 2, From: 1, Id: 60000, N: 20},
		{Kind: 3, Id: 1}, over(), {Kind: 3, From: 1, Id: 60000},
	}
}

// noItems are items whose encoding is empty.
func noItems() map[string]impl.Item {
	a, x := askers()[7], lines()[1]
	held, leased := askers()[13], lines()[7]
	held.Lease, leased.Lease = 65536, 65536
	return map[string]impl.Item{
		"the zero item":                    {},
		"a client of no kind":              {A: a},
		"a connection of no kind":          {L: x},
		"a client of kind 3":               {Kind: 3, A: a},
		"a client of kind 257":             {Kind: 257, A: a},
		"a client of the other kind":       {Kind: 2, A: a},
		"a connection of the other kind":   {Kind: 1, L: x},
		"no client":                        {Kind: 1},
		"no connection":                    {Kind: 2},
		"both, as a client":                {Kind: 1, A: a, L: x},
		"both, as a connection":            {Kind: 2, A: a, L: x},
		"an invalid client":                itemOf(impl.Asker{Sock: 10000}),
		"an invalid connection":            lineItem(impl.Line{Sock: 1, Db: "main"}),
		"a client with a long lease":       itemOf(held),
		"a connection with a long lease":   lineItem(leased),
		"a client with a field not in use": itemOf(impl.Asker{Sock: 1, Ticket: 1}),
	}
}

func TestCtlConstants(t *testing.T) {
	if got := []int{impl.CtBatch, impl.CtAck, impl.CtOver, impl.MaxPart}; !slices.Equal(got, []int{1, 2, 3, 2}) {
		t.Error(got)
	}
}

func TestCtlBytes(t *testing.T) {
	waiting := impl.Asker{Sock: 258, Db: "main", St: impl.AkWait, Ticket: 772, Since: 300, Q: "one"}
	rows := []struct {
		m    impl.Ctl
		want string
	}{
		{impl.Ctl{Kind: impl.CtBatch, Id: 1, Of: 1}, "\x01\x00\x00\x01\x00\x01\x00\x00\x00\x00\x9c\x4c"},
		{impl.Ctl{Kind: impl.CtBatch, From: 1, Id: 60000, N: 19, Of: 20, Paused: true, Ticket: 65535}, "\x01\x01\xea\x60\x13\x14\x01\xff\xff\x00\xd4\x10"},
		{impl.Ctl{Kind: impl.CtBatch, From: 1, Id: 258, N: 3, Of: 4, Paused: true, Ticket: 1286, Items: []impl.Item{{Kind: impl.SkAsk, A: impl.Asker{Sock: 1}}}},
			"\x01\x01\x01\x02\x03\x04\x01\x05\x06\x01\x0f\x01\x00\x01\x00\x00\x00\x00\x00\x00\x00\x00\x00\x00\x00\x00\xd4\x6d"},
		{impl.Ctl{Kind: impl.CtBatch, Id: 258, Of: 20, Ticket: 1286, Items: []impl.Item{{Kind: impl.SkAsk, A: waiting}, {Kind: impl.SkLine, L: impl.Line{Sock: 259, Db: "main", Gen: 772}}}},
			"\x01\x00\x01\x02\x00\x14\x00\x05\x06\x02" +
				"\x16\x01\x01\x02\x02\x04main\x03\x04\x00\x01\x2c\x03one\x00\x00\x00\x00" +
				"\x12\x02\x01\x03\x00\x04main\x03\x04\x00\x00\x00\x00\x00\x00\x00\x34\x04"},
		{impl.Ctl{Kind: impl.CtAck, Id: 1}, "\x02\x00\x00\x01\x00\x00\x00\x00\x00\x00\x87\xd2"},
		{impl.Ctl{Kind: impl.CtAck, From: 1, Id: 258, N: 3}, "\x02\x01\x01\x02\x03\x00\x00\x00\x00\x00\x3d\x40"},
		{impl.Ctl{Kind: impl.CtAck, Id: 60000, N: 20}, "\x02\x00\xea\x60\x14\x00\x00\x00\x00\x00\x71\xc9"},
		{impl.Ctl{Kind: impl.CtOver, Id: 1}, "\x03\x00\x00\x01\x00\x00\x00\x00\x00\x00\xe8\x97"},
		{impl.Ctl{Kind: impl.CtOver, From: 1, Id: 60000}, "\x03\x01\xea\x60\x00\x00\x00\x00\x00\x00\xe9\x8a"},
	}
	for _, row := range rows {
		checkPutCtl(t, row.m, row.want)
		checkGetCtl(t, row.want, "", row.m, true)
		checkGetCtl(t, row.want, "\x00", row.m, true)
		checkNoCtl(t, row.want+"\x00")
		if m, ok := readCtl([]byte(row.want)); !sameCtl(m, row.m) || !ok || string(rawCtl(row.m)) != row.want {
			t.Errorf("the second definition of %+v: %+v, %v, %q", row.m, m, ok, rawCtl(row.m))
		}
	}
}

// TestCtlOkOfEachField has each field at the ends of its range and one beyond, and each field that the kind does not use at another value than zero.
func TestCtlOkOfEachField(t *testing.T) {
	a, x := goodItems()[7], goodItems()[16]
	good := append(goodCtls(),
		impl.Ctl{Kind: 1, From: 0, Id: 5, Of: 2}, impl.Ctl{Kind: 1, From: 1, Id: 5, Of: 2}, impl.Ctl{Kind: 1, Id: 60000, Of: 2},
		impl.Ctl{Kind: 1, Id: 5, N: 1, Of: 2}, impl.Ctl{Kind: 1, Id: 5, Of: 20}, impl.Ctl{Kind: 1, Id: 5, N: 19, Of: 20},
		impl.Ctl{Kind: 1, Id: 5, Of: 2, Paused: true}, impl.Ctl{Kind: 1, Id: 5, Of: 2, Ticket: 1}, impl.Ctl{Kind: 1, Id: 5, Of: 2, Ticket: 65535},
		impl.Ctl{Kind: 1, Id: 5, Of: 2, Items: []impl.Item{a}}, impl.Ctl{Kind: 1, Id: 5, Of: 2, Items: []impl.Item{x}}, impl.Ctl{Kind: 1, Id: 5, Of: 2, Items: []impl.Item{x, a}},
		impl.Ctl{Kind: 1, Id: 5, Of: 2, Items: []impl.Item{}},
		ack(0), ack(1), ack(19), ack(20), impl.Ctl{Kind: 2, From: 0, Id: 5}, impl.Ctl{Kind: 2, From: 1, Id: 5}, impl.Ctl{Kind: 2, Id: 60000}, impl.Ctl{Kind: 2, Id: 5, Items: []impl.Item{}},
		impl.Ctl{Kind: 3, From: 0, Id: 5}, impl.Ctl{Kind: 3, From: 1, Id: 5}, impl.Ctl{Kind: 3, Id: 60000}, impl.Ctl{Kind: 3, Id: 5, Items: []impl.Item{}},
	)
	for _, m := range good {
		checkCtl(t, m, true)
	}
	bad := []impl.Ctl{
		{}, {Id: 1, Of: 1}, {Kind: 4, Id: 1, Of: 1}, {Kind: 4, Id: 1}, {Kind: 4, Id: 1, N: 1}, {Kind: 0, Id: 1, N: 1}, {Kind: -1, Id: 1}, {Kind: 257, Id: 1, Of: 1}, {Kind: 258, Id: 1}, {Kind: 259, Id: 1},
		{Kind: 1}, {Kind: 2}, {Kind: 3}, {Kind: 1, Id: 5},
		{Kind: 1, From: -1, Id: 5, Of: 2}, {Kind: 1, From: 2, Id: 5, Of: 2}, {Kind: 1, Id: 0, Of: 2}, {Kind: 1, Id: -1, Of: 2}, {Kind: 1, Id: 60001, Of: 2},
		{Kind: 1, Id: 5, N: -1, Of: 2}, {Kind: 1, Id: 5, N: 2, Of: 2}, {Kind: 1, Id: 5, N: 1, Of: 1}, {Kind: 1, Id: 5, N: 20, Of: 20}, {Kind: 1, Id: 5, Of: 21}, {Kind: 1, Id: 5, N: 20, Of: 21},
		{Kind: 1, Id: 5, Of: 0}, {Kind: 1, Id: 5, N: -1, Of: 0}, {Kind: 1, Id: 5, N: -2, Of: -1}, {Kind: 1, Id: 5, Of: -1},
		{Kind: 1, Id: 5, Of: 2, Ticket: -1}, {Kind: 1, Id: 5, Of: 2, Ticket: 65536}, {Kind: 1, Id: 5, Of: 2, Items: []impl.Item{a, x, a}},
		ack(-1), ack(21), {Kind: 2, From: -1, Id: 5}, {Kind: 2, From: 2, Id: 5}, {Kind: 2, Id: 0}, {Kind: 2, Id: -1}, {Kind: 2, Id: 60001},
		{Kind: 2, Id: 5, Of: 1}, {Kind: 2, Id: 5, Of: -1}, {Kind: 2, Id: 5, N: 1, Of: 2}, {Kind: 2, Id: 5, Paused: true}, {Kind: 2, Id: 5, Ticket: 1}, {Kind: 2, Id: 5, Ticket: -1},
		{Kind: 2, Id: 5, Items: []impl.Item{a}}, {Kind: 2, Id: 5, Items: []impl.Item{{}}},
		{Kind: 3, From: -1, Id: 5}, {Kind: 3, From: 2, Id: 5}, {Kind: 3, Id: 0}, {Kind: 3, Id: -1}, {Kind: 3, Id: 60001}, {Kind: 3, Id: 5, N: 1}, {Kind: 3, Id: 5, N: -1},
		{Kind: 3, Id: 5, Of: 1}, {Kind: 3, Id: 5, Of: -1}, {Kind: 3, Id: 5, Paused: true}, {Kind: 3, Id: 5, Ticket: 1}, {Kind: 3, Id: 5, Ticket: -1},
		{Kind: 3, Id: 5, Items: []impl.Item{a}}, {Kind: 3, Id: 5, Items: []impl.Item{{}}},
	}
	for _, m := range bad {
		checkCtl(t, m, false)
	}
}

func TestCtlsWithAChangedNumber(t *testing.T) {
	numbers := append(edgeNumbers(), 18, 19, 20, 21, 22, 256+19, 256+20, 65536+19, 65536+20)
	for _, m := range goodCtls() {
		for _, name := range []string{"Kind", "From", "Id", "N", "Of", "Ticket"} {
			for _, n := range numbers {
				x := m
				reflect.ValueOf(&x).Elem().FieldByName(name).SetInt(int64(n))
				checkCtl(t, x, isCtl(x))
			}
		}
		x := m
		x.Paused = !m.Paused
		checkCtl(t, x, m.Kind == impl.CtBatch)
	}
}

func TestCtlsOfEveryPartNumber(t *testing.T) {
	for kind := range 5 {
		for of := -2; of <= 23; of++ {
			for n := -2; n <= 23; n++ {
				want := kind == 1 && 0 <= n && n < of && of <= 20 || kind == 2 && of == 0 && 0 <= n && n <= 20 || kind == 3 && of == 0 && n == 0
				checkCtl(t, impl.Ctl{Kind: kind, From: 1, Id: 300, N: n, Of: of}, want)
			}
		}
	}
}

func TestCtlsOfEveryWord(t *testing.T) {
	for n := range 65538 {
		for _, m := range []impl.Ctl{{Kind: 1, Id: n, Of: 1}, {Kind: 2, Id: n}, {Kind: 3, Id: n}, {Kind: 1, Id: 1, Of: 1, Ticket: n}} {
			b := impl.PutCtl(m)
			if !isCtl(m) {
				if len(b) != 0 {
					t.Errorf("PutCtl(%+v) = %q", m, b)
				}
				continue
			}
			if x, ok := impl.GetCtl(b); !ok || !sameCtl(x, m) || string(b) != string(rawCtl(m)) {
				t.Errorf("PutCtl(%+v) = %q, GetCtl = %+v, %v", m, b, x, ok)
			}
		}
	}
}

// TestCtlOkOfTheNumberOfItems has numbers of items whose low byte is in range.
func TestCtlOkOfTheNumberOfItems(t *testing.T) {
	for _, n := range []int{0, 1, 2, 3, 4, 5, 255, 256, 257, 258, 512, 65536, 65537} {
		for _, x := range []impl.Item{goodItems()[0], goodItems()[16]} {
			items := slices.Repeat([]impl.Item{x}, n)
			for of := range 3 {
				for kind := range 5 {
					m := impl.Ctl{Kind: kind, Id: 5, Of: of, Items: items}
					want := kind == 1 && of > 0 && n <= 2 || (kind == 2 || kind == 3) && of == 0 && n == 0
					if impl.CtlOk(m) != want || len(impl.PutCtl(m)) > 0 != want || isCtl(m) != want {
						t.Errorf("kind %d of %d parts with %d items: %v, %q", kind, of, n, impl.CtlOk(m), impl.PutCtl(m))
					}
				}
			}
		}
	}
}

func TestCtlsWithEachItem(t *testing.T) {
	items := goodItems()
	for _, x := range items {
		checkCtl(t, batch(0, 1, x), true)
		for _, y := range items {
			checkCtl(t, batch(19, 20, x, y), true)
		}
		checkCtl(t, batch(0, 1, x, x, x), false)
		for _, m := range []impl.Ctl{ack(0), ack(5), over()} {
			m.Items = []impl.Item{x}
			checkCtl(t, m, false)
			m.Items = []impl.Item{x, x}
			checkCtl(t, m, false)
		}
	}
}

// TestCtlsWithAnItemWithoutEncoding has such an item in each place, alone and with others.
func TestCtlsWithAnItemWithoutEncoding(t *testing.T) {
	good := goodItems()[7]
	for name, bad := range noItems() {
		if len(impl.PutItem(bad)) > 0 {
			t.Errorf("%s has an encoding", name)
		}
		for n := 1; n <= 4; n++ {
			for place := range n {
				items := slices.Repeat([]impl.Item{good}, n)
				items[place] = bad
				checkCtl(t, batch(0, 1, items...), false)
			}
		}
		checkCtl(t, batch(0, 1, bad, bad), false)
	}
}

func TestGetCtlOfNothing(t *testing.T) {
	for _, b := range [][]byte{nil, {}, make([]byte, 0, 20)} {
		if m, ok := impl.GetCtl(b); ok || !sameCtl(m, impl.Ctl{}) {
			t.Errorf("GetCtl(%q) = %+v, %v", b, m, ok)
		}
	}
	checkNoCtl(t, "")
	for _, m := range goodCtls() {
		checkGetCtl(t, "", string(rawCtl(m)), impl.Ctl{}, false)
	}
	// The sum of no bytes.
	checkNoCtl(t, "\xff\xff")
	for n := range 30 {
		for _, c := range []string{"\x00", "\x01", "\x02", "\x03", "\xff"} {
			checkNoCtl(t, strings.Repeat(c, n))
			checkAnyCtl(t, withSum([]byte(strings.Repeat(c, n))))
		}
	}
}

// TestGetCtlOfCutEncodings has the bytes that are cut off, and others, behind what is left, and the sum of what is left.
func TestGetCtlOfCutEncodings(t *testing.T) {
	for _, m := range goodCtls() {
		b := string(rawCtl(m))
		body := string(rawBody(m))
		for n := range len(b) {
			checkNoCtl(t, b[:n])
			checkGetCtl(t, b[:n], b[n:], impl.Ctl{}, false)
			checkNoCtl(t, b[n+1:])
			checkAnyCtl(t, []byte(b[:n]+b[n+1:]))
		}
		for n := range len(body) {
			checkNoCtl(t, string(withSum([]byte(body[:n]))))
			checkAnyCtl(t, withSum([]byte(body[:n]+body[n+1:])))
			checkAnyCtl(t, withSum([]byte(body[n+1:])))
		}
	}
}

// TestGetCtlOfLongerEncodings has bytes more behind the encoding, and before its sum, which is put right.
func TestGetCtlOfLongerEncodings(t *testing.T) {
	for _, m := range goodCtls() {
		b, body := string(rawCtl(m)), string(rawBody(m))
		for c := range 256 {
			checkNoCtl(t, b+string([]byte{byte(c)}))
			checkNoCtl(t, string(withSum(append([]byte(body), byte(c)))))
			checkNoCtl(t, string(withSum(append([]byte(b), byte(c)))))
		}
		for _, more := range []string{"\x00\x00", "\x01\x00", strings.Repeat("\x00", 256), strings.Repeat("a", 65536), b} {
			checkNoCtl(t, b+more)
			checkNoCtl(t, string(withSum([]byte(body+more))))
		}
		// The sum of an encoding with its sum is 0.
		checkNoCtl(t, string(withSum([]byte(b))))
		for n := range len(body) {
			for _, c := range []string{"\x00", "\x01", "\x0f", "a", "\xff"} {
				checkAnyCtl(t, []byte(b[:n]+c+b[n:]))
				checkAnyCtl(t, withSum([]byte(body[:n]+c+body[n:])))
			}
		}
	}
}

// TestGetCtlOfChangedBits changes each byte in each bit; with its sum put right, the encoding may be that of another message.
func TestGetCtlOfChangedBits(t *testing.T) {
	accepted := 0
	for _, m := range goodCtls() {
		b := rawCtl(m)
		for i := range b {
			for bit := range 8 {
				b[i] ^= 1 << bit
				checkNoCtl(t, string(b))
				b[i] ^= 1 << bit
			}
		}
		body := rawBody(m)
		for i, old := range body {
			for c := range 256 {
				body[i] = byte(c)
				if checkAnyCtl(t, withSum(body)) {
					accepted++
				}
			}
			body[i] = old
		}
	}
	if accepted < 20000 {
		t.Errorf("only %d changed encodings are accepted", accepted)
	}
}

func TestGetCtlOfEverySum(t *testing.T) {
	for _, m := range []impl.Ctl{ack(3), batch(3, 4, goodItems()[7])} {
		b := rawCtl(m)
		at := len(b) - 2
		right := int(b[at])*256 + int(b[at+1])
		for n := range 65536 {
			b[at], b[at+1] = byte(n>>8), byte(n)
			if x, ok := impl.GetCtl(b); ok != (n == right) || !ok && !sameCtl(x, impl.Ctl{}) {
				t.Errorf("GetCtl(%q) = %+v, %v", b, x, ok)
			}
		}
	}
}

// TestGetCtlOfOtherLengths has bytes whose number of items or length of an item says more or less than there is.
func TestGetCtlOfOtherLengths(t *testing.T) {
	items := goodItems()
	for _, m := range []impl.Ctl{batch(0, 1), batch(0, 1, items[0]), batch(0, 1, items[16]), batch(0, 1, items[7], items[16]), batch(0, 1, items[16], items[7]), batch(0, 1, items[0], items[0])} {
		body := rawBody(m)
		places := []int{9}
		for at := 10; at < len(body); at += 1 + int(body[at]) {
			places = append(places, at)
		}
		for _, at := range places {
			for c := range 256 {
				b := slices.Clone(body)
				b[at] = byte(c)
				if c == int(body[at]) {
					checkGetCtl(t, string(withSum(b)), "", m, true)
					continue
				}
				checkNoCtl(t, string(withSum(b)))
				checkGetCtl(t, string(withSum(b)), strings.Repeat("\x00", 260), impl.Ctl{}, false)
			}
		}
	}
}

// TestGetCtlOfEmptyItems has an item of length 0 in each place.
func TestGetCtlOfEmptyItems(t *testing.T) {
	item := rawItem(goodItems()[7])
	for n := 1; n <= 4; n++ {
		for place := range n {
			b := rawBody(batch(0, 1))
			b[9] = byte(n)
			for i := range n {
				if i == place {
					b = append(b, 0)
				} else {
					b = append(append(b, byte(len(item))), item...)
				}
			}
			checkNoCtl(t, string(withSum(b)))
		}
		b := rawBody(batch(0, 1))
		b[9] = byte(n)
		checkNoCtl(t, string(withSum(append(b, make([]byte, n)...))))
	}
}

// unhex returns the bytes that the digits of s stand for.
func unhex(s string) string {
	b, err := hex.DecodeString(strings.ReplaceAll(s, " ", ""))
	if err != nil {
		panic(err)
	}
	return string(b)
}

const (
	// hexAsker and hexLine are a client and a connection, each behind its length.
	hexAsker = " 0f 01 0001 00 00 0000 000000 00 0000 0000"
	hexLine  = " 0f 02 0001 00 0161 0001 000000 0000 0000"
)

// otherBodies are complete encodings, without the sum, of what is no message. Each of them has one fault.
func otherBodies() map[string][]string {
	return map[string][]string{
		"the kind": {
			"00 00 0001 00 00 00 0000 00", "00 00 0001 00 01 00 0000 00", "00 00 0000 00 00 00 0000 00",
			"04 00 0001 00 00 00 0000 00", "04 00 0001 00 01 00 0000 00", "ff 00 0001 00 01 00 0000 00",
		},
		"From": {"01 02 0001 00 01 00 0000 00", "02 02 0001 00 00 00 0000 00", "03 ff 0001 00 00 00 0000 00"},
		"Id": {
			"01 00 0000 00 01 00 0000 00", "02 00 0000 00 00 00 0000 00", "03 00 0000 00 00 00 0000 00",
			"01 00 ea61 00 01 00 0000 00", "02 00 ea61 00 00 00 0000 00", "03 00 ffff 00 00 00 0000 00",
		},
		"N": {
			"01 00 0001 01 01 00 0000 00", "01 00 0001 14 14 00 0000 00", "01 00 0001 ff 01 00 0000 00",
			"02 00 0001 15 00 00 0000 00", "02 00 0001 ff 00 00 0000 00", "03 00 0001 01 00 00 0000 00",
		},
		"Of": {
			"01 00 0001 00 00 00 0000 00", "01 00 0001 00 15 00 0000 00", "01 00 0001 00 ff 00 0000 00",
			"02 00 0001 00 01 00 0000 00", "03 00 0001 00 01 00 0000 00",
		},
		"Paused": {
			"01 00 0001 00 01 02 0000 00", "01 00 0001 00 01 80 0000 00", "01 00 0001 00 01 ff 0000 00",
			"02 00 0001 00 00 01 0000 00", "02 00 0001 00 00 02 0000 00", "03 00 0001 00 00 01 0000 00", "03 00 0001 00 00 80 0000 00",
		},
		"Ticket": {"02 00 0001 00 00 00 0001 00", "02 00 0001 00 00 00 0100 00", "03 00 0001 00 00 00 0001 00", "03 00 0001 00 00 00 ffff 00"},
		"the number of items": {
			"01 00 0001 00 01 00 0000 00" + hexAsker, "01 00 0001 00 01 00 0000 00 00", "01 00 0001 00 01 00 0000 01", "01 00 0001 00 01 00 0000 02", "01 00 0001 00 01 00 0000 ff",
			"01 00 0001 00 01 00 0000 01" + hexAsker + hexLine, "01 00 0001 00 01 00 0000 02" + hexLine, "01 00 0001 00 01 00 0000 02" + hexAsker + "00",
			"01 00 0001 00 01 00 0000 03" + hexAsker + hexLine + hexAsker,
			"02 00 0001 00 00 00 0000 01" + hexAsker, "02 00 0001 00 00 00 0000 01 00", "02 00 0001 00 00 00 0000 01",
			"03 00 0001 00 00 00 0000 01" + hexLine, "03 00 0001 00 00 00 0000 01 00", "03 00 0001 00 00 00 0000 01",
		},
		"the length of an item": {
			"01 00 0001 00 01 00 0000 01 00", "01 00 0001 00 01 00 0000 02 00 00", "01 00 0001 00 01 00 0000 02" + hexAsker + "00", "01 00 0001 00 01 00 0000 02 00" + hexAsker,
			"01 00 0001 00 01 00 0000 01 0e 01 0001 00 00 0000 000000 00 0000 0000", "01 00 0001 00 01 00 0000 01 10 01 0001 00 00 0000 000000 00 0000 0000",
			"01 00 0001 00 01 00 0000 01 0e 01 0001 00 00 0000 000000 00 0000 00", "01 00 0001 00 01 00 0000 01 10 01 0001 00 00 0000 000000 00 0000 0000 00",
			"01 00 0001 00 01 00 0000 01 ff 01 0001 00 00 0000 000000 00 0000 0000", "01 00 0001 00 01 00 0000 01 0f 01 0001 00 00 0000 000000 00 0000 00",
		},
		"an item": {
			"01 00 0001 00 01 00 0000 01 01 01", "01 00 0001 00 01 00 0000 01 0f 00 0001 00 00 0000 000000 00 0000 0000", "01 00 0001 00 01 00 0000 01 0f 03 0001 00 00 0000 000000 00 0000 0000",
			"01 00 0001 00 01 00 0000 01 0f 01 0000 00 00 0000 000000 00 0000 0000", "01 00 0001 00 01 00 0000 01 0f 01 0001 00 00 0001 000000 00 0000 0000",
			"01 00 0001 00 01 00 0000 01 0f 02 0001 00 0161 0000 000000 0000 0000", "01 00 0001 00 01 00 0000 02" + hexAsker + " 0f 02 0001 00 0161 0001 000000 0001 0000",
			"01 00 0001 00 01 00 0000 02 0f 01 0001 00 00 0000 000001 00 0000 0000" + hexLine,
		},
	}
}

// TestGetCtlOfInvalidMessages puts the sum right.
func TestGetCtlOfInvalidMessages(t *testing.T) {
	for _, s := range []string{
		"01 00 0001 00 01 00 0000 00", "01 00 0001 00 01 00 0000 01" + hexAsker, "01 00 0001 00 01 01 0000 01" + hexLine, "01 00 0001 00 01 00 0000 02" + hexLine + hexAsker,
		"02 00 0001 00 00 00 0000 00", "02 01 0001 14 00 00 0000 00", "03 00 0001 00 00 00 0000 00",
	} {
		if b := withSum([]byte(unhex(s))); !checkAnyCtl(t, b) {
			t.Errorf("GetCtl(%q) is false", b)
		}
	}
	for fault, l := range otherBodies() {
		for _, s := range l {
			b := string(withSum([]byte(unhex(s))))
			if _, ok := readCtl([]byte(b)); ok {
				t.Errorf("%s: the second definition accepts %s", fault, s)
			}
			checkNoCtl(t, b)
			checkGetCtl(t, b, strings.Repeat("\x00", 260), impl.Ctl{}, false)
		}
	}
}

func TestGetCtlOfAWrongSum(t *testing.T) {
	for _, m := range goodCtls() {
		body := rawBody(m)
		sum := otherSum(body)
		high, low := byte(sum>>8), byte(sum)
		for _, x := range []string{"", string([]byte{high}), string([]byte{low}), string([]byte{low, high}), string([]byte{^high, ^low}), string([]byte{high, low + 1}), string([]byte{high + 1, low}), "\x00\x00", "\xff\xff"} {
			if x != string([]byte{high, low}) {
				checkNoCtl(t, string(body)+x)
			}
		}
	}
}

// randomCtl may be valid, with a few other fields.
func randomCtl(r *rand.Rand) impl.Ctl {
	pick := func(s span) int {
		if r.Intn(40) == 0 {
			return edgeNumbers()[r.Intn(len(edgeNumbers()))]
		}
		return s.least + r.Intn(s.most-s.least+1)
	}
	f := ctlForms[r.Intn(3)].numbers
	m := impl.Ctl{Kind: pick(f["Kind"]), From: pick(f["From"]), Id: pick(f["Id"]), N: pick(f["N"]), Of: pick(f["Of"]), Ticket: pick(f["Ticket"])}
	if m.Kind == impl.CtBatch && m.N >= m.Of && r.Intn(10) > 0 {
		m.Of = min(m.N+1, 20)
	}
	if m.Kind == impl.CtBatch || r.Intn(20) == 0 {
		m.Paused = r.Intn(2) == 0
		for range min(r.Intn(4), 2+r.Intn(2)) {
			m.Items = append(m.Items, goodItems()[r.Intn(len(goodItems()))])
		}
	}
	return m
}

func TestCtlsAtRandom(t *testing.T) {
	r := rand.New(rand.NewSource(11))
	good, accepted := 0, 0
	for range 10000 {
		m := randomCtl(r)
		if isCtl(m) {
			good++
		}
		checkCtl(t, m, isCtl(m))
		body := rawBody(m)
		for range 1 + r.Intn(2) {
			body[r.Intn(len(body))] ^= 1 << r.Intn(8)
		}
		if checkAnyCtl(t, withSum(body)) {
			accepted++
		}
	}
	if good < 5000 || good > 9000 || accepted < 1000 || accepted > 9000 {
		t.Errorf("%d and %d of 10000 are valid", good, accepted)
	}
}

// otherPart is a second definition of PartOf.
func otherPart(h impl.House, i, n int) impl.Ctl {
	if h.St != 3 || !isHouse(h) || n < 0 || n >= h.H.Of {
		return impl.Ctl{}
	}
	m := impl.Ctl{Kind: 1, From: i, Id: h.H.Id, N: n, Of: h.H.Of, Paused: h.Paused, Ticket: h.Ticket}
	for at, x := range itemsOf(h) {
		if at/2 == n {
			m.Items = append(m.Items, x)
		}
	}
	if !isCtl(m) {
		return impl.Ctl{}
	}
	return m
}

func itemsOf(h impl.House) []impl.Item {
	var l []impl.Item
	for _, a := range h.As {
		l = append(l, itemOf(a))
	}
	for _, x := range h.Ls {
		l = append(l, lineItem(x))
	}
	return l
}

// checkParts also checks that Parts neither reads nor writes behind the lists.
func checkParts(t *testing.T, h impl.House, want int) {
	t.Helper()
	arg, whole := roomyHouse(h, "main")
	before := whole.clone()
	if got := impl.Parts(arg); got != want {
		t.Errorf("Parts(%+v) = %d, want %d", h, got, want)
	}
	if !whole.equal(before) {
		t.Errorf("Parts(%+v) wrote to its argument: %+v", h, whole)
	}
}

// checkPart also checks that PartOf neither reads nor writes behind the lists, and that its results share no memory.
func checkPart(t *testing.T, h impl.House, i, n int, want impl.Ctl) {
	t.Helper()
	if got := otherPart(h, i, n); !sameCtl(got, want) {
		t.Errorf("the second definition of part %d by %d of %+v: %+v, want %+v", n, i, h, got, want)
	}
	arg, whole := roomyHouse(h, "main")
	before := whole.clone()
	first, second := impl.PartOf(arg, i, n), impl.PartOf(arg, i, n)
	if !sameCtl(first, want) {
		t.Errorf("PartOf(%+v, %d, %d) = %+v, want %+v", h, i, n, first, want)
	}
	spoilItems(first.Items)
	if !whole.equal(before) {
		t.Errorf("PartOf(%+v, %d, %d) wrote to its argument: %+v", h, i, n, whole)
	}
	clear(whole.conf)
	clear(whole.as)
	clear(whole.ls)
	if !sameCtl(second, want) {
		t.Errorf("PartOf(%+v, %d, %d) shares memory: %+v, want %+v", h, i, n, second, want)
	}
}

// checkAllParts compares PartOf with its second definition for every number of a part and of a proxy, and for numbers beyond.
func checkAllParts(t *testing.T, h impl.House) {
	t.Helper()
	for n := -2; n <= 22; n++ {
		for _, i := range []int{0, 1} {
			checkPart(t, h, i, n, otherPart(h, i, n))
		}
		for _, i := range []int{-1, 2, 3, 256, 1 << 32, math.MinInt, math.MaxInt} {
			checkPart(t, h, i, n, impl.Ctl{})
		}
	}
	for _, n := range []int{-1, -2, h.H.Of, h.H.Of + 1, 255, 256, 65536, 1 << 32, 1 << 62, 1<<62 + 1, 1 << 61, math.MinInt, math.MinInt + 1, math.MaxInt - 1, math.MaxInt} {
		if n < 0 || n >= h.H.Of {
			checkPart(t, h, 0, n, impl.Ctl{})
			checkPart(t, h, 1, n, impl.Ctl{})
		}
	}
}

func checkNoParts(t *testing.T, h impl.House) {
	t.Helper()
	for n := -1; n <= 20; n++ {
		for i := -1; i <= 2; i++ {
			checkPart(t, h, i, n, impl.Ctl{})
		}
	}
}

// frozen is a proxy with n clients and m connections in all states that hands over just the parts that it needs.
func frozen(n, m int) impl.House {
	h := impl.House{St: impl.HsFreeze, Epoch: 300, Gen: 2, Conf: []impl.Db{db("main", 3, 4, 10, 5)}, Ticket: 772, As: someAskers(n), Ls: someLines(m)}
	h.H = impl.Hand{Id: 300, Of: max(1, n/2+m/2+(n%2+m%2+1)/2), Since: 5}
	h.Paused = (n+m)%4 < 2
	for i := range h.As {
		a := &h.As[i]
		switch {
		case i%3 == 0 && i < m:
			x := &h.Ls[m-1-i]
			held := i % 2
			a.St, a.Line, a.Lease = impl.AkBusy+held, x.Sock, 500+i
			x.St, x.Asker, x.Lease = impl.LnBusy+held, a.Sock, a.Lease
		case i%3 == 1:
			a.St, a.Ticket, a.Since, a.Q = impl.AkWait, 700-i, 70+i, "one"
		case i%3 == 2 && i%2 == 0:
			*a = impl.Asker{Sock: a.Sock}
		}
	}
	return h
}

func TestParts(t *testing.T) {
	wants := []int{1, 1, 1, 2, 2, 3, 3, 4, 4, 5, 5, 6, 6, 7, 7, 8, 8, 9, 9, 10, 10, 11}
	for _, st := range []int{-1, impl.HsOff, impl.HsIdle, impl.HsServe, impl.HsFreeze, impl.HsTake, 5} {
		for n := range 9 {
			for m := range 13 {
				h := frozen(n, m)
				h.St = st
				checkParts(t, h, wants[n+m])
				h.H.Of, h.H.Acked = 1, 1
				checkParts(t, h, wants[n+m])
				checkParts(t, impl.House{St: st, As: make([]impl.Asker, n), Ls: make([]impl.Line, m)}, wants[n+m])
			}
		}
	}
	checkParts(t, impl.House{}, 1)
	checkParts(t, impl.House{H: impl.Hand{Of: 20}}, 1)
	checkParts(t, impl.House{As: []impl.Asker{}, Ls: []impl.Line{}}, 1)
	checkParts(t, impl.House{As: make([]impl.Asker, 1000)}, 500)
	checkParts(t, impl.House{Ls: make([]impl.Line, 1001)}, 501)
	checkParts(t, impl.House{As: make([]impl.Asker, 1001), Ls: make([]impl.Line, 1001)}, 1001)
	for _, h := range goodHouses() {
		checkParts(t, h, wants[len(h.As)+len(h.Ls)])
	}
}

// TestPartOfAFullProxy has parts in the clients, in the connections, and a last one with one element.
func TestPartOfAFullProxy(t *testing.T) {
	h := fullHouse(impl.HsFreeze)
	head := impl.Ctl{Kind: impl.CtBatch, Id: 3, Of: 8, Paused: true, Ticket: 8}
	part := func(i, n int, items ...impl.Item) impl.Ctl {
		m := head
		m.From, m.N, m.Items = i, n, items
		return m
	}
	for i := range 2 {
		checkPart(t, h, i, 0, part(i, 0, itemOf(impl.Asker{Sock: 1}), itemOf(impl.Asker{Sock: 2, Db: "admin", St: impl.AkIdle})))
		checkPart(t, h, i, 1, part(i, 1, itemOf(impl.Asker{Sock: 5, Db: "main", St: impl.AkWait, Ticket: 7, Since: 3, Q: "one"}), itemOf(impl.Asker{Sock: 6, Db: "main", St: impl.AkBusy, Line: 12, Lease: 5})))
		checkPart(t, h, i, 2, part(i, 2, itemOf(h.As[4]), itemOf(h.As[5])))
		checkPart(t, h, i, 3, part(i, 3, lineItem(impl.Line{Sock: 3, Db: "logs", Gen: 1, St: impl.LnHeld, Asker: 9, Lease: 4}), lineItem(impl.Line{Sock: 4, Db: "main", Gen: 1, Since: 9})))
		checkPart(t, h, i, 6, part(i, 6, lineItem(h.Ls[6]), lineItem(h.Ls[7])))
		checkPart(t, h, i, 7, part(i, 7, lineItem(impl.Line{Sock: 9999, Db: "old", Gen: 60000, Since: 100000})))
		checkPart(t, h, i, 8, impl.Ctl{})
		checkPart(t, h, i, -1, impl.Ctl{})
	}
	checkPart(t, h, -1, 0, impl.Ctl{})
	checkPart(t, h, 2, 0, impl.Ctl{})
	checkAllParts(t, h)
	// Without the first client, a part ends in the clients and goes on in the connections.
	h.As, h.Paused, head.Paused = h.As[1:], false, false
	h.H.Of, head.Of = 7, 7
	checkPart(t, h, 1, 0, part(1, 0, itemOf(h.As[0]), itemOf(h.As[1])))
	checkPart(t, h, 1, 2, part(1, 2, itemOf(h.As[4]), lineItem(h.Ls[0])))
	checkPart(t, h, 1, 3, part(1, 3, lineItem(h.Ls[1]), lineItem(h.Ls[2])))
	checkPart(t, h, 1, 6, part(1, 6, lineItem(h.Ls[7]), lineItem(h.Ls[8])))
	checkPart(t, h, 1, 7, impl.Ctl{})
	checkAllParts(t, h)
}

// TestPartOfAProxyWithNothing has only empty parts.
func TestPartOfAProxyWithNothing(t *testing.T) {
	for _, of := range []int{1, 2, 19, 20} {
		for _, ticket := range []int{0, 1, 65535} {
			h := impl.House{St: impl.HsFreeze, Epoch: 1, Ticket: ticket, H: impl.Hand{Id: 1, Of: of}}
			for n := range of {
				checkPart(t, h, 0, n, impl.Ctl{Kind: impl.CtBatch, Id: 1, N: n, Of: of, Ticket: ticket})
				checkPart(t, h, 1, n, impl.Ctl{Kind: impl.CtBatch, From: 1, Id: 1, N: n, Of: of, Ticket: ticket})
			}
			checkPart(t, h, 0, of, impl.Ctl{})
			checkAllParts(t, h)
			h.As, h.Ls = []impl.Asker{}, []impl.Line{}
			checkAllParts(t, h)
		}
	}
}

// TestPartOfAnotherNumberOfParts has an Of that is less or greater than Parts: some elements are in no part, or the last parts are empty.
func TestPartOfAnotherNumberOfParts(t *testing.T) {
	for _, h := range []impl.House{fullHouse(impl.HsFreeze), frozen(0, 0), frozen(1, 0), frozen(0, 1), frozen(3, 2), frozen(6, 8)} {
		all := itemsOf(h)
		for of := 1; of <= 20; of++ {
			h.H.Of, h.H.Acked = of, of/2
			for n := range of {
				items := all[min(2*n, len(all)):min(2*n+2, len(all))]
				checkPart(t, h, 1, n, impl.Ctl{Kind: impl.CtBatch, From: 1, Id: h.H.Id, N: n, Of: of, Paused: h.Paused, Ticket: h.Ticket, Items: items})
			}
			checkPart(t, h, 1, of, impl.Ctl{})
		}
		for _, of := range []int{-1, 0, 21, 22} {
			h.H.Of, h.H.Acked = of, 0
			checkNoParts(t, h)
		}
	}
}

// TestPartOfDoesNotDependOnTheRestOfTheHand has every number of acknowledged parts and several times.
func TestPartOfDoesNotDependOnTheRestOfTheHand(t *testing.T) {
	h := frozen(3, 4)
	for acked := 0; acked <= 4; acked++ {
		for _, since := range []int{0, 1, 100000} {
			h.H.Acked, h.H.Since = acked, since
			for n := range 4 {
				checkPart(t, h, 0, n, otherPart(frozen(3, 4), 0, n))
			}
			checkPart(t, h, 0, 4, impl.Ctl{})
		}
	}
}

func TestPartOfInvalidProxies(t *testing.T) {
	for _, st := range []int{impl.HsOff, impl.HsIdle, impl.HsServe, impl.HsTake, -1, 5, 256 + 3} {
		h := fullHouse(st)
		checkNoParts(t, h)
		h.Epoch, h.Gen, h.Conf, h.H = 3, 2, []impl.Db{db("main", 3, 4, 10, 5)}, impl.Hand{Id: 3, Of: 8}
		checkNoParts(t, h)
	}
	for _, h := range goodHouses() {
		if h.St == impl.HsFreeze {
			checkAllParts(t, h)
		} else {
			checkNoParts(t, h)
		}
	}
	for _, busy := range []bool{false, true} {
		checkAllParts(t, pair(impl.HsFreeze, busy))
		for name, change := range unpaired() {
			h := with(pair(impl.HsFreeze, busy), change)
			if isHouse(h) {
				t.Errorf("%s: %+v is valid", name, h)
			}
			checkNoParts(t, h)
		}
	}
	for name, change := range map[string]func(h *impl.House){
		"no Epoch":               func(h *impl.House) { h.Epoch, h.H.Id = 0, 0 },
		"another Id":             func(h *impl.House) { h.H.Id++ },
		"a long Epoch":           func(h *impl.House) { h.Epoch, h.H.Id = 60001, 60001 },
		"a Gen without Conf":     func(h *impl.House) { h.Conf = nil },
		"a Conf without Gen":     func(h *impl.House) { h.Gen = 0 },
		"too many acknowledged":  func(h *impl.House) { h.H.Acked = 9 },
		"a negative Acked":       func(h *impl.House) { h.H.Acked = -1 },
		"a late Since":           func(h *impl.House) { h.H.Since = 100001 },
		"a Ticket that is taken": func(h *impl.House) { h.Ticket = 7 },
		"a Ticket too great":     func(h *impl.House) { h.Ticket = 65536 },
		"an invalid client":      func(h *impl.House) { h.As[5].Db = "" },
		"an invalid connection":  func(h *impl.House) { h.Ls[8].Gen = 0 },
		"clients out of order":   func(h *impl.House) { h.As[0].Sock = 4 },
		"a socket in both lists": func(h *impl.House) { h.Ls[1].Sock = 5 },
		"too many clients":       func(h *impl.House) { h.As = append(h.As, impl.Asker{Sock: 20}) },
		"too many connections":   func(h *impl.House) { h.Ls = someLines(10) },
	} {
		h := with(fullHouse(impl.HsFreeze), change)
		if isHouse(h) {
			t.Errorf("%s: %+v is valid", name, h)
		}
		checkNoParts(t, h)
	}
	checkNoParts(t, impl.House{})
}

// TestPartOfALongLease has a client and its connection whose encodings are empty, in each place: their parts would be invalid, the others are not.
func TestPartOfALongLease(t *testing.T) {
	h := fullHouse(impl.HsFreeze)
	at, served := 3, 5
	for _, lease := range []int{65535, 65536, 65537, 1<<32 + 5, math.MaxInt} {
		h.As, h.Ls = slices.Clone(h.As), slices.Clone(h.Ls)
		h.As[at].Lease, h.Ls[served].Lease = lease, lease
		if !impl.HouseOk(h) {
			t.Errorf("HouseOk(%+v)", h)
		}
		for n := range 8 {
			lost := lease > 65535 && (n == at/2 || n == (6+served)/2)
			if m := impl.PartOf(h, 1, n); lost && !sameCtl(m, impl.Ctl{}) || !lost && m.Kind != impl.CtBatch {
				t.Errorf("lease %d: PartOf number %d = %+v", lease, n, m)
			}
			checkPart(t, h, 1, n, otherPart(h, 1, n))
		}
	}
	for n := 1; n <= 4; n++ {
		for m := 1; m <= 4; m++ {
			for i := range n {
				for j := range m {
					x := frozen(0, 0)
					x.As, x.Ls, x.H.Of = someAskers(n), someLines(m), 4
					x.As[i].St, x.As[i].Line, x.As[i].Lease = impl.AkHeld, x.Ls[j].Sock, 65536
					x.Ls[j].St, x.Ls[j].Asker, x.Ls[j].Lease = impl.LnHeld, x.As[i].Sock, 65536
					for k := range 4 {
						if got := impl.PartOf(x, 0, k); (got.Kind == 0) != (k == i/2 || k == (n+j)/2) {
							t.Errorf("%d clients, %d connections, the lease of %d and %d: PartOf number %d = %+v", n, m, i, j, k, got)
						}
						checkPart(t, x, 0, k, otherPart(x, 0, k))
					}
				}
			}
		}
	}
}

// checkHandedOver checks that the parts of h, each decoded from its encoding, contain all its clients and connections, and that no other part does.
func checkHandedOver(t *testing.T, h impl.House, i int) {
	t.Helper()
	parts := impl.Parts(h)
	if parts != h.H.Of {
		t.Errorf("Parts(%+v) = %d", h, parts)
	}
	var as []impl.Asker
	var ls []impl.Line
	for n := range parts {
		m, ok := impl.GetCtl(impl.PutCtl(impl.PartOf(h, i, n)))
		if !ok || m.Kind != impl.CtBatch || m.From != i || m.Id != h.H.Id || m.N != n || m.Of != parts || m.Paused != h.Paused || m.Ticket != h.Ticket {
			t.Errorf("part %d of %+v is decoded to %+v, %v", n, h, m, ok)
		}
		if len(m.Items) == 0 && len(h.As)+len(h.Ls) > 0 || len(m.Items) < 2 && n < parts-1 {
			t.Errorf("part %d of %+v has only %+v", n, h, m.Items)
		}
		for _, x := range m.Items {
			if x.Kind == impl.SkAsk {
				as = append(as, x.A)
			} else {
				ls = append(ls, x.L)
			}
		}
	}
	if !slices.Equal(as, h.As) || !slices.Equal(ls, h.Ls) {
		t.Errorf("the parts of %+v contain %+v and %+v", h, as, ls)
	}
	checkPart(t, h, i, parts, impl.Ctl{})
}

// TestPartsContainEverything has each number of clients and of connections up to the limits.
func TestPartsContainEverything(t *testing.T) {
	for n := 0; n <= 6; n++ {
		for m := 0; m <= 9; m++ {
			h := frozen(n, m)
			if !impl.HouseOk(h) {
				t.Fatalf("%+v is not valid", h)
			}
			checkHandedOver(t, h, 0)
			checkHandedOver(t, h, 1)
			checkAllParts(t, h)
			for _, k := range [][2]int{{7, m}, {n, 10}} {
				checkNoParts(t, frozen(k[0], k[1]))
			}
		}
	}
	checkHandedOver(t, fullHouse(impl.HsFreeze), 0)
}

func TestPartsAtRandom(t *testing.T) {
	r := rand.New(rand.NewSource(13))
	good := 0
	for range 3000 {
		h := randomHouse(r)
		if h.St != impl.HsFreeze {
			checkPart(t, h, r.Intn(2), r.Intn(9), impl.Ctl{})
			h.St, h.Epoch, h.Gen, h.Conf, h.H = impl.HsFreeze, 3, 1, []impl.Db{db("main", 1, 1, 1, 1)}, impl.Hand{Id: 3}
		}
		h.H.Of, h.H.Acked = max(1, (len(h.As)+len(h.Ls)+1)/2), 0
		checkHandedOver(t, h, r.Intn(2))
		spoil(r, &h)
		if isHouse(h) {
			good++
		}
		for n := -1; n < 10; n++ {
			i := r.Intn(2)
			checkPart(t, h, i, n, otherPart(h, i, n))
		}
	}
	if good < 500 || good > 2500 {
		t.Errorf("%d of 3000 are valid", good)
	}
}
