package tests

import (
	"cmp"
	"fmt"
	"maps"
	"math"
	"math/rand"
	"reflect"
	"slices"
	"strings"
	"testing"

	"loop.example/g00482/impl"
)

// houseForms and handForms are indexed by the state of the proxy. The lists, and what depends on another field, are not in them.
var houseForms = []form{
	{},
	{numbers: map[string]span{"St": {1, 1}}},
	{numbers: map[string]span{"St": {2, 2}, "Epoch": {1, 60000}, "Gen": {0, 60000}, "Ticket": {0, 65535}}},
	{numbers: map[string]span{"St": {3, 3}, "Epoch": {1, 60000}, "Gen": {0, 60000}, "Ticket": {0, 65535}}},
	{numbers: map[string]span{"St": {4, 4}, "Ticket": {0, 65535}}},
}

var handForms = []form{
	{}, {}, {},
	{numbers: map[string]span{"Id": {1, 60000}, "Of": {1, 20}, "Acked": {0, 20}, "Since": {0, 100000}}},
	{numbers: map[string]span{"Id": {1, 60000}, "Of": {1, 20}, "Acked": {0, 19}, "Since": {0, 100000}}},
}

// rising reports whether l is strictly ascending.
func rising(l []int) bool {
	for i := 1; i < len(l); i++ {
		if l[i-1] >= l[i] {
			return false
		}
	}
	return true
}

// areParts is a second definition of what the lists must satisfy in every state.
func areParts(h impl.House) bool {
	var asks, served, tickets []int
	for _, a := range h.As {
		asks = append(asks, a.Sock)
		if a.St == 2 {
			tickets = append(tickets, a.Ticket)
		}
	}
	for _, x := range h.Ls {
		served = append(served, x.Sock)
	}
	all := slices.Sorted(slices.Values(slices.Concat(asks, served)))
	slices.Sort(tickets)
	switch {
	case slices.ContainsFunc(h.As, func(a impl.Asker) bool { return !isAsker(a) }):
		return false
	case slices.ContainsFunc(h.Ls, func(x impl.Line) bool { return !isLine(x) }):
		return false
	case len(asks) > 6 || len(served) > 9 || len(tickets) > 0 && slices.Max(tickets) >= h.Ticket:
		return false
	}
	return rising(asks) && rising(served) && rising(all) && rising(tickets)
}

// lease is what a client and its connection both record.
type lease struct {
	ask, line, number int
	db                string
	busy              bool
}

func leasesOfAskers(l []impl.Asker) map[lease]bool {
	m := map[lease]bool{}
	for _, a := range l {
		if a.St == 3 || a.St == 4 {
			m[lease{a.Sock, a.Line, a.Lease, a.Db, a.St == 3}] = true
		}
	}
	return m
}

func leasesOfLines(l []impl.Line) map[lease]bool {
	m := map[lease]bool{}
	for _, x := range l {
		if x.St == 1 || x.St == 2 {
			m[lease{x.Asker, x.Sock, x.Lease, x.Db, x.St == 1}] = true
		}
	}
	return m
}

// areDbs is a second definition of the configurations.
func areDbs(l []impl.Db) bool {
	s := anyText(l)
	// A name could contain what stands between two databases.
	return isConf(s) && strings.Count(s, ";") == len(l)-1
}

// isHouse is a second definition of the valid proxies.
func isHouse(h impl.House) bool {
	if h.St < 0 || h.St > 4 || !houseForms[h.St].fits(h) || !handForms[h.St].fits(h.H) || !areParts(h) {
		return false
	}
	switch h.St {
	case 2, 3:
		if h.Gen == 0 && len(h.Conf) > 0 || h.Gen > 0 && !areDbs(h.Conf) || !maps.Equal(leasesOfAskers(h.As), leasesOfLines(h.Ls)) {
			return false
		}
		return h.St == 2 || h.H.Id == h.Epoch && h.H.Of-h.H.Acked >= 0
	case 4:
		return len(h.Conf) == 0 && h.H.Of-h.H.Acked >= 1
	}
	return len(h.Conf)+len(h.As)+len(h.Ls) == 0 && !h.Paused
}

// otherWaiters is a second definition of Waiters.
func otherWaiters(h impl.House, name string) []int {
	l := slices.DeleteFunc(slices.Clone(h.As), func(a impl.Asker) bool { return a.St != 2 || a.Db != name })
	slices.SortStableFunc(l, func(a, b impl.Asker) int { return cmp.Compare(a.Ticket, b.Ticket) })
	var socks []int
	for _, a := range l {
		socks = append(socks, a.Sock)
	}
	return socks
}

// answers are the results of all functions that ask something about one database of a proxy.
type answers struct {
	count, free int
	waiters     []int
	may         bool
}

// otherAnswers is a second definition of these functions.
func otherAnswers(h impl.House, name string) answers {
	of := map[string][]impl.Line{}
	for _, x := range h.Ls {
		of[x.Db] = append(of[x.Db], x)
	}
	want := answers{count: len(of[name]), waiters: otherWaiters(h, name)}
	free := func(x impl.Line) bool { return x.St == 0 && x.Gen == h.Gen }
	if i := slices.IndexFunc(of[name], free); i >= 0 {
		want.free = of[name][i].Sock
	}
	if i := slices.IndexFunc(h.Conf, func(d impl.Db) bool { return d.Name == name }); i >= 0 {
		want.may = want.count < h.Conf[i].Size && len(h.Ls) <= 8
	}
	return want
}

func answersOf(h impl.House, name string) answers {
	return answers{impl.Count(h, name), impl.FreeLine(h, name), impl.Waiters(h, name), impl.MayOpen(h, name)}
}

func sameAnswers(a, b answers) bool {
	return a.count == b.count && a.free == b.free && slices.Equal(a.waiters, b.waiters) && a.may == b.may
}

// arrays are what is behind the lists of a proxy.
type arrays struct {
	conf []impl.Db
	as   []impl.Asker
	ls   []impl.Line
}

func (x arrays) clone() arrays {
	return arrays{slices.Clone(x.conf), slices.Clone(x.as), slices.Clone(x.ls)}
}

func (x arrays) equal(y arrays) bool {
	return slices.Equal(x.conf, y.conf) && slices.Equal(x.as, y.as) && slices.Equal(x.ls, y.ls)
}

// roomyHouse returns h with elements behind its lists that would count if they were read, and the arrays behind the lists.
func roomyHouse(h impl.House, name string) (impl.House, arrays) {
	x := arrays{slices.Clone(h.Conf), slices.Clone(h.As), slices.Clone(h.Ls)}
	for i := range 3 {
		x.conf = append(x.conf, db(name, 9, i, 1, 1))
		x.as = append(x.as, impl.Asker{Sock: 5000 + i, Db: name, St: impl.AkWait, Ticket: i - 1})
		x.ls = append(x.ls, impl.Line{Sock: 6000 + i, Db: name, Gen: h.Gen})
	}
	h.Conf, h.As, h.Ls = x.conf[:len(h.Conf)], x.as[:len(h.As)], x.ls[:len(h.Ls)]
	return h, x
}

// with returns a copy of h, with lists of its own, that was changed.
func with(h impl.House, change func(h *impl.House)) impl.House {
	h.Conf, h.As, h.Ls = slices.Clone(h.Conf), slices.Clone(h.As), slices.Clone(h.Ls)
	change(&h)
	return h
}

func checkHouseOk(t *testing.T, h impl.House, want bool) {
	t.Helper()
	if isHouse(h) != want {
		t.Errorf("the second definition: %+v is not %v", h, want)
	}
	arg, whole := roomyHouse(h, "main")
	before := whole.clone()
	if impl.HouseOk(arg) != want {
		t.Errorf("HouseOk(%+v) is not %v", h, want)
	}
	if !whole.equal(before) {
		t.Errorf("HouseOk(%+v) wrote to its argument: %+v", h, whole)
	}
	if len(h.Conf)+len(h.As)+len(h.Ls) == 0 {
		bare, empty := h, h
		bare.Conf, bare.As, bare.Ls = nil, nil, nil
		empty.Conf, empty.As, empty.Ls = []impl.Db{}, []impl.Asker{}, []impl.Line{}
		if impl.HouseOk(bare) != want || impl.HouseOk(empty) != want {
			t.Errorf("HouseOk(%+v) without lists is not %v", h, want)
		}
	}
}

// checkAnswers also checks that Waiters shares no memory with its argument or with another result.
func checkAnswers(t *testing.T, h impl.House, name string, want answers) {
	t.Helper()
	if got := otherAnswers(h, name); !sameAnswers(got, want) {
		t.Errorf("the second definition of %q: %+v, want %+v of %+v", name, got, want, h)
	}
	arg, whole := roomyHouse(h, name)
	before := whole.clone()
	first, second := answersOf(arg, name), answersOf(arg, name)
	if !sameAnswers(first, want) || !sameAnswers(answersOf(h, name), want) {
		t.Errorf("Count, FreeLine, Waiters and MayOpen of %q: %+v, want %+v of %+v", name, first, want, h)
	}
	for i := range first.waiters[:cap(first.waiters)] {
		first.waiters[:cap(first.waiters)][i] = -5
	}
	if !whole.equal(before) {
		t.Errorf("Count, FreeLine, Waiters or MayOpen of %q wrote to its argument %+v: %+v", name, h, whole)
	}
	clear(whole.conf)
	clear(whole.as)
	clear(whole.ls)
	if !sameAnswers(second, want) {
		t.Errorf("Waiters of %q shares memory: %+v, want %+v of %+v", name, second, want, h)
	}
}

// checkAnyAnswers compares the functions with their second definitions, for each of these names and for others.
func checkAnyAnswers(t *testing.T, h impl.House, names ...string) {
	t.Helper()
	for _, name := range append(names, "", "admin", "mai", "mains", "Main") {
		checkAnswers(t, h, name, otherAnswers(h, name))
	}
}

// fullHouse has six clients and nine connections in all states. In HsOff, HsIdle and other states it is not valid.
func fullHouse(st int) impl.House {
	h := impl.House{St: st, Paused: true, Ticket: 8,
		As: []impl.Asker{
			{Sock: 1}, {Sock: 2, Db: "admin", St: impl.AkIdle},
			{Sock: 5, Db: "main", St: impl.AkWait, Ticket: 7, Since: 3, Q: "one"},
			{Sock: 6, Db: "main", St: impl.AkBusy, Line: 12, Lease: 5},
			{Sock: 9, Db: "logs", St: impl.AkHeld, Line: 3, Lease: 4},
			{Sock: 10, Db: "main", St: impl.AkWait, Ticket: 5},
		},
		Ls: []impl.Line{
			{Sock: 3, Db: "logs", Gen: 1, St: impl.LnHeld, Asker: 9, Lease: 4}, {Sock: 4, Db: "main", Gen: 1, Since: 9},
			{Sock: 7, Db: "main", Gen: 2, Since: 8}, {Sock: 8, Db: "logs", Gen: 2, Since: 7}, {Sock: 11, Db: "old", Gen: 1},
			{Sock: 12, Db: "main", Gen: 1, St: impl.LnBusy, Asker: 6, Lease: 5},
			{Sock: 13, Db: "old", Gen: 1}, {Sock: 14, Db: "main", Gen: 2}, {Sock: 9999, Db: "old", Gen: 60000, Since: 100000},
		},
	}
	if st == impl.HsServe || st == impl.HsFreeze {
		h.Epoch, h.Gen, h.Conf = 3, 2, []impl.Db{db("main", 3, 4, 10, 5), db("logs", 2, 0, 4, 4)}
	}
	if st == impl.HsFreeze || st == impl.HsTake {
		h.H = impl.Hand{Id: 3, Of: 8, Acked: 2, Since: 77}
	}
	return h
}

// goodHouses are valid proxies in each state: without anything, with everything, and with the greatest values.
func goodHouses() []impl.House {
	least := impl.Hand{Id: 1, Of: 1}
	most := impl.Hand{Id: 60000, Of: 20, Acked: 19, Since: 100000}
	dbs := []impl.Db{db("a", 1, 0, 1, 1), db("main", 3, 4, 20, 20), db("zzzzzzzz", 1, 1, 1, 1)}
	waiting := []impl.Asker{{Sock: 9998, Db: "main", St: impl.AkWait, Ticket: 65534, Since: 100000}}
	return []impl.House{
		{}, {St: impl.HsIdle},
		{St: impl.HsServe, Epoch: 1}, fullHouse(impl.HsServe), {St: impl.HsServe, Epoch: 60000, Gen: 60000, Conf: dbs, Ticket: 65535, As: waiting},
		{St: impl.HsFreeze, Epoch: 1, H: least}, fullHouse(impl.HsFreeze), {St: impl.HsFreeze, Epoch: 60000, Gen: 60000, Conf: dbs, Ticket: 65535, As: waiting, H: most},
		{St: impl.HsTake, H: least}, fullHouse(impl.HsTake), {St: impl.HsTake, Ticket: 65535, As: waiting, H: most},
	}
}

func TestHouseConstants(t *testing.T) {
	if got := []int{impl.HsOff, impl.HsIdle, impl.HsServe, impl.HsFreeze, impl.HsTake}; !slices.Equal(got, []int{0, 1, 2, 3, 4}) {
		t.Error(got)
	}
	if impl.MaxAskers != 6 || impl.MaxLines != 9 {
		t.Error(impl.MaxAskers, impl.MaxLines)
	}
}

func TestHouseOkOfGoodHouses(t *testing.T) {
	for _, h := range goodHouses() {
		checkHouseOk(t, h, true)
		checkAnyAnswers(t, h, "main", "logs", "old", "a", "zzzzzzzz")
	}
}

func TestHouseOkOfOtherStates(t *testing.T) {
	for _, st := range []int{-1, 5, 6, -2, 256, 257, 258, 1 << 32, 1<<32 + 2, math.MaxInt, math.MinInt} {
		for _, h := range goodHouses() {
			h.St = st
			checkHouseOk(t, h, false)
		}
	}
	for from := range 5 {
		for to := range 5 {
			h := fullHouse(from)
			h.St = to
			checkHouseOk(t, h, from == to && to >= impl.HsServe)
		}
	}
}

// numberRow is one number of a proxy: values with which HouseOk holds, and values with which it does not.
type numberRow struct {
	name      string
	set       func(h *impl.House, n int)
	good, bad []int
}

func (row numberRow) check(t *testing.T, h impl.House) {
	t.Helper()
	for _, n := range row.good {
		checkHouseOk(t, with(h, func(h *impl.House) { row.set(h, n) }), true)
	}
	for _, n := range append(row.bad, math.MaxInt, math.MinInt, 1<<32+1, 1<<32+7) {
		checkHouseOk(t, with(h, func(h *impl.House) { row.set(h, n) }), false)
	}
}

func setGen(h *impl.House, n int) {
	h.Gen = n
	if n == 0 {
		h.Conf = nil
	}
}

func setEpoch(h *impl.House, n int)      { h.Epoch = n }
func setEpochAndId(h *impl.House, n int) { h.Epoch, h.H.Id = n, n }
func setTicket(h *impl.House, n int)     { h.Ticket = n }
func setId(h *impl.House, n int)         { h.H.Id = n }
func setOf(h *impl.House, n int)         { h.H.Of = n }
func setAcked(h *impl.House, n int)      { h.H.Acked = n }
func setSince(h *impl.House, n int)      { h.H.Since = n }

func setOfAndAcked(h *impl.House, n int) { h.H.Of, h.H.Acked = n, n }
func setOfAbove(h *impl.House, n int)    { h.H.Of, h.H.Acked = n, n-1 }

// TestHouseOkOfNumbers has each number of each state at the ends of its range and one beyond.
func TestHouseOkOfNumbers(t *testing.T) {
	unused := []int{1, 2, -1}
	rows := [][]numberRow{
		{
			{"Epoch", setEpoch, []int{0}, unused}, {"Gen", setGen, []int{0}, unused}, {"Ticket", setTicket, []int{0}, unused},
			{"Id", setId, []int{0}, unused}, {"Of", setOf, []int{0}, unused}, {"Acked", setAcked, []int{0}, unused}, {"Since", setSince, []int{0}, unused},
		},
		{
			{"Epoch", setEpoch, []int{0}, unused}, {"Gen", setGen, []int{0}, unused}, {"Ticket", setTicket, []int{0}, unused},
			{"Id", setId, []int{0}, unused}, {"Of", setOf, []int{0}, unused}, {"Acked", setAcked, []int{0}, unused}, {"Since", setSince, []int{0}, unused},
		},
		{
			{"Epoch", setEpoch, []int{1, 2, 59999, 60000}, []int{0, -1, 60001}}, {"Gen", setGen, []int{0, 1, 2, 59999, 60000}, []int{-1, 60001}},
			{"Ticket", setTicket, []int{8, 9, 65534, 65535}, []int{7, 6, 5, 4, 0, -1, 65536}},
			{"Id", setId, []int{0}, []int{1, 2, 3, -1}}, {"Of", setOf, []int{0}, unused}, {"Acked", setAcked, []int{0}, unused}, {"Since", setSince, []int{0}, unused},
		},
		{
			{"Epoch", setEpoch, []int{3}, []int{0, 1, 2, 4, -1, 60000, 60001}}, {"Id", setId, []int{3}, []int{0, 1, 2, 4, -1, 60000, 60001}},
			{"Epoch and Id", setEpochAndId, []int{1, 2, 59999, 60000}, []int{0, -1, 60001}}, {"Gen", setGen, []int{0, 1, 2, 59999, 60000}, []int{-1, 60001}},
			{"Ticket", setTicket, []int{8, 9, 65534, 65535}, []int{7, 6, 5, 4, 0, -1, 65536}}, {"Of", setOf, []int{2, 3, 19, 20}, []int{1, 0, -1, 21}},
			{"Of and Acked", setOfAndAcked, []int{1, 2, 19, 20}, []int{0, -1, 21}}, {"Of above Acked", setOfAbove, []int{1, 2, 20}, []int{0, -1, 21}},
			{"Acked", setAcked, []int{0, 1, 7, 8}, []int{-1, 9, 10, 20, 21}}, {"Since", setSince, []int{0, 1, 99999, 100000}, []int{-1, 100001}},
		},
		{
			{"Epoch", setEpoch, []int{0}, []int{1, 2, 3, -1}}, {"Gen", setGen, []int{0}, unused}, {"Ticket", setTicket, []int{8, 9, 65534, 65535}, []int{7, 6, 5, 4, 0, -1, 65536}},
			{"Id", setId, []int{1, 2, 59999, 60000}, []int{0, -1, 60001}}, {"Of", setOf, []int{3, 4, 19, 20}, []int{2, 1, 0, -1, 21}},
			{"Of and Acked", setOfAndAcked, nil, []int{1, 2, 19, 20, 0, -1, 21}}, {"Of above Acked", setOfAbove, []int{1, 2, 19, 20}, []int{0, -1, 21}},
			{"Acked", setAcked, []int{0, 1, 6, 7}, []int{-1, 8, 9, 19, 20, 21}}, {"Since", setSince, []int{0, 1, 99999, 100000}, []int{-1, 100001}},
		},
	}
	for st, l := range rows {
		h := impl.House{St: st}
		if st >= impl.HsServe {
			h = fullHouse(st)
		}
		for _, row := range l {
			t.Run(fmt.Sprint(st, " ", row.name), func(t *testing.T) { row.check(t, h) })
		}
	}
}

// TestHouseOkOfTicketsWithoutWaiters has the tickets that fullHouse cannot have, since somebody waits there.
func TestHouseOkOfTicketsWithoutWaiters(t *testing.T) {
	row := numberRow{"Ticket", setTicket, []int{0, 1, 65534, 65535}, []int{-1, -2, 65536, 65537}}
	for _, st := range []int{impl.HsServe, impl.HsFreeze, impl.HsTake} {
		h := fullHouse(st)
		h.As = slices.DeleteFunc(h.As, func(a impl.Asker) bool { return a.St == impl.AkWait })
		row.check(t, h)
		h.As, h.Ls = nil, nil
		row.check(t, h)
	}
}

// TestHouseOkOfEachNumber has each number of each proxy at each edge value.
func TestHouseOkOfEachNumber(t *testing.T) {
	for _, h := range goodHouses() {
		for _, of := range []func(h *impl.House) any{
			func(h *impl.House) any { return h },
			func(h *impl.House) any { return &h.H },
		} {
			for i := range reflect.ValueOf(of(&h)).Elem().NumField() {
				for _, n := range append(edgeNumbers(), 7, 8, 9, 18, 19, 20, 21) {
					x := h
					field := reflect.ValueOf(of(&x)).Elem().Field(i)
					if field.Kind() == reflect.Int {
						field.SetInt(int64(n))
						checkHouseOk(t, x, isHouse(x))
					}
				}
			}
		}
	}
}

// TestHouseOkOfPausedAndLists has what is no number, one field at a time.
func TestHouseOkOfPausedAndLists(t *testing.T) {
	full := fullHouse(impl.HsServe)
	for st := range 5 {
		h := impl.House{St: st}
		switch st {
		case impl.HsServe:
			h.Epoch = 1
		case impl.HsFreeze:
			h.Epoch, h.H = 1, impl.Hand{Id: 1, Of: 1}
		case impl.HsTake:
			h.H = impl.Hand{Id: 1, Of: 1}
		}
		runs := st >= impl.HsServe
		checkHouseOk(t, h, true)
		checkHouseOk(t, with(h, func(h *impl.House) { h.Paused = true }), runs)
		for _, a := range full.As {
			checkHouseOk(t, with(h, func(h *impl.House) { h.As = []impl.Asker{a} }), runs && a.St <= impl.AkIdle || st == impl.HsTake && a.St != impl.AkWait)
			checkHouseOk(t, with(h, func(h *impl.House) { h.As, h.Ticket = []impl.Asker{a}, 8 }), runs && a.St <= impl.AkWait || st == impl.HsTake)
		}
		for _, x := range full.Ls {
			checkHouseOk(t, with(h, func(h *impl.House) { h.Ls = []impl.Line{x} }), runs && x.St == impl.LnIdle || st == impl.HsTake)
		}
		for n := 1; n <= 2; n++ {
			checkHouseOk(t, with(h, func(h *impl.House) { h.Conf = full.Conf[:n] }), false)
			checkHouseOk(t, with(h, func(h *impl.House) { h.Conf, h.Gen = full.Conf[:n], 1 }), st == impl.HsServe || st == impl.HsFreeze)
		}
		checkHouseOk(t, with(h, func(h *impl.House) { h.Conf = []impl.Db{{}} }), false)
		checkHouseOk(t, with(h, func(h *impl.House) { h.As = []impl.Asker{{}} }), false)
		checkHouseOk(t, with(h, func(h *impl.House) { h.Ls = []impl.Line{{}} }), false)
	}
}

// TestHouseOkOfGenAndConf has databases at each generation.
func TestHouseOkOfGenAndConf(t *testing.T) {
	x, y, z := db("main", 3, 4, 10, 5), db("logs", 2, 0, 4, 4), db("old", 1, 0, 1, 1)
	good := [][]impl.Db{{x}, {x, y}, {y, x}, {x, y, z}}
	bad := [][]impl.Db{
		{x, x}, {x, y, x}, {x, y, z, db("four", 1, 0, 1, 1)}, {{}}, {x, {}}, {db("", 1, 0, 1, 1)}, {db("Main", 1, 0, 1, 1)}, {db("ninechars", 1, 0, 1, 1)},
		{db("main", 0, 4, 10, 5)}, {db("main", 4, 4, 10, 5)}, {db("main", 3, -1, 10, 5)}, {db("main", 3, 5, 10, 5)}, {db("main", 3, 4, 0, 5)}, {db("main", 3, 4, 21, 5)},
		{db("main", 3, 4, 10, 0)}, {x, db("logs", 2, 0, 4, 21)}, {db("a:1/1/1/1;b", 1, 1, 1, 1)},
	}
	for _, st := range []int{impl.HsServe, impl.HsFreeze, impl.HsTake} {
		h := fullHouse(st)
		owns := st != impl.HsTake
		for _, gen := range []int{0, 1, 2, 60000} {
			h.Gen = gen
			for _, none := range [][]impl.Db{nil, {}} {
				h.Conf = none
				checkHouseOk(t, h, gen == 0)
			}
			for _, l := range good {
				h.Conf = l
				checkHouseOk(t, h, gen > 0 && owns)
			}
			for _, l := range bad {
				h.Conf = l
				checkHouseOk(t, h, false)
			}
		}
	}
}

// someAskers and someLines are n clients or connections that refer to nobody.
func someAskers(n int) []impl.Asker {
	var l []impl.Asker
	for i := range n {
		l = append(l, impl.Asker{Sock: 2*i + 1, Db: "main", St: impl.AkIdle})
	}
	return l
}

func someLines(n int) []impl.Line {
	var l []impl.Line
	for i := range n {
		l = append(l, impl.Line{Sock: 2*i + 2, Db: "main", Gen: 1})
	}
	return l
}

func TestHouseOkOfListLengths(t *testing.T) {
	for _, st := range []int{impl.HsServe, impl.HsFreeze, impl.HsTake} {
		h := fullHouse(st)
		for _, n := range []int{0, 1, 2, 5, 6, 7, 8, 9, 10, 100, 4000} {
			for _, m := range []int{0, 1, 2, 6, 7, 8, 9, 10, 11, 12, 100, 4000} {
				h.As, h.Ls = someAskers(n), someLines(m)
				checkHouseOk(t, h, n <= 6 && m <= 9)
			}
		}
	}
}

// eachOrder calls visit with every order of l.
func eachOrder[T any](l []T, visit func(l []T)) {
	eachOrderFrom(slices.Clone(l), 0, visit)
}

func eachOrderFrom[T any](l []T, at int, visit func(l []T)) {
	if at == len(l) {
		visit(slices.Clone(l))
	}
	for i := at; i < len(l); i++ {
		l[at], l[i] = l[i], l[at]
		eachOrderFrom(l, at+1, visit)
		l[at], l[i] = l[i], l[at]
	}
}

func TestHouseOkOfListOrder(t *testing.T) {
	for _, st := range []int{impl.HsServe, impl.HsFreeze, impl.HsTake} {
		h := fullHouse(st)
		good := 0
		eachOrder(h.As, func(l []impl.Asker) {
			x := h
			x.As = l
			checkHouseOk(t, x, slices.Equal(l, h.As))
			good++
		})
		few := h
		few.As, few.Ls = nil, h.Ls[1:5]
		eachOrder(few.Ls, func(l []impl.Line) {
			x := few
			x.Ls = l
			checkHouseOk(t, x, slices.Equal(l, few.Ls))
			good++
		})
		if good != 720+24 {
			t.Error(good)
		}
		for i := range len(h.Ls) - 1 {
			checkHouseOk(t, with(h, func(h *impl.House) { h.Ls[i], h.Ls[i+1] = h.Ls[i+1], h.Ls[i] }), false)
		}
	}
}

func TestHouseOkOfEqualSocks(t *testing.T) {
	for _, st := range []int{impl.HsServe, impl.HsFreeze, impl.HsTake} {
		h := fullHouse(st)
		h.As, h.Ls = someAskers(5), someLines(8)
		checkHouseOk(t, h, true)
		for i := range h.As {
			for j := range h.As {
				checkHouseOk(t, with(h, func(h *impl.House) { h.As[i].Sock = h.As[j].Sock }), i == j)
			}
			for j := range h.Ls {
				// With i and j equal, both lists stay in ascending order.
				checkHouseOk(t, with(h, func(h *impl.House) { h.As[i].Sock = h.Ls[j].Sock }), false)
				checkHouseOk(t, with(h, func(h *impl.House) { h.Ls[j].Sock = h.As[i].Sock }), false)
			}
			checkHouseOk(t, with(h, func(h *impl.House) { h.As = slices.Insert(h.As, i, h.As[i]) }), false)
		}
		for i := range h.Ls {
			for j := range h.Ls {
				checkHouseOk(t, with(h, func(h *impl.House) { h.Ls[i].Sock = h.Ls[j].Sock }), i == j)
			}
			checkHouseOk(t, with(h, func(h *impl.House) { h.Ls = slices.Insert(h.Ls, i, h.Ls[i]) }), false)
		}
		for _, sock := range []int{1, 9999} {
			h.As, h.Ls = []impl.Asker{{Sock: sock}}, []impl.Line{{Sock: sock, Db: "main", Gen: 1}}
			checkHouseOk(t, h, false)
			checkHouseOk(t, with(h, func(h *impl.House) { h.Ls = nil }), true)
			checkHouseOk(t, with(h, func(h *impl.House) { h.As = nil }), true)
		}
	}
}

// TestHouseOkOfABadElement has each element of fullHouse with each of its fields at each edge value.
func TestHouseOkOfABadElement(t *testing.T) {
	for _, st := range []int{impl.HsServe, impl.HsFreeze, impl.HsTake} {
		h := fullHouse(st)
		for i, a := range h.As {
			for _, b := range changed(a) {
				checkHouseOk(t, with(h, func(h *impl.House) { h.As[i] = b }), isHouse(with(h, func(h *impl.House) { h.As[i] = b })))
			}
			for _, b := range []impl.Asker{{}, {Sock: a.Sock, St: 5}, {Sock: a.Sock, St: -1}, {Sock: a.Sock, Db: "main"}, {Sock: a.Sock, Db: "Main", St: 1}, {Sock: a.Sock, St: 2}} {
				checkHouseOk(t, with(h, func(h *impl.House) { h.As[i] = b }), false)
			}
		}
		for i, x := range h.Ls {
			for _, y := range changed(x) {
				checkHouseOk(t, with(h, func(h *impl.House) { h.Ls[i] = y }), isHouse(with(h, func(h *impl.House) { h.Ls[i] = y })))
			}
			for _, y := range []impl.Line{{}, {Sock: x.Sock, Gen: 1}, {Sock: x.Sock, Db: "main"}, {Sock: x.Sock, Db: "main", Gen: 60001}, {Sock: x.Sock, Db: "main", Gen: 1, St: 3}, {Sock: x.Sock, Db: "main", Gen: 1, Lease: 1}} {
				checkHouseOk(t, with(h, func(h *impl.House) { h.Ls[i] = y }), false)
			}
		}
	}
}

// queueOf returns clients that wait with these Tickets for the database.
func queueOf(name string, tickets ...int) []impl.Asker {
	var l []impl.Asker
	for i, n := range tickets {
		l = append(l, impl.Asker{Sock: i + 1, Db: name, St: impl.AkWait, Ticket: n})
	}
	return l
}

func TestHouseOkOfTickets(t *testing.T) {
	rows := []struct {
		next    int
		tickets []int
		want    bool
	}{
		{0, nil, true}, {0, []int{0}, false}, {1, []int{0}, true}, {1, []int{1}, false}, {1, []int{2}, false}, {2, []int{1}, true},
		{65535, []int{65534}, true}, {65535, []int{65535}, false}, {65536, []int{65535}, false}, {65534, []int{65535}, false},
		{9, []int{8, 7}, true}, {9, []int{7, 8}, true}, {9, []int{7, 7}, false}, {9, []int{9, 7}, false}, {9, []int{7, 9}, false}, {9, []int{10, 7}, false}, {9, []int{7, 10}, false},
		{9, []int{0, 1, 2, 3, 4, 5}, true}, {9, []int{8, 7, 6, 5, 4, 3}, true}, {9, []int{5, 0, 4, 1, 3, 2}, true}, {6, []int{5, 0, 4, 1, 3, 2}, true}, {5, []int{5, 0, 4, 1, 3, 2}, false},
		{9, []int{0, 1, 2, 3, 4, 0}, false}, {9, []int{5, 1, 2, 3, 4, 5}, false}, {9, []int{2, 1, 0, 0, 4, 5}, false}, {9, []int{0, 0}, false}, {9, []int{0, 0, 0}, false},
		{9, []int{-1}, false}, {9, []int{-1, -1}, false}, {9, []int{math.MinInt, 0}, false}, {0, []int{-1}, false},
	}
	for _, st := range []int{impl.HsServe, impl.HsFreeze, impl.HsTake} {
		h := fullHouse(st)
		for _, row := range rows {
			h.Ticket = row.next
			h.As, h.Ls = queueOf("main", row.tickets...), nil
			checkHouseOk(t, h, row.want)
			// The Tickets of all databases are distinct, whether they are in Conf or not.
			for i := range h.As {
				h.As[i].Db = []string{"main", "logs", "gone"}[i%3]
			}
			checkHouseOk(t, h, row.want)
		}
	}
}

// TestHouseOkOfTicketsOfOthers has clients that do not wait between those that do. Their Ticket is zero, and counts for nothing.
func TestHouseOkOfTicketsOfOthers(t *testing.T) {
	for _, st := range []int{impl.HsServe, impl.HsFreeze, impl.HsTake} {
		h := fullHouse(st)
		h.Ls, h.Ticket = nil, 1
		h.As = []impl.Asker{{Sock: 1}, {Sock: 2, Db: "main", St: impl.AkIdle}, {Sock: 3, Db: "main", St: impl.AkWait}, {Sock: 4, Db: "main", St: impl.AkIdle}, {Sock: 5}}
		checkHouseOk(t, h, true)
		checkAnswers(t, h, "main", answers{waiters: []int{3}, may: st != impl.HsTake})
		h.Ticket = 0
		checkHouseOk(t, h, false)
		h.As = slices.Delete(h.As, 2, 3)
		checkHouseOk(t, h, true)
	}
}

// pair is a client and its connection, busy or held, with another free connection and another client on each side.
func pair(st int, busy bool) impl.House {
	h := fullHouse(st)
	h.As = []impl.Asker{{Sock: 1, Db: "main", St: impl.AkIdle}, {Sock: 3, Db: "main", St: impl.AkHeld, Line: 4, Lease: 7}, {Sock: 5, Db: "main", St: impl.AkIdle}}
	h.Ls = []impl.Line{{Sock: 2, Db: "main", Gen: 2}, {Sock: 4, Db: "main", Gen: 1, St: impl.LnHeld, Asker: 3, Lease: 7}, {Sock: 6, Db: "main", Gen: 2}}
	if busy {
		h.As[1].St, h.Ls[1].St = impl.AkBusy, impl.LnBusy
	}
	return h
}

func turned(st int) int {
	return map[int]int{impl.AkBusy: impl.AkHeld, impl.AkHeld: impl.AkBusy}[st]
}

func turnedLine(st int) int {
	return map[int]int{impl.LnBusy: impl.LnHeld, impl.LnHeld: impl.LnBusy}[st]
}

// unpaired are ways in which the client and the connection of a pair do not refer to each other. All of them keep every element valid.
func unpaired() map[string]func(h *impl.House) {
	idle := impl.Line{Sock: 4, Db: "main", Gen: 1}
	return map[string]func(h *impl.House){
		"the connection is not there":      func(h *impl.House) { h.Ls = slices.Delete(h.Ls, 1, 2) },
		"no connection is there":           func(h *impl.House) { h.Ls = nil },
		"the connection is free":           func(h *impl.House) { h.Ls[1] = idle },
		"the connection is turned":         func(h *impl.House) { h.Ls[1].St = turnedLine(h.Ls[1].St) },
		"the connection names another one": func(h *impl.House) { h.Ls[1].Asker = 5 },
		"the connection names nobody":      func(h *impl.House) { h.Ls[1].Asker = 99 },
		"the connection names itself":      func(h *impl.House) { h.Ls[1].Asker = 4 },
		"the connection names another one, to which it is not leased": func(h *impl.House) {
			h.Ls[1].Asker, h.As[2] = 5, impl.Asker{Sock: 5, Db: "main", St: h.As[1].St, Line: 6, Lease: 7}
		},
		"the connection has another lease":    func(h *impl.House) { h.Ls[1].Lease++ },
		"the connection has a lesser lease":   func(h *impl.House) { h.Ls[1].Lease-- },
		"the connection has another low word": func(h *impl.House) { h.Ls[1].Lease += 1 << 32 },
		"the connection has another database": func(h *impl.House) { h.Ls[1].Db = "logs" },
		"the connection has a longer name":    func(h *impl.House) { h.Ls[1].Db = "mains" },
		"the client is not there":             func(h *impl.House) { h.As = slices.Delete(h.As, 1, 2) },
		"no client is there":                  func(h *impl.House) { h.As = nil },
		"the client is new":                   func(h *impl.House) { h.As[1] = impl.Asker{Sock: 3} },
		"the client is idle":                  func(h *impl.House) { h.As[1] = impl.Asker{Sock: 3, Db: "main", St: impl.AkIdle} },
		"the client waits":                    func(h *impl.House) { h.As[1] = impl.Asker{Sock: 3, Db: "main", St: impl.AkWait} },
		"the client is turned":                func(h *impl.House) { h.As[1].St = turned(h.As[1].St) },
		"the client has another connection":   func(h *impl.House) { h.As[1].Line = 6 },
		"the client has none that is there":   func(h *impl.House) { h.As[1].Line = 99 },
		"the client has a client":             func(h *impl.House) { h.As[1].Line = 5 },
		"the client has itself":               func(h *impl.House) { h.As[1].Line = 3 },
		"the client has another lease":        func(h *impl.House) { h.As[1].Lease++ },
		"the client has another low word":     func(h *impl.House) { h.As[1].Lease += 1 << 32 },
		"the client has another database":     func(h *impl.House) { h.As[1].Db = "logs" },
		"the client has a shorter name":       func(h *impl.House) { h.As[1].Db = "mai" },
		"a second client has the connection": func(h *impl.House) {
			h.As[2] = h.As[1]
			h.As[2].Sock = 5
		},
		"a first client has the connection": func(h *impl.House) {
			h.As[0] = h.As[1]
			h.As[0].Sock = 1
		},
		"a second client has a free connection": func(h *impl.House) {
			h.As[2] = impl.Asker{Sock: 5, Db: "main", St: h.As[1].St, Line: 6, Lease: 8}
		},
		"a second connection names the client": func(h *impl.House) {
			h.Ls[2] = h.Ls[1]
			h.Ls[2].Sock = 6
		},
		"a first connection names the client": func(h *impl.House) {
			h.Ls[0] = h.Ls[1]
			h.Ls[0].Sock = 2
		},
		"a second connection names an idle client": func(h *impl.House) {
			h.Ls[2] = impl.Line{Sock: 6, Db: "main", Gen: 2, St: h.Ls[1].St, Asker: 5, Lease: 8}
		},
		"both are turned, to different sides": func(h *impl.House) {
			h.As[1].St, h.Ls[1].St = impl.AkBusy, impl.LnHeld
		},
		"two clients have exchanged their connections": func(h *impl.House) {
			h.As[2] = impl.Asker{Sock: 5, Db: "main", St: h.As[1].St, Line: 4, Lease: 7}
			h.Ls[2] = impl.Line{Sock: 6, Db: "main", Gen: 2, St: h.Ls[1].St, Asker: 5, Lease: 7}
			h.As[1].Line = 6
		},
	}
}

func TestHouseOkOfPairs(t *testing.T) {
	for _, busy := range []bool{true, false} {
		for _, st := range []int{impl.HsServe, impl.HsFreeze, impl.HsTake} {
			h := pair(st, busy)
			checkHouseOk(t, h, true)
			for name, change := range unpaired() {
				x := with(h, change)
				if !areParts(x) {
					t.Errorf("%s: %+v", name, x)
				}
				// Only the proxy that is taking over may have parts that do not fit yet.
				checkHouseOk(t, x, st == impl.HsTake)
			}
		}
	}
}

// TestHouseOkOfPairsAtTheEnds has every choice of the two states, and pairs at the start and at the end of the lists.
func TestHouseOkOfPairsAtTheEnds(t *testing.T) {
	for _, st := range []int{impl.HsServe, impl.HsFreeze, impl.HsTake} {
		h := fullHouse(st)
		for _, socks := range [][2]int{{1, 2}, {2, 1}, {1, 9999}, {9999, 1}, {9998, 9999}} {
			for ask := impl.AkNew; ask <= impl.AkHeld; ask++ {
				for line := impl.LnIdle; line <= impl.LnHeld; line++ {
					h.As, h.Ls = []impl.Asker{{Sock: socks[0], St: ask}}, []impl.Line{{Sock: socks[1], Db: "old", Gen: 1, St: line}}
					if ask != impl.AkNew {
						h.As[0].Db = "old"
					}
					if ask >= impl.AkBusy {
						h.As[0].Line, h.As[0].Lease = socks[1], math.MaxInt
					}
					if line != impl.LnIdle {
						h.Ls[0].Asker, h.Ls[0].Lease = socks[0], math.MaxInt
					}
					fit := ask < impl.AkBusy && line == impl.LnIdle || ask == impl.AkBusy && line == impl.LnBusy || ask == impl.AkHeld && line == impl.LnHeld
					checkHouseOk(t, h, fit || st == impl.HsTake)
				}
			}
		}
	}
}

// TestHouseOkOfManyPairs has six pairs in each order of the connections. The chapter does not tie their generation or their database to those of the proxy, nor does it ask for different leases.
func TestHouseOkOfManyPairs(t *testing.T) {
	for _, st := range []int{impl.HsServe, impl.HsFreeze, impl.HsTake} {
		eachOrder([]int{1, 2, 3, 4, 5, 6}, func(order []int) {
			h := fullHouse(st)
			h.As, h.Ls = nil, nil
			for i, n := range order {
				h.As = append(h.As, impl.Asker{Sock: i + 1, Db: "gone", St: impl.AkBusy + i%2, Line: 10 + n, Lease: 20 + i})
			}
			for n := 1; n <= 6; n++ {
				i := slices.Index(order, n)
				h.Ls = append(h.Ls, impl.Line{Sock: 10 + n, Db: "gone", Gen: 60000, St: impl.LnBusy + i%2, Asker: i + 1, Lease: 20 + i})
			}
			checkHouseOk(t, h, true)
			for i := range 6 {
				h.As[i].Lease, h.Ls[i].Lease = 20, 20
			}
			checkHouseOk(t, h, true)
			h.As[order[0]-1].Lease = 99
			checkHouseOk(t, h, st == impl.HsTake)
		})
	}
}

// poolOf returns connections to these databases. A name in capitals stands for a busy connection, one with a bar in front for a connection of another generation than 2.
func poolOf(names ...string) []impl.Line {
	var l []impl.Line
	for i, name := range names {
		x := impl.Line{Sock: 10 + i, Db: strings.ToLower(strings.TrimPrefix(name, "-")), Gen: 2}
		if strings.HasPrefix(name, "-") {
			x.Gen = 1 + 2*(i%2)
		}
		if x.Db != strings.TrimPrefix(name, "-") {
			x.St, x.Asker, x.Lease = impl.LnBusy+i%2, 1, 1
		}
		l = append(l, x)
	}
	return l
}

func TestCountAndFreeLine(t *testing.T) {
	rows := []struct {
		pool        []string
		name        string
		count, free int
	}{
		{nil, "main", 0, 0}, {nil, "", 0, 0},
		{[]string{"main"}, "main", 1, 10}, {[]string{"main"}, "logs", 0, 0}, {[]string{"main"}, "", 0, 0}, {[]string{"main"}, "mai", 0, 0}, {[]string{"main"}, "mains", 0, 0}, {[]string{"main"}, "Main", 0, 0},
		{[]string{"MAIN"}, "main", 1, 0}, {[]string{"-main"}, "main", 1, 0}, {[]string{"-MAIN"}, "main", 1, 0},
		{[]string{"logs", "main", "logs", "main"}, "main", 2, 11}, {[]string{"logs", "main", "logs", "main"}, "logs", 2, 10}, {[]string{"logs", "main", "logs", "main"}, "old", 0, 0},
		{[]string{"MAIN", "MAIN", "-main", "-main", "main", "main"}, "main", 6, 14}, {[]string{"MAIN", "logs", "-main", "logs", "MAIN"}, "main", 3, 0},
		{[]string{"main", "MAIN", "-main"}, "main", 3, 10}, {[]string{"LOGS", "-logs", "main"}, "logs", 2, 0}, {[]string{"LOGS", "-logs", "main"}, "main", 1, 12},
		{[]string{"a", "b", "a", "b", "a", "b", "a", "b", "a"}, "a", 5, 10}, {[]string{"a", "b", "a", "b", "a", "b", "a", "b", "a"}, "b", 4, 11},
	}
	for _, row := range rows {
		h := fullHouse(impl.HsServe)
		h.Ls = poolOf(row.pool...)
		for st := range 6 {
			h.St = st
			arg, _ := roomyHouse(h, row.name)
			if n, free := impl.Count(arg, row.name), impl.FreeLine(arg, row.name); n != row.count || free != row.free {
				t.Errorf("Count and FreeLine of %q in %v: %d, %d, want %d, %d", row.name, row.pool, n, free, row.count, row.free)
			}
			checkAnyAnswers(t, h, row.name)
		}
	}
}

// TestFreeLineOfGens has each generation of the proxy and of a connection.
func TestFreeLineOfGens(t *testing.T) {
	gens := []int{-1, 0, 1, 2, 3, 59999, 60000, 60001, 65538, 1<<32 + 2}
	for _, gen := range gens {
		for _, x := range gens {
			h := impl.House{St: impl.HsServe, Gen: gen, Ls: []impl.Line{{Sock: 5, Db: "main", Gen: x}, {Sock: 6, Db: "main", Gen: 2}}}
			want := 0
			if x == gen {
				want = 5
			} else if gen == 2 {
				want = 6
			}
			if got := impl.FreeLine(h, "main"); got != want {
				t.Errorf("FreeLine of a connection of generation %d at generation %d = %d", x, gen, got)
			}
			checkAnyAnswers(t, h, "main")
		}
	}
}

func TestMayOpen(t *testing.T) {
	conf := []impl.Db{db("main", 3, 0, 1, 1), db("logs", 1, 0, 1, 1), db("old", 2, 0, 1, 1)}
	names := func(name string, n int) []string { return slices.Repeat([]string{name}, n) }
	rows := []struct {
		pool []string
		name string
		want bool
	}{
		{nil, "main", true}, {nil, "logs", true}, {nil, "old", true}, {nil, "gone", false}, {nil, "", false}, {nil, "admin", false}, {nil, "Main", false}, {nil, "mai", false}, {nil, "mains", false},
		{names("main", 1), "main", true}, {names("main", 2), "main", true}, {names("main", 3), "main", false}, {names("main", 4), "main", false}, {names("main", 3), "logs", true},
		{names("logs", 1), "logs", false}, {names("logs", 2), "logs", false}, {names("old", 1), "old", true}, {names("old", 2), "old", false}, {names("old", 3), "old", false},
		// Connections that are busy or of another generation count as well.
		{names("MAIN", 2), "main", true}, {names("MAIN", 3), "main", false}, {names("-main", 3), "main", false}, {names("-LOGS", 1), "logs", false}, {[]string{"main", "-main", "MAIN"}, "main", false},
		{names("gone", 7), "main", true}, {names("gone", 8), "main", true}, {names("gone", 9), "main", false}, {names("gone", 10), "main", false}, {names("gone", 8), "gone", false},
		{append(names("gone", 6), "main", "main"), "main", true}, {append(names("gone", 7), "main", "main"), "main", false}, {append(names("gone", 5), names("main", 3)...), "main", false},
		{append(names("gone", 6), names("main", 3)...), "logs", false}, {append(names("gone", 5), names("main", 3)...), "logs", true},
	}
	for _, row := range rows {
		h := impl.House{St: impl.HsServe, Epoch: 1, Gen: 2, Conf: conf, Ls: poolOf(row.pool...)}
		arg, _ := roomyHouse(h, row.name)
		if got := impl.MayOpen(arg, row.name); got != row.want {
			t.Errorf("MayOpen of %q with %v is %v", row.name, row.pool, got)
		}
		checkAnyAnswers(t, h, row.name)
		// MayOpen does not ask for the state, nor whether it is paused.
		h.Paused = true
		for st := range 6 {
			h.St = st
			checkAnyAnswers(t, h, row.name)
		}
		h.Conf = nil
		checkAnswers(t, h, row.name, answers{count: impl.Count(h, row.name), free: impl.FreeLine(h, row.name)})
	}
}

// TestMayOpenOfEverySize has 0 to 10 connections to a database of each size, and others.
func TestMayOpenOfEverySize(t *testing.T) {
	for size := -2; size <= 11; size++ {
		for n := range 11 {
			for others := range 11 {
				pool := append(slices.Repeat([]string{"main"}, n), slices.Repeat([]string{"logs"}, others)...)
				h := impl.House{St: impl.HsServe, Epoch: 1, Gen: 2, Conf: []impl.Db{db("old", 3, 0, 1, 1), db("main", size, 0, 1, 1)}, Ls: poolOf(pool...)}
				if got := impl.MayOpen(h, "main"); got != (n < size && n+others < 9) {
					t.Errorf("MayOpen with %d of %d and %d others is %v", n, size, others, got)
				}
				if got := impl.Count(h, "main"); got != n {
					t.Errorf("Count of %d and %d others is %d", n, others, got)
				}
			}
		}
	}
}

func TestWaiters(t *testing.T) {
	rows := []struct {
		tickets []int
		want    []int
	}{
		{nil, nil}, {[]int{0}, []int{1}}, {[]int{65535}, []int{1}}, {[]int{4, 5}, []int{1, 2}}, {[]int{5, 4}, []int{2, 1}},
		{[]int{1, 2, 3}, []int{1, 2, 3}}, {[]int{1, 3, 2}, []int{1, 3, 2}}, {[]int{2, 1, 3}, []int{2, 1, 3}}, {[]int{2, 3, 1}, []int{3, 1, 2}}, {[]int{3, 1, 2}, []int{2, 3, 1}}, {[]int{3, 2, 1}, []int{3, 2, 1}},
		{[]int{6, 5, 4, 3, 2, 1}, []int{6, 5, 4, 3, 2, 1}}, {[]int{1, 6, 2, 5, 3, 4}, []int{1, 3, 5, 6, 4, 2}}, {[]int{255, 256, 257, 1, 65534, 300}, []int{4, 1, 2, 3, 6, 5}},
		// Equal Tickets are in list order.
		{[]int{7, 7}, []int{1, 2}}, {[]int{7, 7, 7, 7, 7, 7}, []int{1, 2, 3, 4, 5, 6}}, {[]int{7, 7, 3, 7, 3}, []int{3, 5, 1, 2, 4}}, {[]int{0, 9, 0, 9, 0, 9}, []int{1, 3, 5, 2, 4, 6}},
		// Tickets need not be words, nor the clients valid.
		{[]int{0, -1, 1}, []int{2, 1, 3}}, {[]int{math.MaxInt, math.MinInt, 0, -1, math.MaxInt}, []int{2, 4, 3, 1, 5}}, {[]int{65536, 65535, 1 << 32, 0}, []int{4, 2, 1, 3}},
		{[]int{math.MaxInt, -2}, []int{2, 1}}, {[]int{math.MinInt, 2}, []int{1, 2}},
	}
	for _, row := range rows {
		for _, name := range []string{"main", "gone", "", "NO NAME \xff"} {
			h := impl.House{St: impl.HsServe, As: queueOf(name, row.tickets...)}
			checkAnswers(t, h, name, answers{waiters: row.want})
			checkAnswers(t, h, name+"x", answers{})
			checkAnyAnswers(t, h, name)
		}
	}
}

// TestWaitersOfOthers has clients in all other states, and of another database, between those that wait.
func TestWaitersOfOthers(t *testing.T) {
	h := fullHouse(impl.HsServe)
	checkAnswers(t, h, "main", answers{count: 4, free: 7, waiters: []int{10, 5}})
	checkAnswers(t, h, "logs", answers{count: 2, free: 8})
	checkAnswers(t, h, "old", answers{count: 3})
	checkAnswers(t, h, "admin", answers{})
	checkAnswers(t, h, "", answers{})
	for st := -1; st <= 6; st++ {
		h.As = queueOf("main", 5, 4, 3, 2, 1, 0)
		h.As[2].St, h.As[3].Db = st, "logs"
		want := []int{6, 5, 2, 1}
		if st == impl.AkWait {
			want = []int{6, 5, 3, 2, 1}
		}
		checkAnswers(t, h, "main", answers{count: 4, free: 7, waiters: want})
		checkAnswers(t, h, "logs", answers{count: 2, free: 8, waiters: []int{4}})
	}
}

// eachList calls visit with every list of n numbers below most.
func eachList(n, most int, visit func(l []int)) {
	l := make([]int, n)
	for {
		visit(l)
		i := 0
		for i < n && l[i] == most-1 {
			l[i] = 0
			i++
		}
		if i == n {
			return
		}
		l[i]++
	}
}

// TestWaitersOfEveryList has up to six clients with every choice of Tickets, equal ones too, and of two databases.
func TestWaitersOfEveryList(t *testing.T) {
	for n := range 7 {
		eachList(n, 6, func(l []int) {
			h := impl.House{As: queueOf("main", l...)}
			if got, want := impl.Waiters(h, "main"), otherWaiters(h, "main"); !slices.Equal(got, want) {
				t.Errorf("Waiters with the Tickets %v = %v, want %v", l, got, want)
			}
			if distinct := len(slices.Compact(slices.Sorted(slices.Values(l)))) == n; distinct {
				h.St, h.Epoch, h.Ticket = impl.HsServe, 1, 6
				checkHouseOk(t, h, true)
			}
		})
		eachList(n, 4, func(l []int) {
			h := impl.House{As: queueOf("main", l...)}
			for i := range h.As {
				h.As[i].Db, h.As[i].Ticket = []string{"main", "logs"}[l[i]%2], l[i]/2
			}
			for _, name := range []string{"main", "logs"} {
				if got, want := impl.Waiters(h, name), otherWaiters(h, name); !slices.Equal(got, want) {
					t.Errorf("Waiters of %q among %+v = %v, want %v", name, h.As, got, want)
				}
			}
		})
	}
}

// TestWaitersOfLongLists has more clients than a proxy may have, with few and with many Tickets.
func TestWaitersOfLongLists(t *testing.T) {
	r := rand.New(rand.NewSource(10))
	for _, n := range []int{7, 8, 15, 16, 17, 31, 100, 1000, 5000} {
		for _, most := range []int{1, 2, 10, 65536} {
			var tickets []int
			for range n {
				tickets = append(tickets, r.Intn(most))
			}
			h := impl.House{As: queueOf("main", tickets...)}
			for i := range h.As {
				h.As[i].Sock = r.Intn(100)
			}
			checkAnswers(t, h, "main", otherAnswers(h, "main"))
			checkHouseOk(t, h, false)
		}
	}
}

// TestWaitersInOrderOfArrival lets clients arrive and leave. The tickets are given as they arrive, whatever their sockets are.
func TestWaitersInOrderOfArrival(t *testing.T) {
	r := rand.New(rand.NewSource(11))
	h := impl.House{St: impl.HsServe, Epoch: 1}
	var arrived []int
	for h.Ticket < 20000 {
		sock := 1 + r.Intn(9999)
		if len(arrived) == 6 || len(arrived) > 0 && r.Intn(3) == 0 {
			gone := arrived[0]
			if r.Intn(4) == 0 {
				gone = arrived[r.Intn(len(arrived))]
			}
			arrived = slices.DeleteFunc(arrived, func(n int) bool { return n == gone })
			h.As = slices.DeleteFunc(h.As, func(a impl.Asker) bool { return a.Sock == gone })
		} else if !slices.Contains(arrived, sock) {
			arrived = append(arrived, sock)
			h.As = append(h.As, impl.Asker{Sock: sock, Db: "main", St: impl.AkWait, Ticket: h.Ticket})
			slices.SortFunc(h.As, func(a, b impl.Asker) int { return a.Sock - b.Sock })
			h.Ticket++
		}
		if got := impl.Waiters(h, "main"); !slices.Equal(got, arrived) || !impl.HouseOk(h) {
			t.Fatalf("Waiters(%+v) = %v, want %v", h, got, arrived)
		}
	}
}

// TestAnswersOfListsThatAreNotValid has lists that no proxy has. The functions have no precondition.
func TestAnswersOfListsThatAreNotValid(t *testing.T) {
	h := impl.House{
		St: -7, Gen: -3, Conf: []impl.Db{db("", 2, 0, 0, 0), db("main", 1, 0, 0, 0), db("main", 9, 0, 0, 0), db("NO NAME", 99, 0, 0, 0), db("none", 0, 0, 0, 0), db("minus", math.MinInt, 0, 0, 0)},
		As: []impl.Asker{
			{Sock: 9, Db: "main", St: 2, Ticket: 5}, {Sock: 9, Db: "main", St: 2, Ticket: 5}, {Sock: -4, Db: "main", St: 2, Ticket: -5, Line: 7}, {Sock: 0, Db: "main", St: 2, Ticket: 99999},
			{St: 2}, {Sock: 3, Db: "NO NAME", St: 2, Ticket: 1}, {Sock: 2, Db: "NO NAME", St: 2}, {Sock: 1, Db: "main", St: 5},
		},
		Ls: []impl.Line{
			{Sock: 8, Db: "main", Gen: -3, St: 3}, {Sock: 7, Db: "main", Gen: -3, St: -1}, {Sock: -6, Db: "main", Gen: -3, Asker: 5, Lease: 5}, {Sock: 5, Db: "main", Gen: -3},
			{Sock: 5, Db: "", Gen: -3}, {Db: "NO NAME", Gen: -3}, {Sock: 4, Db: "NO NAME", Gen: -3},
		},
	}
	checkHouseOk(t, h, false)
	checkAnswers(t, h, "main", answers{count: 4, free: -6, waiters: []int{-4, 9, 9, 0}})
	checkAnswers(t, h, "", answers{count: 1, free: 5, waiters: []int{0}, may: true})
	checkAnswers(t, h, "NO NAME", answers{count: 2, waiters: []int{2, 3}, may: true})
	checkAnswers(t, h, "none", answers{})
	checkAnswers(t, h, "minus", answers{})
	h.Ls = h.Ls[4:]
	checkAnswers(t, h, "main", answers{waiters: []int{-4, 9, 9, 0}, may: true})
	h.Ls = append(h.Ls, impl.Line{Sock: 77, Db: "main", Gen: -3})
	// The first database of that name counts.
	checkAnswers(t, h, "main", answers{count: 1, free: 77, waiters: []int{-4, 9, 9, 0}})
	h.Conf = h.Conf[1:]
	checkAnswers(t, h, "", answers{count: 1, free: 5, waiters: []int{0}})
	checkAnyAnswers(t, impl.House{}, "main")
}

// randomHouse is a valid proxy.
func randomHouse(r *rand.Rand) impl.House {
	h := fullHouse(impl.HsServe + r.Intn(3))
	h.Paused, h.Ticket = r.Intn(2) == 0, 6+r.Intn(3)
	names := []string{"main", "logs", "gone"}
	socks := r.Perm(20)[:r.Intn(16)]
	slices.Sort(socks)
	h.As, h.Ls = nil, nil
	for _, n := range socks {
		if (r.Intn(2) == 0 || len(h.Ls) == 9) && len(h.As) < 6 {
			h.As = append(h.As, impl.Asker{Sock: n + 1})
		} else if len(h.Ls) < 9 {
			h.Ls = append(h.Ls, impl.Line{Sock: n + 1, Db: names[r.Intn(3)], Gen: 1 + r.Intn(2)})
		}
	}
	free := r.Perm(len(h.Ls))
	tickets := r.Perm(6)
	for i := range h.As {
		a := &h.As[i]
		switch st := r.Intn(4); {
		case st == 0:
			a.St, a.Db = impl.AkIdle, names[r.Intn(3)]
		case st == 1:
			a.St, a.Db, a.Ticket, a.Q = impl.AkWait, names[r.Intn(3)], tickets[i], "one"
		case st == 2 && len(free) > 0:
			x := &h.Ls[free[0]]
			held := r.Intn(2)
			a.St, a.Db, a.Line, a.Lease = impl.AkBusy+held, x.Db, x.Sock, 30+i
			x.St, x.Asker, x.Lease = impl.LnBusy+held, a.Sock, a.Lease
			free = free[1:]
		}
	}
	return h
}

// spoil changes one number or name of h to another one that occurs in such a proxy.
func spoil(r *rand.Rand, h *impl.House) {
	parts := []reflect.Value{reflect.ValueOf(h).Elem(), reflect.ValueOf(&h.H).Elem()}
	for i := range h.As {
		parts = append(parts, reflect.ValueOf(&h.As[i]).Elem())
	}
	for i := range h.Ls {
		parts = append(parts, reflect.ValueOf(&h.Ls[i]).Elem())
	}
	part := parts[r.Intn(len(parts))]
	field := part.Field(r.Intn(part.NumField()))
	switch field.Kind() {
	case reflect.Int:
		field.SetInt(int64(r.Intn(36)))
	case reflect.String:
		field.SetString([]string{"main", "logs", "gone", "", "NO"}[r.Intn(5)])
	}
}

func TestHousesAtRandom(t *testing.T) {
	r := rand.New(rand.NewSource(12))
	good := 0
	for range 60000 {
		h := randomHouse(r)
		checkHouseOk(t, h, true)
		for range 1 + r.Intn(2) {
			spoil(r, &h)
		}
		want := isHouse(h)
		if want {
			good++
		}
		checkHouseOk(t, h, want)
		for _, name := range []string{"main", "logs", "gone", ""} {
			checkAnswers(t, h, name, otherAnswers(h, name))
		}
	}
	if good < 5000 || good > 55000 {
		t.Errorf("%d of 60000 are valid", good)
	}
}
