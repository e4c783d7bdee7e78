package tests

import (
	"math"
	"math/rand"
	"slices"
	"strconv"
	"strings"
	"testing"

	"loop.example/g00482/impl"
)

// spokenWords are the queries with a word of their own, each at the index of its word. Index 0 is a plain query.
var spokenWords = []string{"one", "begin", "commit", "rollback", "fail"}

// nextStates has, for each status, the status after a query with each word.
var nextStates = [][]int{
	{0, 1, 0, 0, 0},
	{1, 1, 0, 0, 2},
	{2, 2, 0, 0, 2},
}

// firstFrames has, for each status, the first frame of the reply to a query with each word. That of a plain query outside of a failed transaction has the query instead of "one".
var firstFrames = [][]impl.Frame{
	{answer("one"), answer("begin"), answer("commit"), answer("rollback"), failure("failed")},
	{answer("one"), answer("begin"), answer("commit"), answer("rollback"), failure("failed")},
	{failure("aborted"), failure("aborted"), answer("rollback"), answer("rollback"), failure("aborted")},
}

func isState(st int) bool {
	return st == 0 || st == 1 || st == 2
}

// someStates are the valid statuses and invalid ones.
func someStates() []int {
	return append(otherStates(), 0, 1, 2, math.MaxInt64-1, math.MinInt64+2)
}

// someWords are the words and other numbers, of which some have the low bits of a word.
func someWords() []int {
	l := []int{-1, -2, -3, -4, -5, 0, 1, 2, 3, 4, 5, 6, 7, 8, 255, 256, -255, -254, -253, -252, math.MaxInt64, math.MaxInt64 - 1, math.MinInt64}
	for w := range 5 {
		l = append(l, 256+w, 65536+w, 1<<32+w, math.MinInt64+w)
	}
	return l
}

// otherWord is a second definition of WordOf.
func otherWord(q string) int {
	return max(0, slices.Index(spokenWords, q))
}

// otherNext is a second definition of NextSt.
func otherNext(st, w int) int {
	if !isState(st) {
		return 0
	}
	if w < 0 || w > 4 {
		w = 0
	}
	return nextStates[st][w]
}

// otherAnswer is a second definition of AnswerTo.
func otherAnswer(st int, q string) []impl.Frame {
	if !isState(st) || !textForm.MatchString(q) {
		return nil
	}
	w := otherWord(q)
	first := firstFrames[st][w]
	if w == 0 && st != 2 {
		first = answer(q)
	}
	return []impl.Frame{first, ready(nextStates[st][w])}
}

// otherWalk is a second definition of Walk.
func otherWalk(st int, l []string) int {
	if len(l) == 0 {
		return st
	}
	return otherNext(otherWalk(st, l[:len(l)-1]), otherWord(l[len(l)-1]))
}

// plainQueries are queries that resemble the words, and others. None of them has a word of its own.
func plainQueries() []string {
	l := []string{
		"", " ", "one", "two", "select 1", "abort", "aborted", "failed", "ok", "row", "ready", "end", "start", "0", "1", "4", "begin;", "begin work", "commit and chain",
		"rollback to a", "back", "roll", "roll back", "nigeb", "tommic", "begin\n", "\tbegin", "fail\r\n", "b\u0435gin", "fa\u0131l", "\ufeffbegin", "begin\u00a0", "\uff46ail",
		strings.Repeat("a", 99), strings.Repeat("a", 100), strings.Repeat("a", 70000), strings.Repeat("begin", 20), strings.Repeat("fail", 25), strings.Repeat(" ", 100),
		"begin" + strings.Repeat(" ", 95), strings.Repeat(" ", 95) + "begin", "commit" + strings.Repeat("\x00", 1000), "rollback" + strings.Repeat("x", 248), "fail" + strings.Repeat("l", 256),
	}
	for _, a := range spokenWords[1:] {
		l = append(l, strings.ToUpper(a), strings.ToTitle(a[:1])+a[1:], `"`+a+`"`, "'"+a+"'")
		for _, c := range []string{" ", "\x00", "\n", "\t", "\r", ";", "\x7f", "\x80", "\xff", "  ", "\x00\x00", "a", "z", "1"} {
			l = append(l, c+a, a+c, c+a+c)
		}
		for _, b := range spokenWords {
			for _, c := range []string{"", " ", "  ", ";", "\x00", "\n", ","} {
				l = append(l, a+c+b)
			}
		}
	}
	return append(l, badTexts()...)
}

func checkWord(t *testing.T, q string, want int) {
	t.Helper()
	if w := impl.WordOf(q); w != want || otherWord(q) != want {
		t.Errorf("WordOf(%q) = %d, want %d", q, w, want)
	}
}

// checkAnswer compares AnswerTo with otherAnswer, and its frames with what the other functions say of them.
func checkAnswer(t *testing.T, st int, q string) {
	t.Helper()
	l, want := impl.AnswerTo(st, q), otherAnswer(st, q)
	if !slices.Equal(l, want) {
		t.Errorf("AnswerTo(%d, %q) = %+v, want %+v", st, q, l, want)
		return
	}
	if len(l) == 0 {
		return
	}
	if !impl.FrameOk(l[0]) || !impl.FrameOk(l[1]) {
		t.Errorf("AnswerTo(%d, %q) = %+v, which is invalid", st, q, l)
	}
	if l[1].St != impl.NextSt(st, impl.WordOf(q)) || l[1].St != impl.Walk(st, []string{q}) {
		t.Errorf("AnswerTo(%d, %q) = %+v, which differs from NextSt or Walk", st, q, l)
	}
	again, code := impl.Frames(slices.Concat(impl.PutFrame(l[0]), impl.PutFrame(l[1])))
	if !slices.Equal(again, l) || code != impl.GoGood {
		t.Errorf("AnswerTo(%d, %q) = %+v, which is decoded as %+v", st, q, l, again)
	}
}

// checkNoAnswer checks that the slice is empty, not one of two zero frames.
func checkNoAnswer(t *testing.T, st int, q string) {
	t.Helper()
	if l := impl.AnswerTo(st, q); len(l) != 0 {
		t.Errorf("AnswerTo(%d, %q) = %+v", st, q, l)
	}
}

// roomyQueries returns a copy of l with spare capacity, and the array behind it. The queries beyond its end would change every status.
func roomyQueries(l []string) ([]string, []string) {
	whole := append(slices.Clone(l), "begin", "fail", "begin")
	return whole[:len(l)], whole
}

func checkWalk(t *testing.T, st int, l []string, want int) {
	t.Helper()
	arg, whole := roomyQueries(l)
	before := slices.Clone(whole)
	if got := impl.Walk(st, arg); got != want || otherWalk(st, l) != want {
		t.Errorf("Walk(%d, %q) = %d, want %d", st, l, got, want)
	}
	if !slices.Equal(whole, before) {
		t.Errorf("Walk(%d, %q) wrote to its argument: %q", st, l, whole)
	}
	for i := range len(l) + 1 {
		if got := impl.Walk(impl.Walk(st, arg[:i]), arg[i:]); got != want {
			t.Errorf("Walk(%d, %q), interrupted after %d queries, = %d, want %d", st, l, i, got, want)
		}
	}
}

func TestWordConstants(t *testing.T) {
	words := []int{impl.WoPlain, impl.WoBegin, impl.WoCommit, impl.WoBack, impl.WoFail}
	if !slices.Equal(words, []int{0, 1, 2, 3, 4}) {
		t.Error(words)
	}
}

func TestWordOfTheWords(t *testing.T) {
	checkWord(t, "begin", impl.WoBegin)
	checkWord(t, "commit", impl.WoCommit)
	checkWord(t, "rollback", impl.WoBack)
	checkWord(t, "fail", impl.WoFail)
	checkWord(t, "one", impl.WoPlain)
	checkWord(t, "", impl.WoPlain)
	// The word depends on the bytes of the query, not on where they are.
	for w, q := range spokenWords {
		long := "x" + q + "y"
		checkWord(t, long[1:len(long)-1], w)
		checkWord(t, string([]byte(q)), w)
	}
}

func TestWordOfOtherQueries(t *testing.T) {
	for _, q := range plainQueries() {
		checkWord(t, q, impl.WoPlain)
	}
}

func TestWordOfOtherCases(t *testing.T) {
	for w, q := range spokenWords {
		for bits := range 1 << len(q) {
			b := []byte(q)
			for i := range b {
				if bits>>i&1 == 1 {
					b[i] -= 'a' - 'A'
				}
			}
			want := impl.WoPlain
			if bits == 0 {
				want = w
			}
			checkWord(t, string(b), want)
		}
	}
}

func TestWordOfChangedWords(t *testing.T) {
	for w, q := range spokenWords {
		for i := range len(q) {
			checkWord(t, q[:i]+q[i+1:], impl.WoPlain)
			checkWord(t, q[:i], impl.WoPlain)
			checkWord(t, q[i+1:], impl.WoPlain)
			for x := range 256 {
				b := []byte(q)
				b[i] = byte(x)
				want := impl.WoPlain
				if string(b) == q {
					want = w
				}
				checkWord(t, string(b), want)
			}
		}
		for i := range len(q) + 1 {
			for x := range 256 {
				checkWord(t, q[:i]+string([]byte{byte(x)})+q[i:], impl.WoPlain)
			}
		}
	}
}

func TestNextStOfEveryStateAndWord(t *testing.T) {
	for st := -1; st <= 3; st++ {
		for w := -1; w <= 5; w++ {
			want := 0
			switch [2]int{st, w} {
			case [2]int{0, 1}, [2]int{1, -1}, [2]int{1, 0}, [2]int{1, 1}, [2]int{1, 5}:
				want = 1
			case [2]int{1, 4}, [2]int{2, -1}, [2]int{2, 0}, [2]int{2, 1}, [2]int{2, 4}, [2]int{2, 5}:
				want = 2
			}
			if got := impl.NextSt(st, w); got != want || otherNext(st, w) != want {
				t.Errorf("NextSt(%d, %d) = %d, want %d", st, w, got, want)
			}
		}
	}
}

func TestNextStOfAnyNumbers(t *testing.T) {
	for _, st := range someStates() {
		for _, w := range someWords() {
			if got, want := impl.NextSt(st, w), otherNext(st, w); got != want {
				t.Errorf("NextSt(%d, %d) = %d, want %d", st, w, got, want)
			}
		}
	}
	for st := range 3 {
		for w := 5; w < 1000; w++ {
			if a, b := impl.NextSt(st, w), impl.NextSt(st, -w); a != st || b != st {
				t.Errorf("NextSt(%d, %d or its negative) = %d, %d", st, w, a, b)
			}
		}
	}
	for st := 3; st < 1000; st++ {
		for w := range 5 {
			if a, b := impl.NextSt(st, w), impl.NextSt(-st, w); a != 0 || b != 0 {
				t.Errorf("NextSt(%d or its negative, %d) = %d, %d", st, w, a, b)
			}
		}
	}
}

func TestAnswerToEveryStateAndWord(t *testing.T) {
	for _, x := range []struct {
		st   int
		q    string
		want []impl.Frame
	}{
		{0, "one", []impl.Frame{answer("one"), ready(0)}},
		{0, "", []impl.Frame{answer(""), ready(0)}},
		{0, "begin", []impl.Frame{answer("begin"), ready(1)}},
		{0, "commit", []impl.Frame{answer("commit"), ready(0)}},
		{0, "rollback", []impl.Frame{answer("rollback"), ready(0)}},
		{0, "fail", []impl.Frame{failure("failed"), ready(0)}},
		{1, "one", []impl.Frame{answer("one"), ready(1)}},
		{1, "", []impl.Frame{answer(""), ready(1)}},
		{1, "begin", []impl.Frame{answer("begin"), ready(1)}},
		{1, "commit", []impl.Frame{answer("commit"), ready(0)}},
		{1, "rollback", []impl.Frame{answer("rollback"), ready(0)}},
		{1, "fail", []impl.Frame{failure("failed"), ready(2)}},
		{2, "one", []impl.Frame{failure("aborted"), ready(2)}},
		{2, "", []impl.Frame{failure("aborted"), ready(2)}},
		{2, "begin", []impl.Frame{failure("aborted"), ready(2)}},
		{2, "commit", []impl.Frame{answer("rollback"), ready(0)}},
		{2, "rollback", []impl.Frame{answer("rollback"), ready(0)}},
		{2, "fail", []impl.Frame{failure("aborted"), ready(2)}},
	} {
		if l := impl.AnswerTo(x.st, x.q); !slices.Equal(l, x.want) {
			t.Errorf("AnswerTo(%d, %q) = %+v, want %+v", x.st, x.q, l, x.want)
		}
		checkAnswer(t, x.st, x.q)
	}
}

func TestAnswerToAnyQuery(t *testing.T) {
	for _, q := range slices.Concat(spokenWords, plainQueries(), spokenTexts(), badTexts(), badNames(), goodTexts()) {
		for _, st := range someStates() {
			checkAnswer(t, st, q)
		}
	}
}

func TestAnswerToEveryByte(t *testing.T) {
	for x := range 256 {
		c := string([]byte{byte(x)})
		for _, q := range []string{c, c + "ab", "ab" + c, "begin" + c, c + "commit", "roll" + c + "back", strings.Repeat("a", 99) + c, strings.Repeat("a", 100) + c} {
			for st := -1; st <= 3; st++ {
				checkAnswer(t, st, q)
				if x < 32 || x > 126 || len(q) > 100 || st < 0 || st > 2 {
					checkNoAnswer(t, st, q)
				}
			}
		}
	}
}

func TestAnswerToQueriesOfEveryLength(t *testing.T) {
	for n := range 600 {
		q := strings.Repeat("q", n)
		for st := range 3 {
			checkAnswer(t, st, q)
			if l := impl.AnswerTo(st, q); n <= impl.MaxText && len(l) != 2 || n > impl.MaxText && len(l) != 0 {
				t.Errorf("AnswerTo(%d, %d bytes) = %+v", st, n, l)
			}
		}
	}
}

func TestAnswerToInvalidStates(t *testing.T) {
	states := append(otherStates(), math.MaxInt64-1, math.MinInt64+2)
	for _, st := range states {
		for _, q := range slices.Concat(spokenWords, []string{"", " ", strings.Repeat("a", 100), strings.Repeat("a", 101), "\x1f", "\x7f"}) {
			checkNoAnswer(t, st, q)
		}
	}
}

func TestAnswerToInvalidQueries(t *testing.T) {
	for _, q := range badTexts() {
		for _, st := range someStates() {
			checkNoAnswer(t, st, q)
		}
	}
	for _, a := range spokenWords {
		for _, q := range []string{a + "\x00", "\x00" + a, a + "\n", a + strings.Repeat(" ", 101-len(a)), strings.Repeat("a", 101-len(a)) + a} {
			for _, st := range someStates() {
				checkNoAnswer(t, st, q)
			}
		}
	}
}

func TestAnswerToGivesNewMemory(t *testing.T) {
	for st := -1; st <= 3; st++ {
		for _, q := range slices.Concat(spokenWords, []string{"", "\x1f", strings.Repeat("a", 100)}) {
			x, y := impl.AnswerTo(st, q), impl.AnswerTo(st, q)
			whole := x[:cap(x)]
			for i := range whole {
				whole[i] = impl.Frame{Kind: 9, Text: "other", St: 9}
			}
			// A further call might put y right again.
			if !slices.Equal(y, otherAnswer(st, q)) {
				t.Errorf("two answers to %q in status %d share memory: %+v", q, st, y)
			}
			if z := impl.AnswerTo(st, q); !slices.Equal(z, otherAnswer(st, q)) {
				t.Errorf("an answer to %q in status %d is kept: %+v", q, st, z)
			}
		}
	}
}

func TestWalkOfNoQueries(t *testing.T) {
	some := []string{"begin", "fail"}
	for _, st := range someStates() {
		for _, l := range [][]string{nil, {}, some[:0], some[1:1], some[2:]} {
			if got := impl.Walk(st, l); got != st {
				t.Errorf("Walk(%d, no queries) = %d", st, got)
			}
		}
		checkWalk(t, st, nil, st)
	}
}

func TestWalkOfOneQuery(t *testing.T) {
	for _, q := range slices.Concat(spokenWords, plainQueries()) {
		for _, st := range someStates() {
			checkWalk(t, st, []string{q}, otherNext(st, otherWord(q)))
		}
	}
}

func TestWalkOfTransactions(t *testing.T) {
	for _, x := range []struct {
		st   int
		l    string
		want int
	}{
		{0, "one two three", 0},
		{0, "begin", 1},
		{0, "begin one two", 1},
		{0, "begin commit", 0},
		{0, "begin rollback", 0},
		{0, "begin fail", 2},
		{0, "begin fail commit", 0},
		{0, "begin fail rollback", 0},
		{0, "begin one fail two", 2},
		{0, "begin fail begin", 2},
		{0, "begin fail begin commit", 0},
		{0, "begin fail fail begin one rollback one", 0},
		// There is only one transaction at a time: what is begun inside of it ends with it.
		{0, "begin begin", 1},
		{0, "begin begin commit", 0},
		{0, "begin begin commit fail", 0},
		{0, "begin begin fail commit commit", 0},
		{0, "begin commit begin", 1},
		{0, "begin commit begin fail", 2},
		{0, "begin fail commit begin one", 1},
		{0, "begin fail rollback begin fail", 2},
		{0, "begin commit begin rollback begin fail rollback", 0},
		// Nothing fails or ends outside of a transaction.
		{0, "fail", 0},
		{0, "fail begin", 1},
		{0, "commit rollback fail begin", 1},
		{0, "begin commit fail one", 0},
		{1, "one", 1},
		{1, "commit one", 0},
		{1, "fail one begin", 2},
		{1, "rollback begin", 1},
		{2, "one fail begin", 2},
		{2, "commit", 0},
		{2, "commit begin", 1},
		{2, "rollback fail", 0},
		{3, "one", 0},
		{3, "begin", 0},
		{3, "begin begin", 1},
		{-1, "fail", 0},
		{-1, "commit begin fail", 2},
		{256, "one begin", 1},
		{257, "fail begin one", 1},
		{math.MaxInt64, "begin fail", 0},
		{math.MinInt64, "begin begin fail", 2},
	} {
		checkWalk(t, x.st, strings.Fields(x.l), x.want)
	}
	checkWalk(t, 1, []string{"Fail", "COMMIT", "roll back", "", strings.Repeat("a", 101), "fail\x00", "\x1f"}, 1)
	checkWalk(t, 2, []string{"Commit", "rollback ", " commit", "commit commit", "\xff", "begin"}, 2)
	checkWalk(t, 0, []string{"Begin", "begin ", "begin\x00", "begin begin"}, 0)
}

// eachWalk visits all lists of up to n more queries behind l.
func eachWalk(l []string, n int, visit func([]string)) {
	visit(l)
	if n == 0 {
		return
	}
	for _, q := range []string{"one", "begin", "commit", "rollback", "fail", "Fail"} {
		eachWalk(append(l[:len(l):len(l)], q), n-1, visit)
	}
}

func TestWalkOfEveryShortList(t *testing.T) {
	eachWalk(nil, 5, func(l []string) {
		for st := -1; st <= 3; st++ {
			checkWalk(t, st, l, otherWalk(st, l))
		}
	})
}

// A server answers query after query, from the status that its last answer named.
func TestAnswersContinueFromTheStatus(t *testing.T) {
	r := rand.New(rand.NewSource(7))
	visited := map[[2]int]int{}
	for range 300 {
		st := r.Intn(3)
		first, at := st, st
		var l []string
		for i := range 40 {
			q := spokenWords[r.Intn(5)]
			if q == "one" {
				q += strconv.Itoa(i)
			}
			visited[[2]int{at, otherWord(q)}]++
			checkAnswer(t, at, q)
			frames := impl.AnswerTo(at, q)
			if len(frames) != 2 {
				t.Fatalf("AnswerTo(%d, %q) = %+v", at, q, frames)
			}
			at = frames[1].St
			st = otherNext(st, otherWord(q))
			l = append(l, q)
			if at != st || impl.Walk(first, l) != st {
				t.Fatalf("from %d, %q leads to %d, Walk to %d, want %d", first, l, at, impl.Walk(first, l), st)
			}
		}
	}
	if len(visited) != 15 {
		t.Error("not every status met every word", visited)
	}
}

func TestWalkOfManyQueries(t *testing.T) {
	r := rand.New(rand.NewSource(77))
	var l []string
	want := 0
	for range 100000 {
		q := spokenWords[r.Intn(5)]
		l = append(l, q)
		want = otherNext(want, otherWord(q))
	}
	if got := impl.Walk(0, l); got != want {
		t.Errorf("Walk of %d queries = %d, want %d", len(l), got, want)
	}
	if got := impl.Walk(0, append(l, "rollback", "begin", "fail", "one")); got != 2 {
		t.Errorf("Walk of many queries and a failed transaction = %d", got)
	}
	for _, x := range []struct {
		q    string
		from int
		want int
	}{{"one", 2, 2}, {"begin", 0, 1}, {"fail", 1, 2}, {"fail", 0, 0}, {"commit", 2, 0}, {"one", 3, 0}} {
		if got := impl.Walk(x.from, slices.Repeat([]string{x.q}, 70000)); got != x.want {
			t.Errorf("Walk(%d, %q again and again) = %d, want %d", x.from, x.q, got, x.want)
		}
	}
}
