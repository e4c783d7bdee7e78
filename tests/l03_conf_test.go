package tests

import (
	"fmt"
	"math"
	"math/rand"
	"regexp"
	"slices"
	"strings"
	"testing"

	"loop.example/g00482/impl"
)

func db(name string, size, queue, wait, idle int) impl.Db {
	return impl.Db{Name: name, Size: size, Queue: queue, Wait: wait, Idle: idle}
}

// roomyDbs returns a copy of l with spare capacity, and the array behind it.
func roomyDbs(l []impl.Db) ([]impl.Db, []impl.Db) {
	whole := append(slices.Clone(l), db("beyond", 1, 1, 1, 1), db("last", -7, 9, 9, 9))
	return whole[:len(l)], whole
}

var dbForm = `[a-z]{1,8}:[1-3]/[0-4]/([1-9]|1[0-9]|20)/([1-9]|1[0-9]|20)`
var confForm = regexp.MustCompile(`\A` + dbForm + `(;` + dbForm + `){0,2}\z`)

// isConf is a second definition of the texts that ParseConf accepts.
func isConf(s string) bool {
	if !confForm.MatchString(s) {
		return false
	}
	seen := map[string]bool{}
	for _, part := range strings.Split(s, ";") {
		name, _, _ := strings.Cut(part, ":")
		if seen[name] {
			return false
		}
		seen[name] = true
	}
	return true
}

func checkNoConf(t *testing.T, s string) {
	t.Helper()
	if l, ok := impl.ParseConf(s); len(l) != 0 || ok {
		t.Errorf("ParseConf(%q) = %v, %v", s, l, ok)
	}
}

// checkConf checks a configuration, its text and all functions that lead from one to the other.
func checkConf(t *testing.T, l []impl.Db, s string) {
	t.Helper()
	arg, whole := roomyDbs(l)
	before := slices.Clone(whole)
	if !impl.ConfOk(arg) {
		t.Errorf("ConfOk(%v) is false", l)
	}
	if got := impl.ConfText(arg); got != s {
		t.Errorf("ConfText(%v) = %q, want %q", l, got, s)
	}
	if !slices.Equal(whole, before) {
		t.Errorf("the argument %v was written to: %v", before, whole)
	}
	got, ok := impl.ParseConf(s)
	if !slices.Equal(got, l) || !ok {
		t.Errorf("ParseConf(%q) = %v, %v", s, got, ok)
	}
	if !isConf(s) {
		t.Errorf("%q is not the text of a configuration", s)
	}
}

// checkBadConf checks a list that is no configuration, and that the text it would have is not accepted either.
func checkBadConf(t *testing.T, l []impl.Db) {
	t.Helper()
	arg, whole := roomyDbs(l)
	before := slices.Clone(whole)
	if impl.ConfOk(arg) {
		t.Errorf("ConfOk(%v)", l)
	}
	if s := impl.ConfText(arg); s != "" {
		t.Errorf("ConfText(%v) = %q", l, s)
	}
	if !slices.Equal(whole, before) {
		t.Errorf("the argument %v was written to: %v", before, whole)
	}
	checkNoConf(t, anyText(l))
}

// anyText writes a list as ConfText would if it were a configuration.
func anyText(l []impl.Db) string {
	var parts []string
	for _, d := range l {
		parts = append(parts, fmt.Sprintf("%s:%d/%d/%d/%d", d.Name, d.Size, d.Queue, d.Wait, d.Idle))
	}
	return strings.Join(parts, ";")
}

// checkAnyText compares ParseConf with isConf.
func checkAnyText(t *testing.T, s string) {
	t.Helper()
	if !isConf(s) {
		checkNoConf(t, s)
		return
	}
	l, ok := impl.ParseConf(s)
	if !ok || !impl.ConfOk(l) || impl.ConfText(l) != s || anyText(l) != s {
		t.Errorf("ParseConf(%q) = %v, %v", s, l, ok)
	}
}

func TestConfLimits(t *testing.T) {
	if impl.MaxDbs != 3 || impl.MaxSize != 3 || impl.MaxWaiters != 4 || impl.MaxTicks != 20 {
		t.Error(impl.MaxDbs, impl.MaxSize, impl.MaxWaiters, impl.MaxTicks)
	}
}

func TestConfOfOneToThreeDbs(t *testing.T) {
	checkConf(t, []impl.Db{db("main", 2, 3, 10, 5)}, "main:2/3/10/5")
	checkConf(t, []impl.Db{db("main", 2, 3, 10, 5), db("logs", 1, 0, 4, 4)}, "main:2/3/10/5;logs:1/0/4/4")
	checkConf(t, []impl.Db{db("c", 1, 0, 1, 1), db("b", 1, 0, 1, 1), db("a", 1, 0, 1, 1)}, "c:1/0/1/1;b:1/0/1/1;a:1/0/1/1")
	checkConf(t, []impl.Db{db("zzzzzzzz", 3, 4, 20, 20), db("zzzzzzz", 3, 4, 20, 20), db("azzzzzzz", 3, 4, 20, 20)},
		"zzzzzzzz:3/4/20/20;zzzzzzz:3/4/20/20;azzzzzzz:3/4/20/20")
}

func TestConfOfEveryNumber(t *testing.T) {
	for size := 1; size <= 3; size++ {
		for queue := 0; queue <= 4; queue++ {
			for wait := 1; wait <= 20; wait++ {
				for idle := 1; idle <= 20; idle++ {
					s := fmt.Sprintf("db:%d/%d/%d/%d", size, queue, wait, idle)
					checkConf(t, []impl.Db{db("db", size, queue, wait, idle)}, s)
				}
			}
		}
	}
}

func TestConfOfTooFewOrTooManyDbs(t *testing.T) {
	checkBadConf(t, nil)
	checkBadConf(t, []impl.Db{})
	four := []impl.Db{db("a", 1, 0, 1, 1), db("b", 1, 0, 1, 1), db("c", 1, 0, 1, 1), db("d", 1, 0, 1, 1)}
	checkBadConf(t, four)
	checkBadConf(t, append(four, four...))
	// What lies beyond the length of a list does not belong to it.
	if impl.ConfOk(nil) || impl.ConfText(nil) != "" {
		t.Error("a nil list")
	}
	if !impl.ConfOk(four[:3]) || impl.ConfText(four[:3]) != "a:1/0/1/1;b:1/0/1/1;c:1/0/1/1" || impl.ConfOk(four[:0]) {
		t.Error("a list within a longer one")
	}
	checkNoConf(t, strings.Repeat("a:1/0/1/1;", 20000)+"a:1/0/1/1")
	var many []string
	for i := range 676 {
		many = append(many, string(rune('a'+i/26))+string(rune('a'+i%26))+":1/0/1/1")
	}
	checkNoConf(t, strings.Join(many, ";"))
}

func TestConfWithOneNameTwice(t *testing.T) {
	x, y, z := db("x", 1, 0, 1, 1), db("y", 1, 0, 1, 1), db("z", 1, 0, 1, 1)
	other := db("x", 2, 1, 2, 2)
	for _, l := range [][]impl.Db{{x, x}, {x, other}, {x, other, y}, {x, y, other}, {y, x, other}, {x, x, x}, {other, y, x}} {
		checkBadConf(t, l)
	}
	checkConf(t, []impl.Db{x, y, z}, "x:1/0/1/1;y:1/0/1/1;z:1/0/1/1")
	checkConf(t, []impl.Db{x, db("xx", 1, 0, 1, 1), db("xxx", 1, 0, 1, 1)}, "x:1/0/1/1;xx:1/0/1/1;xxx:1/0/1/1")
}

func badNames() []string {
	return []string{
		"", "abcdefghi", "aaaaaaaaa", strings.Repeat("a", 16), strings.Repeat("a", 100), strings.Repeat("a", 70000),
		"A", "Z", "mAin", "maiN", "a1", "1a", "0", "a b", " ", " a", "a ", "a-b", "a_b", "a.b", "a:b", "a/b", "a;b", ":", "/", ";",
		"a\x00", "\x00", "a\n", "\na", "a\t", "`", "{", "a`", "{a", "@", "[",
		"\u00e9", "a\u00e9b", "\u20ac", "\U0001f600", "\u0161", "\u0261", "\uff41", "\u017f", "\u212a", "\ufffd", "\u0430",
		"\x80", "\xff", "a\xff", "\xffa", "\xe1", "\xe1\xe2", "\xc3", "\xed\xa0\x80", "\xc1\xa1", "\xf5\x80\x80\x80", "\ufeffa",
	}
}

func TestConfNames(t *testing.T) {
	for _, name := range badNames() {
		checkBadConf(t, []impl.Db{db(name, 1, 0, 1, 1)})
		checkBadConf(t, []impl.Db{db(name, 1, 0, 1, 1), db("b", 1, 0, 1, 1)})
		checkBadConf(t, []impl.Db{db("b", 1, 0, 1, 1), db("c", 1, 0, 1, 1), db(name, 1, 0, 1, 1)})
	}
	for n := 1; n <= 8; n++ {
		name := "qwertyui"[:n]
		checkConf(t, []impl.Db{db(name, 1, 0, 1, 1)}, name+":1/0/1/1")
	}
	for x := range 256 {
		c := string([]byte{byte(x)})
		for _, name := range []string{c, c + "b", "b" + c, "b" + c + "b", "bbbbbbb" + c} {
			if x >= 'a' && x <= 'z' {
				checkConf(t, []impl.Db{db(name, 1, 0, 1, 1)}, name+":1/0/1/1")
			} else {
				checkBadConf(t, []impl.Db{db(name, 1, 0, 1, 1)})
			}
		}
	}
}

// fields returns pointers to the four numbers of d, and their lowest and highest values.
func fields(d *impl.Db) ([]*int, []int, []int) {
	return []*int{&d.Size, &d.Queue, &d.Wait, &d.Idle}, []int{1, 0, 1, 1}, []int{3, 4, 20, 20}
}

func TestConfNumbers(t *testing.T) {
	for at := range 3 {
		for field := range 4 {
			l := []impl.Db{db("a", 2, 2, 2, 2), db("b", 2, 2, 2, 2), db("c", 2, 2, 2, 2)}
			to, low, high := fields(&l[at])
			for _, n := range []int{low[field], low[field] + 1, high[field] - 1, high[field]} {
				*to[field] = n
				checkConf(t, l, anyText(l))
			}
			for _, n := range []int{
				low[field] - 1, low[field] - 2, high[field] + 1, high[field] + 2, -1, -2, -3, -20, 21, 22, 99, 100, 256, 258, 65535, 65536, 65537, 65538,
				99999, 100002, 1 << 32, 1<<32 + 2, -1<<32 + 2, math.MaxInt64, math.MinInt64, math.MinInt64 + 2,
			} {
				*to[field] = n
				checkBadConf(t, l)
			}
		}
	}
	checkBadConf(t, []impl.Db{{}})
	checkBadConf(t, []impl.Db{{Name: "a"}})
}

func TestParseConfOfAlmostAConf(t *testing.T) {
	for _, s := range []string{
		"", " ", "a", ":", "/", ";", "a:", ":1", "a:1", "a:1/", "a:1/2", "a:1/2/3", "a:1/2/3/", "a/1/2/3/4", "a;1/2/3/4", "a 1/2/3/4",
		"a1/2/3/4", "a:12/3/4", "a:1/23/4", "a:1/2/34", "1/2/3/4", ":1/2/3/4", "a:/2/3/4", "a:1//3/4", "a:1/2//4", "a:///", ":///",
		"a::1/2/3/4", "a:1//2/3/4", "a:1/2//3/4", "a:1/2/3//4", "a:1:2:3:4", "a:1/2:3/4", "a:1/2/3;4", "a:1/2/3:4", "a:/1/2/3/4", "a/:1/2/3/4",
		":a:1/2/3/4", "/a:1/2/3/4", ";a:1/2/3/4", "a:1/2/3/4:", "a:1/2/3/4/", "a:1/2/3/4;", "a:1/2/3/4;;", ";a:1/2/3/4;",
		"a:1/2/3/4/5", "a:1/2/3/4:5", "a:1/2/3/4/5;b:1/2/3/4", "a:1/2/3;b:1/2/3/4", "a:1/2/3/4;b:1/2/3",
		"a:1/2/3/4;;b:1/2/3/4", "a:1/2/3/4b:1/2/3/4", "a:1/2/3/4,b:1/2/3/4", "a:1/2/3/4:b:1/2/3/4", "a:1/2/3/4/b:1/2/3/4", "a:1/2/3/4; b:1/2/3/4",
		"a:1/2/3/4;:1/2/3/4", "a:1/2/3/4;b", "a:1/2/3/4;b:", "a:1/2/3/4;b:1/2/3/4;", "a:1/2/3/4;b:1/2/3/4;c", "a:1/2/3/4;b:1/2/3/4;c:1/2/3/4;",
		"a:1/2/3/4;a:1/2/3/4", "a:1/2/3/4;b:1/2/3/4;c:1/2/3/4;d:1/2/3/4",
		"a:01/2/3/4", "a:1/02/3/4", "a:1/2/03/4", "a:1/2/3/04", "a:1/00/3/4", "a:1/2/3/00", "a:1/2/3/0", "a:0/2/3/4", "a:1/2/0/4", "a:1/2/000003/4",
		"a:+1/2/3/4", "a:1/+2/3/4", "a:1/2/+3/4", "a:1/2/3/+4", "a:-1/2/3/4", "a:1/-2/3/4", "a:1/-0/3/4", "a:1/2/3/-4", "a:1-/2/3/4", "a:--1/2/3/4",
		" a:1/2/3/4", "a :1/2/3/4", "a: 1/2/3/4", "a:1 /2/3/4", "a:1/ 2/3/4", "a:1/2/3/ 4", "a:1/2/3/4 ", "a:1/2/3/4\n", "\ta:1/2/3/4", "a:1/2/3/4\x00", "a:1/2/3/1 0",
		"a:1/2/3/100", "a:1/2/3/00010", "a:1/2/100000/4", "a:123456/2/3/4", "a:65537/2/3/4", "a:4294967297/2/3/4", "a:18446744073709551617/2/3/4",
		"a:1.0/2/3/4", "a:1e0/2/3/4", "a:0x1/2/3/4", "a:1/2/1_0/4", "a:x/2/3/4", "a:1/b/3/4", "A:1/2/3/4", "a2:1/2/3/4", "abcdefghi:1/2/3/4",
		"a:\uff11/2/3/4", "a:1/2/3/\u0664", "a:1/2/3/4\u00e9", "\u00e9:1/2/3/4", "a\uff1a1/2/3/4", "a:1\u20442/3/4", "a:1/2/3/4\uff1bb:1/2/3/4",
		"a\u013a1/2/3/4", "a:1\u012f2/3/4", "a:1/2/3/4\u013bb:1/2/3/4", "a:\u0131/2/3/4", "\u0161:1/2/3/4",
		"\xff", "\xffa:1/2/3/4", "a\xff:1/2/3/4", "a:\xff/2/3/4", "a:1\xff/2/3/4", "a:1/2/3/4\xff", "a:1/2/3/4\xe2\x82", "a:1/2/3/4\xc3", "a:1/2/3/4;\xc3", "\ufeffa:1/2/3/4",
		"a:1/2/3/4\xbb", "a:\xb1/2/3/4", "\xe1:1/2/3/4", "a\xba1/2/3/4",
		strings.Repeat("a", 70000), strings.Repeat(":", 70000), strings.Repeat("/", 70000), strings.Repeat(";", 70000), strings.Repeat("a:1/2/3/4", 9000),
		"a:" + strings.Repeat("1", 70000) + "/2/3/4", "a:" + strings.Repeat("0", 70000) + "1/2/3/4", "a:1/2/3/" + strings.Repeat("4", 70000), "a:1" + strings.Repeat("/2", 70000),
	} {
		checkNoConf(t, s)
	}
	checkConf(t, []impl.Db{db("a", 1, 2, 3, 4)}, "a:1/2/3/4")
}

func goodTexts() []string {
	return []string{
		"a:1/0/1/1", "main:2/3/10/5", "qwertyui:3/4/20/20", "main:2/3/10/5;logs:1/0/4/4",
		"a:1/0/1/1;b:2/1/9/10;c:3/4/19/20", "aaaaaaaa:1/0/11/1;aaaaaaab:1/0/2/12;aaaaaaa:1/0/20/20",
	}
}

func TestParseConfOfChangedTexts(t *testing.T) {
	for _, s := range goodTexts() {
		if !isConf(s) {
			t.Fatal(s)
		}
		checkAnyText(t, s)
		for i := range len(s) {
			checkAnyText(t, s[:i])
			checkAnyText(t, s[i+1:])
			checkAnyText(t, s[:i]+s[i+1:])
			for x := range 256 {
				c := string([]byte{byte(x)})
				checkAnyText(t, s[:i]+c+s[i+1:])
				checkAnyText(t, s[:i]+c+s[i:])
			}
			for _, c := range []string{"\u00e9", "\u20ac", "\uff11", "\U0001f600", "\ufffd", "::", "//", ";;", "10", "00"} {
				checkAnyText(t, s[:i]+c+s[i+1:])
				checkAnyText(t, s[:i]+c+s[i:])
			}
		}
		for x := range 256 {
			checkAnyText(t, s+string([]byte{byte(x)}))
		}
	}
}

func TestParseConfOfProperPrefixes(t *testing.T) {
	// With this text, no proper prefix is a configuration: all the last numbers have one digit, and there is one database.
	s := "main:2/3/10/5"
	for i := range len(s) {
		checkNoConf(t, s[:i])
	}
	s = "a:1/2/3/4;b:1/2/3/4"
	for i := range len(s) {
		if i == 9 {
			checkConf(t, []impl.Db{db("a", 1, 2, 3, 4)}, s[:i])
		} else {
			checkNoConf(t, s[:i])
		}
	}
}

func TestParseConfOfRandomTexts(t *testing.T) {
	r := rand.New(rand.NewSource(3))
	pieces := []string{"a", "b", "main", ":", "/", ";", "0", "1", "2", "3", "4", "5", "20", "21", "1/1/1/1", ":1/0/1", "\xff"}
	good := 0
	for range 200000 {
		s := ""
		for range r.Intn(12) {
			s += pieces[r.Intn(len(pieces))]
		}
		checkAnyText(t, s)
		if isConf(s) {
			good++
		}
	}
	if good < 20 {
		t.Error("too few configurations among the texts", good)
	}
}

func TestConfTextOfRandomLists(t *testing.T) {
	r := rand.New(rand.NewSource(4))
	names := []string{"a", "b", "c", "main", "logs", "abcdefgh", "", "abcdefghi", "A"}
	good := 0
	for range 100000 {
		var l []impl.Db
		for range r.Intn(5) {
			l = append(l, db(names[r.Intn(6+r.Intn(4))], r.Intn(4)+r.Intn(2), r.Intn(5), 1+r.Intn(20), 1+r.Intn(20)-r.Intn(2)))
		}
		if s := anyText(l); isConf(s) {
			checkConf(t, l, s)
			good++
		} else {
			checkBadConf(t, l)
		}
	}
	if good < 1000 {
		t.Error("too few configurations among the lists", good)
	}
}

func TestParseConfGivesNewMemory(t *testing.T) {
	s := "main:2/3/10/5;logs:1/0/4/4"
	a, _ := impl.ParseConf(s)
	b, _ := impl.ParseConf(s)
	clear(a[:cap(a)])
	if c, ok := impl.ParseConf(s); !ok || impl.ConfText(b) != s || impl.ConfText(c) != s {
		t.Error("two results share memory", b, c)
	}
	none, _ := impl.ParseConf("main")
	for i := range none[:cap(none)] {
		none[:cap(none)][i] = db("x", 1, 1, 1, 1)
	}
	checkNoConf(t, "main")
}

func TestDbAt(t *testing.T) {
	first, second, other := db("x", 1, 0, 1, 1), db("x", 2, 1, 2, 2), db("y", 3, 4, 20, 20)
	bad := db("\xffBAD NAME", -1, 99, 0, math.MinInt64)
	for _, x := range []struct {
		l    []impl.Db
		name string
		want impl.Db
		ok   bool
	}{
		{[]impl.Db{first, other}, "x", first, true},
		{[]impl.Db{first, other}, "y", other, true},
		{[]impl.Db{first, second}, "x", first, true},
		{[]impl.Db{second, first}, "x", second, true},
		{[]impl.Db{other, second, first, second}, "x", second, true},
		{[]impl.Db{other, other, other, other, first}, "x", first, true},
		{[]impl.Db{first, other}, "z", impl.Db{}, false},
		{[]impl.Db{first, other}, "", impl.Db{}, false},
		{[]impl.Db{first, other}, "X", impl.Db{}, false},
		{[]impl.Db{first, other}, "xx", impl.Db{}, false},
		{[]impl.Db{db("xy", 1, 0, 1, 1)}, "x", impl.Db{}, false},
		{[]impl.Db{db("xy", 1, 0, 1, 1), first}, "x", first, true},
		// The list need not be a configuration, nor the name one that a configuration permits.
		{[]impl.Db{bad, first}, bad.Name, bad, true},
		{[]impl.Db{first, {Size: 7}}, "", impl.Db{Size: 7}, true},
		{nil, "x", impl.Db{}, false},
		{nil, "", impl.Db{}, false},
		{[]impl.Db{}, "x", impl.Db{}, false},
	} {
		arg, whole := roomyDbs(x.l)
		before := slices.Clone(whole)
		if d, ok := impl.DbAt(arg, x.name); d != x.want || ok != x.ok {
			t.Errorf("DbAt(%v, %q) = %v, %v", x.l, x.name, d, ok)
		}
		if d, ok := impl.DbAt(arg, "beyond"); d != (impl.Db{}) || ok {
			t.Errorf("DbAt(%v) reads beyond the length: %v, %v", x.l, d, ok)
		}
		if !slices.Equal(whole, before) {
			t.Errorf("DbAt wrote to its argument %v", x.l)
		}
	}
}

func checkSame(t *testing.T, a, b []impl.Db, want bool) {
	t.Helper()
	a, wholeA := roomyDbs(a)
	b, wholeB := roomyDbs(b)
	wholeB[len(b)].Size = 9
	beforeA, beforeB := slices.Clone(wholeA), slices.Clone(wholeB)
	if impl.SameConf(a, b) != want || impl.SameConf(b, a) != want {
		t.Errorf("SameConf(%v, %v) is not %v", a, b, want)
	}
	if !impl.SameConf(a, a) || !impl.SameConf(b, b) {
		t.Errorf("%v or %v is not the same as itself", a, b)
	}
	if !slices.Equal(wholeA, beforeA) || !slices.Equal(wholeB, beforeB) {
		t.Errorf("SameConf wrote to %v or %v", a, b)
	}
}

func TestSameConf(t *testing.T) {
	x, y, z := db("x", 1, 0, 1, 1), db("y", 2, 1, 2, 2), db("z", 3, 4, 20, 20)
	checkSame(t, nil, nil, true)
	checkSame(t, nil, []impl.Db{}, true)
	checkSame(t, nil, []impl.Db{{}}, false)
	checkSame(t, []impl.Db{x}, nil, false)
	checkSame(t, []impl.Db{x}, []impl.Db{x, y}, false)
	checkSame(t, []impl.Db{x, y}, []impl.Db{x, y}, true)
	checkSame(t, []impl.Db{x, y}, []impl.Db{y, x}, false)
	checkSame(t, []impl.Db{x, y, z}, []impl.Db{x, y}, false)
	checkSame(t, []impl.Db{x, x}, []impl.Db{x}, false)
	checkSame(t, []impl.Db{x, y}, []impl.Db{x, x}, false)
	if !impl.SameConf(nil, nil) || !impl.SameConf(nil, []impl.Db{}) || !impl.SameConf([]impl.Db{}, nil) {
		t.Error("a nil list and an empty one are not the same")
	}
	// Lists that are no configurations are compared too.
	checkSame(t, []impl.Db{{}, {}, {}, {}}, []impl.Db{{}, {}, {}, {}}, true)
	checkSame(t, []impl.Db{db("\xff", -1, 99, 0, math.MinInt64)}, []impl.Db{db("\xff", -1, 99, 0, math.MinInt64)}, true)
	checkSame(t, []impl.Db{db("\xff", 1, 0, 1, 1)}, []impl.Db{db("\xfe", 1, 0, 1, 1)}, false)
}

func TestSameConfWithOneOtherField(t *testing.T) {
	for at := range 3 {
		l := []impl.Db{db("x", 1, 0, 1, 1), db("y", 2, 1, 2, 2), db("z", 3, 4, 20, 20)}
		other := slices.Clone(l)
		checkSame(t, l, other, true)
		other[at].Name += "x"
		checkSame(t, l, other, false)
		for field := range 4 {
			for _, n := range []int{1, -1, 256, 65536, 1 << 32, math.MinInt64} {
				other = slices.Clone(l)
				to, _, _ := fields(&other[at])
				*to[field] += n
				checkSame(t, l, other, false)
			}
		}
	}
}
