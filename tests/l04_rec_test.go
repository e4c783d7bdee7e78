package tests

import (
	"bytes"
	"encoding/binary"
	"math"
	"math/rand"
	"slices"
	"strings"
	"testing"

	"loop.example/g00482/impl"
)

const (
	shortConf = "a:1/0/1/1"
	mainConf  = "main:2/3/10/5;logs:1/0/4/4"
	// longConf is a configuration with the longest text.
	longConf = "aaaaaaaa:3/4/20/20;bbbbbbbb:3/4/20/20;cccccccc:3/4/20/20"
)

func prep(n int, text string) impl.Rec {
	return impl.Rec{Kind: impl.RePrep, N: n, Text: text}
}

func commit(n int) impl.Rec {
	return impl.Rec{Kind: impl.ReCommit, N: n}
}

func epoch(n, owner int) impl.Rec {
	return impl.Rec{Kind: impl.ReEpoch, N: n, Owner: owner}
}

func someGen(n int) bool {
	return n >= 1 && n <= 60000
}

// isRec is a second definition of the valid records.
func isRec(r impl.Rec) bool {
	switch r {
	case prep(r.N, r.Text):
		return someGen(r.N) && isConf(r.Text)
	case commit(r.N):
		return someGen(r.N)
	case epoch(r.N, 0), epoch(r.N, 1):
		return someGen(r.N)
	}
	return false
}

func withSum(b []byte) []byte {
	return binary.BigEndian.AppendUint16(slices.Clone(b), uint16(otherSum(b)))
}

// rawRec encodes any record, also an invalid one.
func rawRec(gen, place int, r impl.Rec) []byte {
	b := binary.BigEndian.AppendUint16(nil, uint16(gen))
	b = binary.BigEndian.AppendUint16(b, uint16(place))
	b = append(b, byte(r.Kind))
	b = binary.BigEndian.AppendUint16(b, uint16(r.N))
	b = append(b, byte(r.Owner), byte(len(r.Text)))
	return withSum(append(b, r.Text...))
}

// fitsRaw reports whether rawRec loses nothing of r.
func fitsRaw(r impl.Rec) bool {
	return r.Kind == int(byte(r.Kind)) && r.N == int(uint16(r.N)) && r.Owner == int(byte(r.Owner)) && len(r.Text) < 256
}

// readRec is a second definition of the encodings that GetRec accepts.
func readRec(b []byte) (int, int, impl.Rec, bool) {
	if len(b) < 11 || len(b) != 11+int(b[8]) || !bytes.Equal(withSum(b[:len(b)-2]), b) {
		return 0, 0, impl.Rec{}, false
	}
	r := impl.Rec{Kind: int(b[4]), N: int(b[5])*256 + int(b[6]), Owner: int(b[7]), Text: string(b[9 : len(b)-2])}
	if !isRec(r) {
		return 0, 0, impl.Rec{}, false
	}
	return int(b[0])*256 + int(b[1]), int(b[2])*256 + int(b[3]), r, true
}

// checkBytes compares GetRec with readRec, and checks that GetRec writes nothing. It returns whether b is accepted.
func checkBytes(t *testing.T, b []byte) bool {
	t.Helper()
	arg, whole := roomy(string(b), 4)
	before := string(whole)
	gen, place, r, ok := impl.GetRec(arg)
	wantGen, wantPlace, want, wantOk := readRec(b)
	if gen != wantGen || place != wantPlace || r != want || ok != wantOk {
		t.Errorf("GetRec(%q) = %d, %d, %+v, %v, want %d, %d, %+v, %v", b, gen, place, r, ok, wantGen, wantPlace, want, wantOk)
	}
	if string(whole) != before {
		t.Errorf("GetRec wrote to %q", b)
	}
	return ok
}

func checkNoRec(t *testing.T, b []byte) {
	t.Helper()
	if gen, place, r, ok := impl.GetRec(b); gen != 0 || place != 0 || r != (impl.Rec{}) || ok {
		t.Errorf("GetRec(%q) = %d, %d, %+v, %v", b, gen, place, r, ok)
	}
	checkBytes(t, b)
}

func checkRec(t *testing.T, gen, place int, r impl.Rec) {
	t.Helper()
	if !impl.RecOk(r) {
		t.Errorf("RecOk(%+v) is false", r)
	}
	want := rawRec(gen, place, r)
	got := impl.PutRec(gen, place, r)
	if !bytes.Equal(got, want) {
		t.Errorf("PutRec(%d, %d, %+v) = %q, want %q", gen, place, r, got, want)
	}
	if g, p, x, ok := impl.GetRec(got); g != gen || p != place || x != r || !ok {
		t.Errorf("GetRec(%q) = %d, %d, %+v, %v, want %d, %d, %+v", got, g, p, x, ok, gen, place, r)
	}
	checkBytes(t, want)
}

func checkBadRec(t *testing.T, r impl.Rec) {
	t.Helper()
	if impl.RecOk(r) {
		t.Errorf("RecOk(%+v)", r)
	}
	for _, n := range []int{0, 1, 65535, 65536, -1} {
		if b := impl.PutRec(n, n, r); len(b) != 0 {
			t.Errorf("PutRec(%d, %d, %+v) = %q", n, n, r, b)
		}
	}
	if fitsRaw(r) {
		checkNoRec(t, rawRec(1, 1, r))
	}
	for _, k := range []impl.Known{{}, fullKnown(), {Gen: -1}} {
		if x, ok := impl.Apply(k, r); x != k || ok {
			t.Errorf("Apply(%+v, %+v) = %+v, %v", k, r, x, ok)
		}
	}
}

func TestRecConstants(t *testing.T) {
	if impl.RePrep != 1 || impl.ReCommit != 2 || impl.ReEpoch != 3 || impl.MaxGen != 60000 {
		t.Error(impl.RePrep, impl.ReCommit, impl.ReEpoch, impl.MaxGen)
	}
}

func TestRecOkOfGoodRecs(t *testing.T) {
	for _, n := range []int{1, 2, 255, 256, 30000, 59999, 60000} {
		for _, text := range append(goodTexts(), shortConf, mainConf, longConf) {
			checkRec(t, 1, 0, prep(n, text))
		}
		checkRec(t, 1, 0, commit(n))
		checkRec(t, 1, 0, epoch(n, 0))
		checkRec(t, 1, 0, epoch(n, 1))
	}
}

func oddNumbers() []int {
	return []int{-1, -2, -3, -60000, -65535, -65536, 60001, 65534, 65535, 65536, 65537, 65538, 125536, 1 << 32, 1<<32 + 1, 1<<32 + 2, math.MaxInt64, math.MinInt64, math.MinInt64 + 1}
}

func TestRecOkOfBadNumbers(t *testing.T) {
	for _, n := range append(oddNumbers(), 0) {
		checkBadRec(t, prep(n, shortConf))
		checkBadRec(t, commit(n))
		checkBadRec(t, epoch(n, 0))
		checkBadRec(t, epoch(n, 1))
	}
}

func TestRecOkOfBadOwners(t *testing.T) {
	for _, owner := range append(oddNumbers(), 2, 3, 127, 128, 255, 256, 257) {
		checkBadRec(t, impl.Rec{Kind: impl.RePrep, N: 1, Owner: owner, Text: shortConf})
		checkBadRec(t, impl.Rec{Kind: impl.ReCommit, N: 1, Owner: owner})
		checkBadRec(t, epoch(1, owner))
	}
}

func TestRecOkOfUnusedFields(t *testing.T) {
	checkBadRec(t, impl.Rec{Kind: impl.RePrep, N: 1, Owner: 1, Text: shortConf})
	checkBadRec(t, impl.Rec{Kind: impl.ReCommit, N: 1, Owner: 1})
	for _, text := range []string{shortConf, longConf, "bad", " ", "\x00", "\xff"} {
		checkBadRec(t, impl.Rec{Kind: impl.ReCommit, N: 1, Text: text})
		checkBadRec(t, impl.Rec{Kind: impl.ReEpoch, N: 1, Text: text})
		checkBadRec(t, impl.Rec{Kind: impl.ReEpoch, N: 1, Owner: 1, Text: text})
	}
}

func TestRecOkOfBadKinds(t *testing.T) {
	for _, kind := range append(oddNumbers(), 0, 4, 5, 127, 128, 254, 255, 256, 257, 258, 259, 513) {
		checkBadRec(t, impl.Rec{Kind: kind})
		for _, owner := range []int{0, 1} {
			for _, text := range []string{"", shortConf} {
				checkBadRec(t, impl.Rec{Kind: kind, N: 1, Owner: owner, Text: text})
			}
		}
	}
	checkBadRec(t, impl.Rec{})
	for kind := 1; kind <= 3; kind++ {
		checkBadRec(t, impl.Rec{Kind: kind})
	}
}

func noConfs() []string {
	return []string{
		"", "bad", " ", "a:1/0/1/0", "a:1/0/1/1;", "a:1/0/1/1;a:1/0/1/1", "a:4/0/1/1", "A:1/0/1/1", "a:01/0/1/1", " a:1/0/1/1", "a:1/0/1/1\n", "\xff",
		"a:1/0/1/1;b:1/0/1/1;c:1/0/1/1;d:1/0/1/1", longConf + ";d:1/0/1/1", longConf + longConf, strings.Repeat("a", 256), strings.Repeat("a", 256) + shortConf,
	}
}

func TestRecOkOfBadTexts(t *testing.T) {
	for _, text := range append(noConfs(), badTexts()...) {
		checkBadRec(t, prep(1, text))
		checkBadRec(t, prep(60000, text))
	}
}

func TestRecOkOfAnyFields(t *testing.T) {
	for _, kind := range []int{-1, 0, 1, 2, 3, 4} {
		for _, n := range []int{-1, 0, 1, 60000, 60001} {
			for _, owner := range []int{-1, 0, 1, 2} {
				for _, text := range []string{"", shortConf, longConf, "bad"} {
					r := impl.Rec{Kind: kind, N: n, Owner: owner, Text: text}
					if isRec(r) {
						checkRec(t, 7, 8, r)
					} else {
						checkBadRec(t, r)
					}
				}
			}
		}
	}
}

func TestPutRecBytes(t *testing.T) {
	for _, x := range []struct {
		gen, place int
		r          impl.Rec
		want       string
	}{
		{3, 4, prep(2, "a:1/0/1/1"), "\x00\x03\x00\x04\x01\x00\x02\x00\x09a:1/0/1/1SUM"},
		{258, 772, commit(1286), "\x01\x02\x03\x04\x02\x05\x06\x00\x00SUM"},
		{65535, 0, epoch(60000, 0), "\xff\xff\x00\x00\x03\xea\x60\x00\x00SUM"},
		{0, 65535, epoch(1, 1), "\x00\x00\xff\xff\x03\x00\x01\x01\x00SUM"},
	} {
		body := strings.TrimSuffix(x.want, "SUM")
		want := withSum([]byte(body))
		if got := impl.PutRec(x.gen, x.place, x.r); !bytes.Equal(got, want) {
			t.Errorf("PutRec(%d, %d, %+v) = %q, want %q", x.gen, x.place, x.r, got, want)
		}
		checkRec(t, x.gen, x.place, x.r)
	}
	if got := impl.PutRec(1, 2, epoch(3, 1)); string(got) != "\x00\x01\x00\x02\x03\x00\x03\x01\x00\x50\x52" {
		t.Errorf("%q", got)
	}
}

func TestPutRecGenAndPlace(t *testing.T) {
	recs := []impl.Rec{prep(60000, longConf), commit(1), epoch(2, 1)}
	words := []int{0, 1, 255, 256, 257, 17, 18, 59999, 60000, 60001, 65534, 65535}
	for _, r := range recs {
		for _, gen := range words {
			for _, place := range words {
				checkRec(t, gen, place, r)
			}
			for _, bad := range []int{-1, -2, -65535, -65536, 65536, 65537, 131072, 1 << 32, 1<<32 + 1, math.MaxInt64, math.MinInt64} {
				if b := impl.PutRec(gen, bad, r); len(b) != 0 {
					t.Errorf("PutRec(%d, %d, %+v) = %q", gen, bad, r, b)
				}
				if b := impl.PutRec(bad, gen, r); len(b) != 0 {
					t.Errorf("PutRec(%d, %d, %+v) = %q", bad, gen, r, b)
				}
				if b := impl.PutRec(bad, bad, r); len(b) != 0 {
					t.Errorf("PutRec(%d, %d, %+v) = %q", bad, bad, r, b)
				}
			}
		}
	}
}

func TestRecsGiveNewMemory(t *testing.T) {
	r := prep(2, mainConf)
	a, b := impl.PutRec(1, 1, r), impl.PutRec(1, 1, r)
	for i := range a[:cap(a)] {
		a[:cap(a)][i] ^= 0xFF
	}
	if !bytes.Equal(b, rawRec(1, 1, r)) || !bytes.Equal(impl.PutRec(1, 1, r), b) {
		t.Error("two encodings share memory")
	}
	_, _, x, _ := impl.GetRec(b)
	for i := range b[:cap(b)] {
		b[:cap(b)][i] ^= 0xFF
	}
	if x != r {
		t.Errorf("the record changed with the bytes: %+v", x)
	}
	none := impl.PutRec(-1, 1, r)
	for i := range none[:cap(none)] {
		none[:cap(none)][i] = 0xFF
	}
	if len(impl.PutRec(-1, 1, r)) != 0 {
		t.Error("an empty encoding is kept")
	}
}

func goodRecs() []impl.Rec {
	return []impl.Rec{prep(1, shortConf), prep(60000, longConf), prep(515, mainConf), commit(1), commit(60000), epoch(1, 0), epoch(60000, 1)}
}

func TestGetRecOfChangedBytes(t *testing.T) {
	for _, r := range goodRecs() {
		full := rawRec(3, 258, r)
		body := full[:len(full)-2]
		for i := range full {
			for x := range 256 {
				b := slices.Clone(full)
				b[i] = byte(x)
				if byte(x) == full[i] {
					checkRec(t, 3, 258, r)
				} else {
					checkNoRec(t, b)
				}
				if i < len(body) {
					checkBytes(t, withSum(b[:len(body)]))
				}
			}
		}
	}
}

func TestGetRecOfRemovedBytes(t *testing.T) {
	for _, r := range goodRecs() {
		full := rawRec(3, 258, r)
		body := full[:len(full)-2]
		for i := range full {
			checkNoRec(t, full[:i])
			checkNoRec(t, full[:i:i])
			checkNoRec(t, full[i+1:])
			checkNoRec(t, slices.Delete(slices.Clone(full), i, i+1))
			if i < len(body) {
				checkNoRec(t, withSum(body[:i]))
				checkBytes(t, withSum(body[i+1:]))
				checkBytes(t, withSum(slices.Delete(slices.Clone(body), i, i+1)))
			}
		}
	}
	checkNoRec(t, nil)
	checkNoRec(t, []byte{})
}

func TestGetRecOfAddedBytes(t *testing.T) {
	for _, r := range goodRecs() {
		full := rawRec(3, 258, r)
		body := full[:len(full)-2]
		for i := range len(full) + 1 {
			for x := range 256 {
				checkNoRec(t, slices.Insert(slices.Clone(full), i, byte(x)))
				if i <= len(body) {
					checkBytes(t, withSum(slices.Insert(slices.Clone(body), i, byte(x))))
				}
			}
		}
		checkNoRec(t, withSum(full))
		checkNoRec(t, append(slices.Clone(full), full...))
		checkNoRec(t, append(slices.Clone(full), make([]byte, 149)...))
		checkNoRec(t, append(slices.Clone(full), make([]byte, 70000)...))
	}
}

func TestGetRecWithAWrongSum(t *testing.T) {
	full := rawRec(1, 2, prep(3, mainConf))
	accepted := 0
	for sum := range 65536 {
		b := slices.Clone(full)
		binary.BigEndian.PutUint16(b[len(b)-2:], uint16(sum))
		if checkBytes(t, b) {
			accepted++
		}
	}
	if accepted != 1 {
		t.Error(accepted, "sums are accepted")
	}
	b := slices.Clone(full)
	b[len(b)-1], b[len(b)-2] = b[len(b)-2], b[len(b)-1]
	checkNoRec(t, b)
}

func TestGetRecOfEveryKindAndOwner(t *testing.T) {
	accepted := 0
	for kind := range 256 {
		for owner := range 256 {
			for _, text := range []string{"", shortConf} {
				if checkBytes(t, rawRec(1, 2, impl.Rec{Kind: kind, N: 3, Owner: owner, Text: text})) {
					accepted++
				}
			}
		}
	}
	if accepted != 4 {
		t.Error(accepted, "combinations are accepted")
	}
}

func TestGetRecOfEveryNumber(t *testing.T) {
	for n := range 65536 {
		for _, r := range []impl.Rec{prep(n, shortConf), commit(n), epoch(n, 1)} {
			if ok := checkBytes(t, rawRec(n, 65535-n, r)); ok != (n >= 1 && n <= 60000) {
				t.Fatalf("%+v: %v", r, ok)
			}
		}
	}
}

func TestGetRecOfOtherTextLengths(t *testing.T) {
	for _, r := range goodRecs() {
		full := rawRec(1, 1, r)
		for n := range 256 {
			b := slices.Clone(full)
			b[8] = byte(n)
			checkBytes(t, withSum(b[:len(b)-2]))
			if n != len(r.Text) {
				checkNoRec(t, withSum(b[:len(b)-2]))
			}
		}
	}
	for n := range 256 {
		checkNoRec(t, rawRec(1, 1, prep(1, strings.Repeat("a", n))))
	}
}

func fullKnown() impl.Known {
	return impl.Known{Gen: 5, Text: shortConf, PGen: 8, PText: mainConf, Epoch: 6, Owner: 1}
}

// isKnown is a second definition of the valid states.
func isKnown(k impl.Known) bool {
	gens := k.Gen == 0 && k.Text == "" || someGen(k.Gen) && isConf(k.Text)
	prepared := k.PGen == 0 && k.PText == "" || someGen(k.PGen) && isConf(k.PText) && k.PGen > k.Gen
	epochs := k.Epoch == 0 && k.Owner == 0 || someGen(k.Epoch) && (k.Owner == 0 || k.Owner == 1)
	return gens && prepared && epochs
}

func checkKnown(t *testing.T, k impl.Known, want bool) {
	t.Helper()
	if got := impl.KnownOk(k); got != want || isKnown(k) != want {
		t.Errorf("KnownOk(%+v) is %v", k, got)
	}
	checkRecsOf(t, k)
	if want {
		return
	}
	for _, r := range []impl.Rec{prep(60000, shortConf), commit(1), commit(60000), epoch(60000, 1), prep(1, "bad"), {}} {
		if x, ok := impl.Apply(k, r); x != k || ok {
			t.Errorf("Apply(%+v, %+v) = %+v, %v", k, r, x, ok)
		}
	}
}

func TestKnownOk(t *testing.T) {
	checkKnown(t, impl.Known{}, true)
	checkKnown(t, fullKnown(), true)
	checkKnown(t, impl.Known{Gen: 1, Text: shortConf}, true)
	checkKnown(t, impl.Known{Gen: 60000, Text: longConf}, true)
	checkKnown(t, impl.Known{PGen: 1, PText: shortConf}, true)
	checkKnown(t, impl.Known{PGen: 60000, PText: longConf}, true)
	checkKnown(t, impl.Known{Epoch: 1}, true)
	checkKnown(t, impl.Known{Epoch: 60000, Owner: 1}, true)
	checkKnown(t, impl.Known{Gen: 59999, Text: shortConf, PGen: 60000, PText: shortConf}, true)
	checkKnown(t, impl.Known{Gen: 1}, false)
	checkKnown(t, impl.Known{PGen: 1}, false)
	checkKnown(t, impl.Known{Text: shortConf}, false)
	checkKnown(t, impl.Known{PText: shortConf}, false)
	checkKnown(t, impl.Known{Owner: 1}, false)
	checkKnown(t, impl.Known{PGen: 1, Text: shortConf}, false)
	checkKnown(t, impl.Known{Gen: 1, PText: shortConf}, false)
	checkKnown(t, impl.Known{Gen: 1, Text: shortConf, Owner: 1}, false)
}

func TestKnownOkOfPreparedGenerations(t *testing.T) {
	for _, gen := range []int{1, 2, 59999, 60000} {
		for _, more := range []int{-2, -1, 0, 1, 2} {
			k := impl.Known{Gen: gen, Text: shortConf, PGen: gen + more, PText: mainConf}
			if k.PGen == 0 {
				k.PText = ""
			}
			checkKnown(t, k, k.PGen == 0 || more > 0 && k.PGen <= 60000)
		}
	}
	checkKnown(t, impl.Known{Gen: 60000, Text: shortConf, PGen: 1, PText: shortConf}, false)
	checkKnown(t, impl.Known{Gen: 5, Text: shortConf, PGen: 5, PText: shortConf}, false)
}

func TestKnownOkOfBadNumbers(t *testing.T) {
	for _, n := range oddNumbers() {
		for field := range 4 {
			k := fullKnown()
			*[]*int{&k.Gen, &k.PGen, &k.Epoch, &k.Owner}[field] = n
			checkKnown(t, k, false)
			k = impl.Known{}
			*[]*int{&k.Gen, &k.PGen, &k.Epoch, &k.Owner}[field] = n
			checkKnown(t, k, false)
		}
		checkKnown(t, impl.Known{Gen: n, Text: shortConf}, false)
		checkKnown(t, impl.Known{PGen: n, PText: shortConf}, false)
		checkKnown(t, impl.Known{Epoch: n, Owner: 1}, false)
		checkKnown(t, impl.Known{Epoch: 1, Owner: n}, false)
	}
	for _, owner := range []int{2, 3, 255, 256, 257} {
		checkKnown(t, impl.Known{Epoch: 1, Owner: owner}, false)
	}
}

func TestKnownOkOfBadTexts(t *testing.T) {
	for _, text := range append(noConfs(), badTexts()...) {
		k := fullKnown()
		k.Text = text
		checkKnown(t, k, false)
		k = fullKnown()
		k.PText = text
		checkKnown(t, k, false)
		k.Text = text
		checkKnown(t, k, false)
		checkKnown(t, impl.Known{Text: text}, text == "")
		checkKnown(t, impl.Known{PText: text}, text == "")
	}
}

// manyKnowns returns valid and invalid states with all combinations of fields at and beyond their limits.
func manyKnowns() []impl.Known {
	var l []impl.Known
	for _, gen := range []int{-1, 0, 1, 2, 60000, 60001} {
		for _, pgen := range []int{-1, 0, 1, 2, 3, 60000, 60001} {
			for _, epoch := range []int{-1, 0, 1, 60000, 60001} {
				for _, owner := range []int{-1, 0, 1, 2} {
					for _, text := range []string{"", shortConf, "bad"} {
						for _, ptext := range []string{"", mainConf, "bad"} {
							l = append(l, impl.Known{Gen: gen, Text: text, PGen: pgen, PText: ptext, Epoch: epoch, Owner: owner})
						}
					}
				}
			}
		}
	}
	return l
}

func TestKnownOkOfAnyFields(t *testing.T) {
	for _, k := range manyKnowns() {
		checkKnown(t, k, isKnown(k))
	}
}

// nextKnown is a second definition of Apply.
func nextKnown(k impl.Known, r impl.Rec) (impl.Known, bool) {
	if !isKnown(k) || !isRec(r) {
		return k, false
	}
	switch {
	case r.Kind == 1 && r.N > k.Gen:
		return impl.Known{Gen: k.Gen, Text: k.Text, PGen: r.N, PText: r.Text, Epoch: k.Epoch, Owner: k.Owner}, true
	case r.Kind == 2 && r.N == k.PGen:
		return impl.Known{Gen: r.N, Text: k.PText, Epoch: k.Epoch, Owner: k.Owner}, true
	case r.Kind == 3 && r.N > k.Epoch:
		return impl.Known{Gen: k.Gen, Text: k.Text, PGen: k.PGen, PText: k.PText, Epoch: r.N, Owner: r.Owner}, true
	}
	return k, false
}

func checkApply(t *testing.T, k impl.Known, r impl.Rec) impl.Known {
	t.Helper()
	got, ok := impl.Apply(k, r)
	want, wantOk := nextKnown(k, r)
	if got != want || ok != wantOk {
		t.Errorf("Apply(%+v, %+v) = %+v, %v, want %+v, %v", k, r, got, ok, want, wantOk)
	}
	if ok && !impl.KnownOk(got) {
		t.Errorf("Apply(%+v, %+v) gives an invalid state", k, r)
	}
	return got
}

func TestApply(t *testing.T) {
	full := fullKnown()
	without := full
	without.PGen, without.PText = 0, ""
	for _, x := range []struct {
		k    impl.Known
		r    impl.Rec
		want impl.Known
		ok   bool
	}{
		{impl.Known{}, prep(1, shortConf), impl.Known{PGen: 1, PText: shortConf}, true},
		{impl.Known{}, prep(60000, longConf), impl.Known{PGen: 60000, PText: longConf}, true},
		{impl.Known{}, commit(1), impl.Known{}, false},
		{impl.Known{}, commit(0), impl.Known{}, false},
		{impl.Known{}, epoch(1, 0), impl.Known{Epoch: 1}, true},
		{impl.Known{}, epoch(60000, 1), impl.Known{Epoch: 60000, Owner: 1}, true},
		{impl.Known{PGen: 1, PText: shortConf}, commit(1), impl.Known{Gen: 1, Text: shortConf}, true},
		// A generation must exceed the committed one; the prepared one is replaced by a lower one, the same or a higher one.
		{full, prep(4, longConf), full, false},
		{full, prep(5, longConf), full, false},
		{full, prep(6, longConf), impl.Known{Gen: 5, Text: shortConf, PGen: 6, PText: longConf, Epoch: 6, Owner: 1}, true},
		{full, prep(7, longConf), impl.Known{Gen: 5, Text: shortConf, PGen: 7, PText: longConf, Epoch: 6, Owner: 1}, true},
		{full, prep(8, longConf), impl.Known{Gen: 5, Text: shortConf, PGen: 8, PText: longConf, Epoch: 6, Owner: 1}, true},
		{full, prep(9, longConf), impl.Known{Gen: 5, Text: shortConf, PGen: 9, PText: longConf, Epoch: 6, Owner: 1}, true},
		{full, prep(60000, shortConf), impl.Known{Gen: 5, Text: shortConf, PGen: 60000, PText: shortConf, Epoch: 6, Owner: 1}, true},
		// Only the prepared generation can be committed.
		{full, commit(4), full, false},
		{full, commit(5), full, false},
		{full, commit(6), full, false},
		{full, commit(7), full, false},
		{full, commit(8), impl.Known{Gen: 8, Text: mainConf, Epoch: 6, Owner: 1}, true},
		{full, commit(9), full, false},
		{full, commit(60000), full, false},
		{without, commit(5), without, false},
		{without, commit(8), without, false},
		{without, commit(0), without, false},
		{full, epoch(5, 0), full, false},
		{full, epoch(6, 0), full, false},
		{full, epoch(6, 1), full, false},
		{full, epoch(7, 0), impl.Known{Gen: 5, Text: shortConf, PGen: 8, PText: mainConf, Epoch: 7}, true},
		{full, epoch(7, 1), impl.Known{Gen: 5, Text: shortConf, PGen: 8, PText: mainConf, Epoch: 7, Owner: 1}, true},
		{full, epoch(60000, 0), impl.Known{Gen: 5, Text: shortConf, PGen: 8, PText: mainConf, Epoch: 60000}, true},
	} {
		if got, ok := impl.Apply(x.k, x.r); got != x.want || ok != x.ok {
			t.Errorf("Apply(%+v, %+v) = %+v, %v, want %+v, %v", x.k, x.r, got, ok, x.want, x.ok)
		}
		checkApply(t, x.k, x.r)
	}
}

func TestApplyAtTheLastGeneration(t *testing.T) {
	k := impl.Known{Gen: 60000, Text: shortConf, Epoch: 60000, Owner: 1}
	for _, r := range []impl.Rec{prep(59999, mainConf), prep(60000, mainConf), prep(60001, mainConf), commit(60000), epoch(60000, 0), epoch(60001, 0), epoch(59999, 0)} {
		if got, ok := impl.Apply(k, r); got != k || ok {
			t.Errorf("Apply(%+v, %+v) = %+v, %v", k, r, got, ok)
		}
	}
	k = impl.Known{Gen: 59999, Text: shortConf, PGen: 60000, PText: mainConf}
	if got, ok := impl.Apply(k, commit(60000)); got != (impl.Known{Gen: 60000, Text: mainConf}) || !ok {
		t.Errorf("%+v, %v", got, ok)
	}
}

func TestApplyOfInvalidArguments(t *testing.T) {
	for _, r := range []impl.Rec{
		{}, {Kind: 4, N: 9}, {Kind: -1, N: 9}, {Kind: 1, N: 9}, prep(9, "bad"), prep(0, shortConf), prep(-9, shortConf), prep(60001, shortConf),
		{Kind: 1, N: 9, Owner: 1, Text: shortConf}, {Kind: 2, N: 8, Owner: 1}, {Kind: 2, N: 8, Text: mainConf}, commit(0), commit(-8), {Kind: 3, N: 9, Text: shortConf},
		epoch(9, 2), epoch(9, -1), epoch(60001, 0), epoch(0, 0), epoch(-1, 1),
	} {
		checkBadRec(t, r)
		checkApply(t, fullKnown(), r)
	}
}

func TestApplyOfAnyFields(t *testing.T) {
	var recs []impl.Rec
	for _, n := range []int{-1, 0, 1, 2, 3, 4, 59999, 60000, 60001} {
		recs = append(recs, prep(n, longConf), prep(n, "bad"), commit(n), epoch(n, 0), epoch(n, 1), epoch(n, 2))
	}
	for _, k := range manyKnowns() {
		for _, r := range recs {
			checkApply(t, k, r)
		}
	}
}

func TestPreparedGenerationIsReplaced(t *testing.T) {
	start := impl.Known{Gen: 2, Text: shortConf}
	for _, second := range []int{3, 4, 5, 6, 7} {
		k := checkApply(t, start, prep(5, mainConf))
		k = checkApply(t, k, prep(second, longConf))
		if k != (impl.Known{Gen: 2, Text: shortConf, PGen: second, PText: longConf}) {
			t.Errorf("%+v", k)
		}
		for n := 1; n <= 8; n++ {
			x, ok := impl.Apply(k, commit(n))
			if n == second && (x != impl.Known{Gen: n, Text: longConf} || !ok) || n != second && (x != k || ok) {
				t.Errorf("commit %d of %d: %+v, %v", n, second, x, ok)
			}
		}
	}
}

// from applies records to the zero state. It reports whether all of them are accepted.
func from(l []impl.Rec) (impl.Known, bool) {
	var k impl.Known
	for _, r := range l {
		next, ok := impl.Apply(k, r)
		if !ok {
			return k, false
		}
		k = next
	}
	return k, true
}

// recsOf is a second definition of RecsOf.
func recsOf(k impl.Known) []impl.Rec {
	var l []impl.Rec
	if k.Gen != 0 {
		l = append(l, prep(k.Gen, k.Text), commit(k.Gen))
	}
	if k.PGen != 0 {
		l = append(l, prep(k.PGen, k.PText))
	}
	if k.Epoch != 0 {
		l = append(l, epoch(k.Epoch, k.Owner))
	}
	return l
}

func checkRecsOf(t *testing.T, k impl.Known) {
	t.Helper()
	want := recsOf(k)
	l := impl.RecsOf(k)
	if !slices.Equal(l, want) {
		t.Errorf("RecsOf(%+v) = %+v, want %+v", k, l, want)
	}
	if x, ok := from(l); isKnown(k) && (x != k || !ok) {
		t.Errorf("the records of %+v produce %+v, %v", k, x, ok)
	}
	for i := range l[:cap(l)] {
		l[:cap(l)][i] = epoch(-1, -1)
	}
	if again := impl.RecsOf(k); !slices.Equal(again, want) {
		t.Errorf("two lists of records share memory: %+v", again)
	}
}

func TestRecsOf(t *testing.T) {
	for _, x := range []struct {
		k    impl.Known
		want []impl.Rec
	}{
		{impl.Known{}, nil},
		{impl.Known{Gen: 7, Text: shortConf}, []impl.Rec{prep(7, shortConf), commit(7)}},
		{impl.Known{PGen: 7, PText: shortConf}, []impl.Rec{prep(7, shortConf)}},
		{impl.Known{Epoch: 7}, []impl.Rec{epoch(7, 0)}},
		{impl.Known{Epoch: 7, Owner: 1}, []impl.Rec{epoch(7, 1)}},
		{impl.Known{Gen: 1, Text: shortConf, PGen: 2, PText: mainConf}, []impl.Rec{prep(1, shortConf), commit(1), prep(2, mainConf)}},
		{impl.Known{Gen: 1, Text: shortConf, Epoch: 1}, []impl.Rec{prep(1, shortConf), commit(1), epoch(1, 0)}},
		{impl.Known{PGen: 60000, PText: longConf, Epoch: 60000, Owner: 1}, []impl.Rec{prep(60000, longConf), epoch(60000, 1)}},
		{fullKnown(), []impl.Rec{prep(5, shortConf), commit(5), prep(8, mainConf), epoch(6, 1)}},
	} {
		if l := impl.RecsOf(x.k); !slices.Equal(l, x.want) {
			t.Errorf("RecsOf(%+v) = %+v", x.k, l)
		}
		checkRecsOf(t, x.k)
	}
}

// Only Gen, PGen and Epoch decide which records there are: neither the texts, nor the owner, nor the validity of the state.
func TestRecsOfAnInvalidState(t *testing.T) {
	for _, x := range []struct {
		k    impl.Known
		want []impl.Rec
	}{
		// A number without a text, or with one that is not a configuration.
		{impl.Known{Gen: 1}, []impl.Rec{prep(1, ""), commit(1)}},
		{impl.Known{Gen: 1, Text: "bad"}, []impl.Rec{prep(1, "bad"), commit(1)}},
		{impl.Known{Gen: 60000, Epoch: 3, Owner: 1}, []impl.Rec{prep(60000, ""), commit(60000), epoch(3, 1)}},
		{impl.Known{PGen: 1}, []impl.Rec{prep(1, "")}},
		{impl.Known{Epoch: 1, PGen: 1, PText: "\xff"}, []impl.Rec{prep(1, "\xff"), epoch(1, 0)}},
		// A text or an owner without a number.
		{impl.Known{Text: shortConf}, nil},
		{impl.Known{PText: shortConf}, nil},
		{impl.Known{Owner: 1}, nil},
		{impl.Known{Text: "bad", PText: "bad", Owner: -1}, nil},
		{impl.Known{Text: shortConf, Epoch: 5}, []impl.Rec{epoch(5, 0)}},
		{impl.Known{PText: shortConf, Epoch: 5, Owner: 1}, []impl.Rec{epoch(5, 1)}},
		{impl.Known{Gen: 1, Text: shortConf, Owner: 1}, []impl.Rec{prep(1, shortConf), commit(1)}},
		{impl.Known{Gen: 1, Text: shortConf, PText: shortConf}, []impl.Rec{prep(1, shortConf), commit(1)}},
		{impl.Known{PGen: 2, PText: mainConf, Owner: -1}, []impl.Rec{prep(2, mainConf)}},
		// An owner that there is not.
		{impl.Known{Epoch: 1, Owner: 2}, []impl.Rec{epoch(1, 2)}},
		{impl.Known{Epoch: 1, Owner: -1}, []impl.Rec{epoch(1, -1)}},
		// Numbers out of range.
		{impl.Known{Gen: -1}, []impl.Rec{prep(-1, ""), commit(-1)}},
		{impl.Known{Gen: -1, Epoch: 4, Owner: 1}, []impl.Rec{prep(-1, ""), commit(-1), epoch(4, 1)}},
		{impl.Known{Gen: 60001, Text: shortConf}, []impl.Rec{prep(60001, shortConf), commit(60001)}},
		{impl.Known{PGen: -1, PText: shortConf}, []impl.Rec{prep(-1, shortConf)}},
		{impl.Known{PGen: 60001, PText: shortConf}, []impl.Rec{prep(60001, shortConf)}},
		{impl.Known{Epoch: -1}, []impl.Rec{epoch(-1, 0)}},
		{impl.Known{Epoch: 60001}, []impl.Rec{epoch(60001, 0)}},
		{
			impl.Known{Gen: math.MinInt64, PGen: math.MaxInt64, Epoch: math.MinInt64, Owner: math.MaxInt64},
			[]impl.Rec{prep(math.MinInt64, ""), commit(math.MinInt64), prep(math.MaxInt64, ""), epoch(math.MinInt64, math.MaxInt64)},
		},
		// A prepared generation that does not exceed the committed one.
		{impl.Known{Gen: 2, Text: shortConf, PGen: 2, PText: mainConf}, []impl.Rec{prep(2, shortConf), commit(2), prep(2, mainConf)}},
		{impl.Known{Gen: 2, Text: shortConf, PGen: 1, PText: mainConf}, []impl.Rec{prep(2, shortConf), commit(2), prep(1, mainConf)}},
	} {
		if l := impl.RecsOf(x.k); !slices.Equal(l, x.want) {
			t.Errorf("RecsOf(%+v) = %+v, want %+v", x.k, l, x.want)
		}
		checkKnown(t, x.k, false)
	}
}

func TestKnownIsWhatItsRecordsProduce(t *testing.T) {
	r := rand.New(rand.NewSource(5))
	texts := append(goodTexts(), "bad")
	commits := 0
	for range 300 {
		var k impl.Known
		var kept []impl.Rec
		for range 60 {
			x := impl.Rec{Kind: r.Intn(5), N: r.Intn(40)}
			switch {
			case x.Kind == impl.RePrep:
				x.Text = texts[r.Intn(len(texts))]
			case x.Kind == impl.ReCommit && r.Intn(2) == 0:
				x.N = k.PGen
			case x.Kind == impl.ReEpoch:
				x.Owner = r.Intn(3)
			}
			next, ok := impl.Apply(k, x)
			checkApply(t, k, x)
			if ok {
				kept = append(kept, x)
			}
			if ok && x.Kind == impl.ReCommit {
				commits++
			}
			k = next
			checkKnown(t, k, true)
		}
		if again, ok := from(kept); again != k || !ok {
			t.Errorf("the same records produce %+v and %+v", k, again)
		}
	}
	if commits < 300 {
		t.Error("too few commits", commits)
	}
}
