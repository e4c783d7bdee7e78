package tests

import (
	"bytes"
	"encoding/binary"
	"fmt"
	"math"
	"math/rand"
	"slices"
	"testing"

	"loop.example/g00482/impl"
)

// headPlace and recPlace say where a head and a record are: the even generations have sectors 0 and 2 to 19, the odd ones 1 and 20 to 37.
func headPlace(g int) int {
	return g & 1
}

func recPlace(g, place int) int {
	if g&1 == 0 {
		return 2 + place
	}
	return 20 + place
}

// rawHead encodes any head, also an invalid one.
func rawHead(g, n int) []byte {
	b := binary.BigEndian.AppendUint16(nil, uint16(g))
	return withSum(binary.BigEndian.AppendUint16(b, uint16(n)))
}

func isHead(g, n int) bool {
	return someGen(g) && n >= 0 && n <= 18
}

// readHead is a second definition of GetHead.
func readHead(b []byte) (int, int, bool) {
	if len(b) != 6 || !bytes.Equal(withSum(b[:4]), b) {
		return 0, 0, false
	}
	g, n := int(b[0])*256+int(b[1]), int(b[2])*256+int(b[3])
	if !isHead(g, n) {
		return 0, 0, false
	}
	return g, n, true
}

// otherReplay is a second definition of Replay.
func otherReplay(d impl.Disk, g int) (impl.Known, int) {
	k, count := impl.Known{}, 0
	for someGen(g) && count < 18 {
		gen, place, r, ok := readRec(impl.ReadSec(d, recPlace(g, count)))
		next, applies := nextKnown(k, r)
		if !ok || !applies || gen != g || place != count {
			break
		}
		k, count = next, count+1
	}
	return k, count
}

// otherOpen is a second definition of OpenJour.
func otherOpen(d impl.Disk) (impl.Jour, bool) {
	var l []impl.Jour
	for sec := range 2 {
		g, n, ok := readHead(impl.ReadSec(d, sec))
		k, count := otherReplay(d, g)
		if ok && g%2 == sec && count >= n && impl.DiskOk(d) && len(d.Secs) == 38 {
			l = append(l, impl.Jour{K: k, G: g, Place: count})
		}
	}
	if len(l) == 0 {
		return impl.Jour{}, false
	}
	return slices.MaxFunc(l, func(a, b impl.Jour) int { return a.G - b.G }), true
}

// otherAdd is a second definition of AddRec. After a power failure, the operations that follow have no effect.
func otherAdd(d impl.Disk, r impl.Rec) (impl.Disk, bool) {
	j, open := otherOpen(d)
	_, applies := nextKnown(j.K, r)
	if !open || !applies || d.Down || j.Place == 18 && j.G == 60000 {
		return d, false
	}
	g, place := j.G, j.Place
	if place == 18 {
		g, place = g+1, 0
		for _, x := range recsOf(j.K) {
			d = impl.WriteSec(d, recPlace(g, place), rawRec(g, place, x))
			place++
		}
		d = impl.SyncDisk(impl.WriteSec(impl.SyncDisk(d), headPlace(g), rawHead(g, place)))
	}
	d = impl.SyncDisk(impl.WriteSec(d, recPlace(g, place), rawRec(g, place, r)))
	return d, !d.Down
}

// withGen returns d with these records of generation g and with its head, which states n of them.
func withGen(d impl.Disk, g, n int, l []impl.Rec) impl.Disk {
	d = impl.FallDisk(d, 0)
	d.Secs[headPlace(g)] = rawHead(g, n)
	for i, r := range l {
		d.Secs[recPlace(g, i)] = rawRec(g, i, r)
	}
	return d
}

func genOf(g, n int, l []impl.Rec) impl.Disk {
	return withGen(impl.DiskNew(38), g, n, l)
}

// epochs returns the first n records of a history of epochs.
func epochs(n int) []impl.Rec {
	var l []impl.Rec
	for i := range n {
		l = append(l, epoch(i+1, i%2))
	}
	return l
}

// history returns n records that produce k, which has a generation, or else an epoch from n on.
func history(k impl.Known, n int) []impl.Rec {
	l := recsOf(k)
	for len(l) < n {
		more := prep(max(k.Gen, k.PGen), longConf)
		if k.Gen != 0 {
			more = prep(k.Gen, longConf)
		} else if k.PGen == 0 {
			more = epoch(l[0].N-1, 0)
		}
		l = slices.Insert(l, 0, more)
	}
	return l
}

// fullKnowns returns states of each number of records that RecsOf returns, which 18 records can produce.
func fullKnowns() []impl.Known {
	return []impl.Known{
		{Epoch: 18, Owner: 1},
		{PGen: 7, PText: longConf},
		{Gen: 7, Text: longConf},
		{PGen: 59999, PText: mainConf, Epoch: 3},
		{Gen: 3, Text: shortConf, PGen: 4, PText: mainConf},
		{Gen: 59999, Text: mainConf, Epoch: 59999, Owner: 1},
		fullKnown(),
	}
}

// fullDisk returns a disk on which generation g is full, with the state k, and the one before it too, with another state.
func fullDisk(g int, k impl.Known) impl.Disk {
	if g == 1 {
		return genOf(1, 0, history(k, 18))
	}
	return withGen(genOf(g-1, 2, epochs(18)), g, len(recsOf(k)), history(k, 18))
}

// nextRecs returns records that Apply accepts in the state k.
func nextRecs(k impl.Known) []impl.Rec {
	l := []impl.Rec{epoch(k.Epoch+1, 0), epoch(k.Epoch+1, 1), prep(k.Gen+1, longConf)}
	if k.PGen != 0 {
		l = append(l, commit(k.PGen))
	}
	return l
}

// badRecs returns records that are invalid or that Apply does not accept in the state k.
func badRecs(k impl.Known) []impl.Rec {
	return []impl.Rec{
		{}, {Kind: 4, N: 60000}, prep(60000, "bad"), prep(60001, shortConf), prep(0, shortConf), epoch(60000, 2), epoch(60001, 0), epoch(-1, 0), commit(60001), commit(-1),
		{Kind: impl.ReCommit, N: k.PGen, Owner: 1}, {Kind: impl.ReEpoch, N: 60000, Text: shortConf},
		prep(k.Gen, shortConf), prep(k.Gen-1, shortConf), epoch(k.Epoch, 1-k.Owner), epoch(k.Epoch-1, 0), commit(k.PGen + 1), commit(k.PGen - 1), commit(0),
	}
}

func TestJournalLimits(t *testing.T) {
	if impl.Area != 18 {
		t.Error(impl.Area)
	}
}

// checkHead checks the head of any g and n, and what GetHead makes of the bytes that it would have.
func checkHead(t *testing.T, g, n int) {
	t.Helper()
	want := []byte{}
	if isHead(g, n) {
		want = rawHead(g, n)
	}
	got := impl.HeadOf(g, n)
	if !bytes.Equal(got, want) {
		t.Errorf("HeadOf(%d, %d) = %x, want %x", g, n, got, want)
	}
	checkGetHead(t, want)
	checkGetHead(t, rawHead(g, n))
	for i := range got[:cap(got)] {
		got[:cap(got)][i] ^= 0xFF
	}
	if again := impl.HeadOf(g, n); !bytes.Equal(again, want) {
		t.Errorf("two heads of %d, %d share memory", g, n)
	}
}

// checkGetHead compares GetHead with readHead, and checks that it writes nothing.
func checkGetHead(t *testing.T, b []byte) {
	t.Helper()
	arg, whole := roomy(string(b), 4)
	before := string(whole)
	g, n, ok := impl.GetHead(arg)
	wantG, wantN, wantOk := readHead(b)
	if g != wantG || n != wantN || ok != wantOk {
		t.Errorf("GetHead(%x) = %d, %d, %v, want %d, %d, %v", b, g, n, ok, wantG, wantN, wantOk)
	}
	if string(whole) != before {
		t.Errorf("GetHead wrote to %x", b)
	}
}

func checkNoHead(t *testing.T, b []byte) {
	t.Helper()
	if g, n, ok := impl.GetHead(b); g != 0 || n != 0 || ok {
		t.Errorf("GetHead(%x) = %d, %d, %v", b, g, n, ok)
	}
}

func TestHeadBytes(t *testing.T) {
	for _, x := range []struct {
		g, n int
		want string
	}{
		{2, 1, "\x00\x02\x00\x01"}, {1, 0, "\x00\x01\x00\x00"}, {258, 18, "\x01\x02\x00\x12"}, {60000, 7, "\xea\x60\x00\x07"},
	} {
		want := withSum([]byte(x.want))
		if got := impl.HeadOf(x.g, x.n); !bytes.Equal(got, want) {
			t.Errorf("HeadOf(%d, %d) = %x, want %x", x.g, x.n, got, want)
		}
		if g, n, ok := impl.GetHead(want); g != x.g || n != x.n || !ok {
			t.Errorf("GetHead(%x) = %d, %d, %v", want, g, n, ok)
		}
	}
	for _, x := range [][2]int{{0, 0}, {0, 1}, {-1, 0}, {60001, 0}, {1, -1}, {1, 19}, {60000, 19}, {0, 19}} {
		if b := impl.HeadOf(x[0], x[1]); len(b) != 0 {
			t.Errorf("HeadOf(%d, %d) = %x", x[0], x[1], b)
		}
	}
}

func TestHeadsOfAnyNumbers(t *testing.T) {
	for _, g := range append(oddNumbers(), 0, 1, 2, 255, 256, 59999, 60000) {
		for _, n := range append(oddNumbers(), 0, 1, 2, 17, 18, 19, 20, 255, 256, 274) {
			checkHead(t, g, n)
		}
	}
	for g := -2; g <= 65538; g++ {
		checkHead(t, g, (g+38)%19)
	}
	for n := -2; n <= 65538; n++ {
		checkHead(t, 515, n)
	}
}

func TestGetHeadOfChangedBytes(t *testing.T) {
	for _, full := range [][]byte{rawHead(1, 0), rawHead(258, 18), rawHead(60000, 9)} {
		for i := range full {
			checkNoHead(t, full[:i])
			checkNoHead(t, full[:i:i])
			checkNoHead(t, full[i+1:])
			checkNoHead(t, slices.Delete(slices.Clone(full), i, i+1))
			for x := range 256 {
				b := slices.Clone(full)
				b[i] = byte(x)
				if byte(x) != full[i] {
					checkNoHead(t, b)
				}
				checkGetHead(t, withSum(b[:4]))
			}
		}
		for i := range len(full) + 1 {
			for x := range 256 {
				checkNoHead(t, slices.Insert(slices.Clone(full), i, byte(x)))
				checkGetHead(t, withSum(slices.Insert(slices.Clone(full[:4]), min(i, 4), byte(x))))
			}
		}
		checkNoHead(t, append(slices.Clone(full), full...))
		checkNoHead(t, append(slices.Clone(full), make([]byte, 154)...))
		checkNoHead(t, withSum(full))
	}
	for size := range 10 {
		checkGetHead(t, withSum(make([]byte, size)))
		checkNoHead(t, make([]byte, size))
	}
	checkNoHead(t, nil)
}

func TestGetHeadWithAWrongSum(t *testing.T) {
	full := rawHead(3, 4)
	for sum := range 65536 {
		b := binary.BigEndian.AppendUint16(slices.Clone(full[:4]), uint16(sum))
		if bytes.Equal(b, full) {
			checkGetHead(t, b)
		} else {
			checkNoHead(t, b)
		}
	}
}

// checkDiskKept calls a function that reads a disk, twice, and checks that it writes nothing and has the same result.
func checkDiskKept[T comparable](t *testing.T, name string, d impl.Disk, want T, do func(impl.Disk) T) {
	t.Helper()
	arg := roomyDisk(d)
	before := textOf(stretched(arg))
	if got := do(arg); got != want {
		t.Errorf("%s: got %+v, want %+v", name, got, want)
	}
	if got := do(arg); got != want {
		t.Errorf("%s: got %+v the second time, want %+v", name, got, want)
	}
	if textOf(stretched(arg)) != before {
		t.Errorf("%s wrote to its argument", name)
	}
}

type replayed struct {
	k impl.Known
	n int
}

func checkReplay(t *testing.T, name string, d impl.Disk, g int, k impl.Known, n int) {
	t.Helper()
	checkDiskKept(t, fmt.Sprintf("%s, Replay of %d", name, g), d, replayed{k, n}, func(d impl.Disk) replayed {
		k, n := impl.Replay(d, g)
		return replayed{k, n}
	})
	if otherK, otherN := otherReplay(d, g); otherK != k || otherN != n {
		t.Errorf("%s: the second definition says %+v, %d", name, otherK, otherN)
	}
}

type opened struct {
	j  impl.Jour
	ok bool
}

func checkOpen(t *testing.T, name string, d impl.Disk, j impl.Jour, ok bool) {
	t.Helper()
	checkDiskKept(t, name+", OpenJour", d, opened{j, ok}, func(d impl.Disk) opened {
		j, ok := impl.OpenJour(d)
		return opened{j, ok}
	})
	if other, otherOk := otherOpen(d); other != j || otherOk != ok {
		t.Errorf("%s: the second definition says %+v, %v", name, other, otherOk)
	}
}

// checkClosed checks that there is no journal on d, and so no place for a record that any state accepts.
func checkClosed(t *testing.T, name string, d impl.Disk) {
	t.Helper()
	checkOpen(t, name, d, impl.Jour{}, false)
	checkAdd(t, name, d, epoch(60000, 1), d, false)
}

// checkAdd compares AddRec with the disk and the result that it should have.
func checkAdd(t *testing.T, name string, d impl.Disk, r impl.Rec, want impl.Disk, wantOk bool) {
	t.Helper()
	name = fmt.Sprintf("%s, AddRec of %+v", name, r)
	checkDisk(t, name, d, want, func(d impl.Disk) impl.Disk {
		x, ok := impl.AddRec(d, r)
		if ok != wantOk {
			t.Errorf("%s: %v, want %v", name, ok, wantOk)
		}
		return x
	})
	if x, ok := otherAdd(d, r); textOf(x) != textOf(want) || ok != wantOk {
		t.Errorf("%s: the second definition says %v, %s", name, ok, textOf(x))
	}
}

// checkRefused checks that r is not added, that the disk stays as it is, and that no operation is taken from its fuse.
func checkRefused(t *testing.T, name string, d impl.Disk, r impl.Rec) {
	t.Helper()
	checkAdd(t, name, d, r, d, false)
	if d.Fuse != -1 {
		return
	}
	for _, fuse := range []int{0, 1, 1000} {
		d.Fuse = fuse
		checkAdd(t, name, d, r, d, false)
	}
}

func TestReplayOfEachNumberOfRecords(t *testing.T) {
	for _, g := range []int{1, 2, 3, 255, 256, 30000, 59999, 60000} {
		for n := range 19 {
			d := genOf(g, 0, epochs(n))
			k, _ := from(epochs(n))
			checkReplay(t, "epochs", d, g, k, n)
			checkReplay(t, "the generation before", d, g-1, impl.Known{}, 0)
			checkReplay(t, "the generation behind", d, g+1, impl.Known{}, 0)
			checkReplay(t, "two behind", d, g+2, impl.Known{}, 0)
			checkReplay(t, "two before", d, g-2, impl.Known{}, 0)
		}
		for _, k := range fullKnowns() {
			checkReplay(t, "a full generation", fullDisk(g, k), g, k, 18)
		}
	}
}

func TestReplayOfBadGenerations(t *testing.T) {
	for _, g := range append(oddNumbers(), 0) {
		d := impl.DiskNew(38)
		for i, r := range epochs(18) {
			d.Secs[2+i] = rawRec(g, i, r)
			d.Secs[20+i] = rawRec(g, i, r)
		}
		checkReplay(t, "a full disk", d, g, impl.Known{}, 0)
		checkReplay(t, "an empty disk", impl.DiskNew(38), g, impl.Known{}, 0)
		checkReplay(t, "no disk", impl.Disk{}, g, impl.Known{}, 0)
	}
}

// spoilt returns bytes that do not continue generation g at this position, where the record is that of an epoch with this number.
func spoilt(g, place, n int) map[string][]byte {
	good := rawRec(g, place, epoch(n, 0))
	bad := map[string][]byte{
		"empty":                    {},
		"zeros":                    make([]byte, 11),
		"cut":                      good[:10],
		"longer":                   append(slices.Clone(good), 0),
		"a head":                   rawHead(g, place),
		"a wrong sum":              append(slices.Clone(good[:10]), good[10]^1),
		"an invalid record":        rawRec(g, place, epoch(n, 2)),
		"a kind that there is not": rawRec(g, place, impl.Rec{Kind: 4, N: n}),
		"not above":                rawRec(g, place, epoch(n-1, 1)),
		"nothing to commit":        rawRec(g, place, commit(n)),
		"the position before":      rawRec(g, place-1, epoch(n, 0)),
		"the position behind":      rawRec(g, place+1, epoch(n, 0)),
		"18 positions behind":      rawRec(g, place+18, epoch(n, 0)),
		"position 65535":           rawRec(g, 65535, epoch(n, 0)),
	}
	for _, other := range []int{0, g - 1, g - 2, g + 1, g + 2, g + 256, 65535} {
		if other != g {
			bad[fmt.Sprint("generation ", other)] = rawRec(other, place, epoch(n, 0))
		}
	}
	for i := range good {
		b := slices.Clone(good)
		b[i] ^= 0x10
		bad[fmt.Sprint("another byte ", i)] = b
	}
	return bad
}

func TestReplayStops(t *testing.T) {
	for _, g := range []int{1, 2, 3, 4, 59999, 60000} {
		for _, place := range []int{0, 1, 8, 16, 17} {
			k, _ := from(epochs(place))
			for why, b := range spoilt(g, place, place+1) {
				name := fmt.Sprint(why, " at ", place)
				d := genOf(g, place, epochs(18))
				d.Secs[recPlace(g, place)] = b
				checkReplay(t, name, d, g, k, place)
				checkOpen(t, name, d, impl.Jour{K: k, G: g, Place: place}, true)
				checkReplay(t, name+", cached", impl.WriteSec(genOf(g, place, epochs(18)), recPlace(g, place), b), g, k, place)
			}
		}
	}
}

// Records behind one that does not count must not count, even if they would apply without it.
func TestReplayStopsForGood(t *testing.T) {
	l := []impl.Rec{prep(1, shortConf), commit(2), commit(1), epoch(1, 1), epoch(1, 0), epoch(2, 0)}
	d := genOf(1, 0, l)
	checkReplay(t, "a commit of another one", d, 1, impl.Known{PGen: 1, PText: shortConf}, 1)
	d.Secs[recPlace(1, 1)] = rawRec(1, 1, commit(1))
	checkReplay(t, "a second commit", d, 1, impl.Known{Gen: 1, Text: shortConf}, 2)
	d.Secs[recPlace(1, 2)] = rawRec(1, 2, prep(2, mainConf))
	checkReplay(t, "an epoch twice", d, 1, impl.Known{Gen: 1, Text: shortConf, PGen: 2, PText: mainConf, Epoch: 1, Owner: 1}, 4)
	d.Secs[recPlace(1, 4)] = rawRec(1, 4, commit(2))
	checkReplay(t, "all", d, 1, impl.Known{Gen: 2, Text: mainConf, Epoch: 2}, 6)
}

// resized returns d with n sectors.
func resized(d impl.Disk, n int) impl.Disk {
	d = impl.FallDisk(d, 0)
	for len(d.Secs) < n {
		d.Secs = append(d.Secs, nil)
	}
	d.Secs = d.Secs[:n]
	return d
}

func TestReplayOfOtherDisks(t *testing.T) {
	for _, g := range []int{1, 2, 59999, 60000} {
		for size := 1; size <= 40; size++ {
			d := resized(genOf(g, 0, epochs(18)), size)
			n := min(max(size-recPlace(g, 0), 0), 18)
			k, _ := from(epochs(n))
			checkReplay(t, fmt.Sprint(size, " sectors"), d, g, k, n)
		}
		for name, d := range badJournals(genOf(g, 0, epochs(18))) {
			checkReplay(t, name, d, g, impl.Known{}, 0)
		}
	}
}

// badJournals are copies of d that are not valid disks for one reason each. What the journal needs is the same in all of them.
func badJournals(d impl.Disk) map[string]impl.Disk {
	bad := map[string]impl.Disk{"no disk": {}}
	for _, fuse := range []int{-2, 1001, math.MinInt64, math.MaxInt64} {
		x := impl.FallDisk(d, 0)
		x.Fuse = fuse
		bad[fmt.Sprint("fuse ", fuse)] = x
	}
	for name, w := range map[string]impl.Wr{"write behind the last": wr(38, ""), "write before the first": wr(-1, ""), "write too long": wr(0, long(161))} {
		x := impl.FallDisk(d, 0)
		x.Cache = []impl.Wr{w, {N: 0, B: x.Secs[0]}}
		bad[name] = x
	}
	for sec := range 38 {
		if len(d.Secs[sec]) == 0 {
			x := impl.FallDisk(d, 0)
			x.Secs[sec] = []byte(long(161))
			bad[fmt.Sprint("too long sector ", sec)] = x
		}
	}
	x := impl.FallDisk(d, 0)
	for range 31 {
		x.Cache = append(x.Cache, impl.Wr{N: 0, B: x.Secs[0]})
	}
	bad["31 writes"] = x
	bad["41 sectors"] = impl.Disk{Secs: append(impl.FallDisk(d, 0).Secs, nil, nil, nil), Fuse: -1}
	return bad
}

func TestFormat(t *testing.T) {
	want := impl.DiskNew(38)
	want.Secs[1] = rawHead(1, 0)
	d := impl.Format()
	if textOf(d) != textOf(want) || !impl.DiskOk(d) {
		t.Errorf("Format() = %s", textOf(d))
	}
	checkOpen(t, "a new journal", d, impl.Jour{G: 1}, true)
	checkReplay(t, "a new journal", d, 1, impl.Known{}, 0)
	checkApart(t, "Format", d)
	if again := impl.Format(); textOf(again) != textOf(want) {
		t.Errorf("two new disks share memory: %s", textOf(again))
	}
}

func TestOpenJourOfOneHead(t *testing.T) {
	for _, g := range []int{1, 2, 256, 59999, 60000} {
		for _, count := range []int{0, 1, 2, 9, 17, 18} {
			k, _ := from(epochs(count))
			for n := range 19 {
				name := fmt.Sprint(count, " records of which ", n, " are stated")
				d := genOf(g, n, epochs(count))
				if n <= count {
					checkOpen(t, name, d, impl.Jour{K: k, G: g, Place: count}, true)
				} else {
					checkClosed(t, name, d)
				}
			}
			d := genOf(g, 0, epochs(count))
			for _, b := range [][]byte{{}, rawHead(g, 19), rawHead(0, 0), rawHead(60001, 0), rawHead(g+1, 0), rawHead(g, 0)[:5], append(rawHead(g, 0), 0), rawRec(g, 0, epoch(1, 0))} {
				d.Secs[headPlace(g)] = b
				checkClosed(t, fmt.Sprintf("head %x", b), d)
			}
		}
	}
	checkClosed(t, "no head", impl.DiskNew(38))
}

func TestOpenJourOfTheOtherParity(t *testing.T) {
	for _, g := range []int{1, 2, 59999, 60000} {
		d := genOf(g, 3, epochs(5))
		k, _ := from(epochs(5))
		own, other := headPlace(g), 1-headPlace(g)
		d.Secs[other] = d.Secs[own]
		checkOpen(t, "a head in both sectors", d, impl.Jour{K: k, G: g, Place: 5}, true)
		d.Secs[own] = nil
		checkClosed(t, "a head in the other sector", d)
	}
	d := withGen(genOf(1, 0, epochs(5)), 2, 0, epochs(7))
	d.Secs[0], d.Secs[1] = d.Secs[1], d.Secs[0]
	checkClosed(t, "both heads in the other sector", d)
}

// checkBothHeads checks a disk with a records of generation g and b records of generation next, which is greater.
func checkBothHeads(t *testing.T, g, next, a, b int) {
	t.Helper()
	d := withGen(genOf(g, a, epochs(a)), next, b, epochs(b))
	k, _ := from(epochs(a))
	old := impl.Jour{K: k, G: g, Place: a}
	k, _ = from(epochs(b))
	last := impl.Jour{K: k, G: next, Place: b}
	checkOpen(t, "both count", d, last, true)
	if a < 18 {
		checkOpen(t, "the smaller one lacks a record", withGen(d, g, a+1, nil), last, true)
	}
	if b < 18 {
		checkOpen(t, "the greater one lacks a record", withGen(d, next, b+1, nil), old, true)
	}
	if a < 18 && b < 18 {
		checkClosed(t, "both lack a record", withGen(withGen(d, g, a+1, nil), next, b+1, nil))
	}
}

func TestOpenJourOfBothHeads(t *testing.T) {
	for _, x := range [][2]int{{1, 2}, {1, 4}, {2, 3}, {255, 256}, {256, 511}, {1, 60000}, {2, 59999}, {59998, 59999}, {59999, 60000}} {
		for _, a := range []int{0, 1, 17, 18} {
			for _, b := range []int{0, 1, 17, 18} {
				checkBothHeads(t, x[0], x[1], a, b)
			}
		}
	}
}

func TestOpenJourOfCachedWrites(t *testing.T) {
	d := genOf(1, 0, epochs(2))
	old, _ := impl.OpenJour(d)
	steps := []struct {
		sec  int
		b    []byte
		want impl.Jour
	}{
		{recPlace(1, 2), rawRec(1, 2, epoch(9, 1)), impl.Jour{K: impl.Known{Epoch: 9, Owner: 1}, G: 1, Place: 3}},
		{recPlace(2, 0), rawRec(2, 0, epoch(5, 0)), impl.Jour{K: impl.Known{Epoch: 9, Owner: 1}, G: 1, Place: 3}},
		{headPlace(2), rawHead(2, 2), impl.Jour{K: impl.Known{Epoch: 9, Owner: 1}, G: 1, Place: 3}},
		{recPlace(2, 1), rawRec(2, 1, epoch(6, 1)), impl.Jour{K: impl.Known{Epoch: 6, Owner: 1}, G: 2, Place: 2}},
		{recPlace(2, 1), rawRec(2, 1, epoch(5, 1)), impl.Jour{K: impl.Known{Epoch: 9, Owner: 1}, G: 1, Place: 3}},
		{headPlace(2), rawHead(2, 1), impl.Jour{K: impl.Known{Epoch: 5}, G: 2, Place: 1}},
		{headPlace(2), nil, impl.Jour{K: impl.Known{Epoch: 9, Owner: 1}, G: 1, Place: 3}},
	}
	for i, x := range steps {
		d = impl.WriteSec(d, x.sec, x.b)
		name := fmt.Sprint(i+1, " cached writes")
		checkOpen(t, name, d, x.want, true)
		checkOpen(t, name+", down", downOf(d), x.want, true)
		checkOpen(t, name+", synced", impl.SyncDisk(d), x.want, true)
		checkOpen(t, name+", lost", impl.FallDisk(d, 0), old, true)
	}
	d = impl.WriteSec(d, headPlace(1), nil)
	checkClosed(t, "both heads overwritten", d)
	for keep := range 1 << len(d.Cache) {
		x := impl.FallDisk(d, keep)
		j, ok := otherOpen(x)
		checkOpen(t, fmt.Sprint("kept ", keep), x, j, ok)
	}
}

func TestOpenJourOfOtherDisks(t *testing.T) {
	for _, g := range []int{1, 2, 59999, 60000} {
		good := genOf(g, 1, epochs(4))
		for size := 1; size <= 40; size++ {
			if size != 38 {
				checkClosed(t, fmt.Sprint(size, " sectors"), resized(good, size))
			}
		}
		for name, d := range badJournals(good) {
			checkClosed(t, name, d)
			checkClosed(t, name+", down", downOf(d))
		}
		k, _ := from(epochs(4))
		for _, fuse := range []int{-1, 0, 1, 1000} {
			x := good
			x.Fuse = fuse
			checkOpen(t, "any fuse", x, impl.Jour{K: k, G: g, Place: 4}, true)
			checkOpen(t, "any fuse, down", downOf(x), impl.Jour{K: k, G: g, Place: 4}, true)
		}
	}
}

func TestAddRecAtEachPlace(t *testing.T) {
	for _, g := range []int{1, 2, 3, 59998, 59999, 60000} {
		d := fullDisk(g, fullKnown())
		d = withGen(d, g, 4, recsOf(fullKnown()))
		for place := 4; place < 18; place++ {
			clear(d.Secs[recPlace(g, place) : recPlace(g, 17)+1])
			d.Secs[recPlace(g, 17)] = rawRec(max(g-2, 0), 17, epoch(9, 1))
			k, _ := otherReplay(d, g)
			r := nextRecs(k)[place%3]
			want := impl.FallDisk(d, 0)
			want.Secs[recPlace(g, place)] = rawRec(g, place, r)
			checkAdd(t, fmt.Sprint("place ", place, " of ", g), d, r, want, true)
			next, _ := nextKnown(k, r)
			checkOpen(t, "with the record", want, impl.Jour{K: next, G: g, Place: place + 1}, true)
			d = want
		}
	}
}

func TestAddRecStartsAGeneration(t *testing.T) {
	for _, g := range []int{1, 2, 3, 255, 59998, 59999} {
		for _, k := range fullKnowns() {
			d := fullDisk(g, k)
			checkOpen(t, "full", d, impl.Jour{K: k, G: g, Place: 18}, true)
			for _, r := range nextRecs(k) {
				l := recsOf(k)
				want := withGen(d, g+1, len(l), append(slices.Clone(l), r))
				checkAdd(t, fmt.Sprint("generation ", g), d, r, want, true)
				next, _ := nextKnown(k, r)
				checkOpen(t, "a new generation", want, impl.Jour{K: next, G: g + 1, Place: len(l) + 1}, true)
				checkReplay(t, "the old generation", want, g, k, 18)
			}
		}
	}
}

func TestAddRecAtTheLastGeneration(t *testing.T) {
	for _, k := range fullKnowns() {
		d := fullDisk(60000, k)
		checkOpen(t, "the last generation", d, impl.Jour{K: k, G: 60000, Place: 18}, true)
		for _, r := range append(nextRecs(k), badRecs(k)...) {
			checkRefused(t, "the last generation", d, r)
			checkRefused(t, "the last generation, down", downOf(d), r)
		}
	}
	d := genOf(60000, 0, epochs(17))
	d, ok := impl.AddRec(d, prep(1, shortConf))
	if _, again := impl.AddRec(d, prep(1, shortConf)); !ok || again {
		t.Error("the last place of the last generation", ok, again)
	}
}

func TestAddRecRefusesBadRecs(t *testing.T) {
	for _, g := range []int{1, 2, 60000} {
		d := genOf(g, 0, nil)
		for _, r := range append(badRecs(impl.Known{}), commit(1)) {
			checkRefused(t, "an empty generation", d, r)
		}
	}
	for i, k := range fullKnowns() {
		d := genOf(1+i%2, 0, recsOf(k))
		for _, r := range badRecs(k) {
			checkRefused(t, "a record that is not accepted", d, r)
			checkRefused(t, "a record that is not accepted, full", fullDisk(59998+i%2, k), r)
		}
	}
}

func TestAddRecRefusesWhenDown(t *testing.T) {
	for i, k := range fullKnowns() {
		g, place := 1+i%2, len(recsOf(k))
		d := genOf(g, 0, recsOf(k))
		for _, r := range nextRecs(k) {
			checkRefused(t, "down", downOf(d), r)
			checkRefused(t, "down, full", downOf(fullDisk(g, k)), r)
			checkRefused(t, "down, with the record cached", downOf(impl.WriteSec(d, recPlace(g, place), rawRec(g, place, r))), r)
		}
	}
}

// A record that is refused leaves no trace: the state is the one before it, or the one with the record at which power had failed.
func TestRefusedRecsAreNotKnown(t *testing.T) {
	for i, k := range fullKnowns() {
		for _, d := range []impl.Disk{genOf(1+i%2, 0, recsOf(k)), fullDisk(1+i%2, k)} {
			first := nextRecs(k)[i%3]
			with, _ := nextKnown(k, first)
			d.Fuse = operations(d) - 1
			down, _ := impl.AddRec(d, first)
			d.Fuse = -1
			for _, r := range append(nextRecs(k), badRecs(k)...) {
				x, ok := impl.AddRec(down, r)
				if ok || textOf(x) != textOf(down) || len(x.Cache) != 1 {
					t.Errorf("down, %+v: %v, %s", r, ok, textOf(x))
				}
				for kept, y := range falls(x) {
					j, open := impl.OpenJour(y)
					if !open || kept == 0 && j.K != k || kept == 1 && j.K != with {
						t.Errorf("down, %+v, kept %d: %+v", r, kept, j)
					}
					checkFurther(t, "down before", y, r)
				}
			}
			for _, r := range badRecs(k) {
				x, _ := impl.AddRec(d, r)
				checkFurther(t, "refused before", impl.FallDisk(x, 0), first)
			}
		}
	}
}

func TestAddRecRefusesWithoutAJournal(t *testing.T) {
	d := genOf(1, 0, epochs(4))
	bad := badJournals(d)
	bad["37 sectors"], bad["39 sectors"], bad["no head"], bad["a missing record"] = resized(d, 37), resized(d, 39), impl.DiskNew(38), withGen(d, 1, 5, nil)
	for name, x := range bad {
		for _, r := range []impl.Rec{epoch(1, 0), epoch(5, 1), prep(1, mainConf), commit(1), {}} {
			checkRefused(t, name, x, r)
			checkRefused(t, name+", down", downOf(x), r)
		}
	}
}

// The cached writes become durable with the record. Where the cache is full, chapter 2 says what a write does: nothing.
func TestAddRecWithCachedWrites(t *testing.T) {
	for _, g := range []int{1, 2} {
		for cached := 1; cached <= 30; cached++ {
			for _, d := range []impl.Disk{genOf(g, 0, epochs(3)), fullDisk(g, impl.Known{Epoch: 18, Owner: 1}), fullDisk(g, fullKnown())} {
				for i := range cached {
					d = impl.WriteSec(d, recPlace(g+1, 10), []byte{byte(i)})
				}
				for _, fuse := range []int{-1, 0, 1, 2, 3, 5, 9, 10} {
					d.Fuse = fuse
					want, ok := otherAdd(d, epoch(19, 0))
					checkAdd(t, fmt.Sprint(cached, " cached writes, fuse ", fuse), d, epoch(19, 0), want, ok)
				}
			}
		}
	}
}

// A cached record counts, and is durable as soon as another one is added.
func TestAddRecBehindACachedRecord(t *testing.T) {
	d := impl.WriteSec(genOf(1, 0, epochs(2)), recPlace(1, 2), rawRec(1, 2, epoch(7, 1)))
	checkAdd(t, "not above the cached one", d, epoch(7, 0), d, false)
	want := genOf(1, 0, append(epochs(2), epoch(7, 1), epoch(8, 0)))
	checkAdd(t, "above the cached one", d, epoch(8, 0), want, true)
}

// operations is the number of writes and syncs by which a record is added to d.
func operations(d impl.Disk) int {
	j, _ := otherOpen(d)
	if j.Place < 18 {
		return 2
	}
	return len(recsOf(j.K)) + 5
}

// falls returns the disks that a power failure can leave.
func falls(d impl.Disk) []impl.Disk {
	var l []impl.Disk
	for keep := range 1 << len(d.Cache) {
		l = append(l, impl.FallDisk(d, keep))
	}
	return l
}

// checkFurther checks that a further record is known, and nothing else; or, if it is not accepted, that it changes nothing.
func checkFurther(t *testing.T, name string, d impl.Disk, r impl.Rec) {
	t.Helper()
	before, _ := impl.OpenJour(d)
	want, applies := nextKnown(before.K, r)
	if before.G == 60000 && before.Place == 18 {
		want, applies = before.K, false
	}
	x, ok := impl.AddRec(d, r)
	after, open := impl.OpenJour(x)
	if ok != applies || !open || after.K != want {
		t.Errorf("%s: after %+v, adding %+v gives %v, %v, %+v", name, before, r, ok, open, after)
	}
	if again, _ := impl.OpenJour(impl.FallDisk(x, 0)); again != after {
		t.Errorf("%s: after %+v, %+v is not durable: %+v", name, before, r, again)
	}
}

// checkFails adds r to d with power failing at an operation, and returns the disks that this can leave.
func checkFails(t *testing.T, d impl.Disk, r impl.Rec, fuse int) []impl.Disk {
	t.Helper()
	old, _ := impl.OpenJour(d)
	next, _ := nextKnown(old.K, r)
	name := fmt.Sprintf("generation %d, place %d, %+v, fuse %d of %d", old.G, old.Place, r, fuse, operations(d))
	arg := impl.FallDisk(d, 0)
	arg.Fuse = fuse
	x, ok := impl.AddRec(arg, r)
	done := fuse >= operations(d) || fuse == -1
	if ok != done || x.Down == done || ok && (len(x.Cache) != 0 || x.Fuse != max(fuse-operations(d), -1)) {
		t.Errorf("%s: %v, %s", name, ok, textOf(x))
	}
	want, _ := otherAdd(arg, r)
	if textOf(x) != textOf(want) {
		t.Errorf("%s:\n got %s\nwant %s", name, textOf(x), textOf(want))
	}
	l := falls(x)
	for i, y := range l {
		j, open := impl.OpenJour(y)
		if !open || j.K != next && (ok || j.K != old.K) {
			t.Errorf("%s, kept %d: %v, %+v, was %+v", name, i, open, j, old)
		}
	}
	return l
}

// checkPower adds r to d with power failing at each operation of AddRec in turn, at the next one, and not at all.
func checkPower(t *testing.T, d impl.Disk, r impl.Rec) {
	t.Helper()
	states := map[impl.Known]bool{}
	for fuse := -1; fuse <= operations(d)+1; fuse++ {
		for _, x := range checkFails(t, d, r, fuse) {
			j, _ := impl.OpenJour(x)
			states[j.K] = true
			for _, more := range nextRecs(j.K) {
				checkFurther(t, "after a failure", x, more)
			}
			checkFurther(t, "after a failure", x, epoch(j.K.Epoch, 1))
		}
	}
	if len(states) != 2 {
		t.Errorf("a failure leaves %d states", len(states))
	}
}

func TestPowerFailsBelowArea(t *testing.T) {
	for _, g := range []int{1, 2, 59999, 60000} {
		for _, place := range []int{0, 1, 4, 17} {
			k, _ := from(epochs(place))
			for _, r := range nextRecs(k) {
				checkPower(t, genOf(g, 0, epochs(place)), r)
			}
			if place >= 4 && g > 1 {
				d := withGen(fullDisk(g, fullKnown()), g, 4, history(fullKnown(), place))
				clear(d.Secs[recPlace(g, place) : recPlace(g, 17)+1])
				for i := place; i < 18; i++ {
					d.Secs[recPlace(g, i)] = rawRec(g-2, i, epoch(i+20, 0))
				}
				checkPower(t, d, nextRecs(fullKnown())[place%4])
			}
		}
	}
}

func TestPowerFailsAtTheStartOfAGeneration(t *testing.T) {
	for _, g := range []int{1, 2, 59998, 59999} {
		for i, k := range fullKnowns() {
			for n, r := range nextRecs(k) {
				if (i+n+g)%2 == 0 || i == 6 {
					checkPower(t, fullDisk(g, k), r)
				}
			}
		}
	}
}

// Power fails again and again while a generation is started: all disks that this can leave are visited, with other records each time.
func TestPowerFailsAgain(t *testing.T) {
	for _, k := range []impl.Known{{Epoch: 18, Owner: 1}, fullKnown()} {
		start := fullDisk(3, k)
		seen := map[string]bool{textOf(start): true}
		round := []impl.Disk{start}
		for depth := range 4 {
			var next []impl.Disk
			for i, d := range round {
				j, _ := impl.OpenJour(d)
				l := nextRecs(j.K)
				for fuse := range operations(d) {
					for _, x := range checkFails(t, d, l[(i+depth)%len(l)], fuse) {
						if s := textOf(x); !seen[s] {
							seen[s] = true
							next = append(next, x)
						}
					}
				}
			}
			round = next
		}
		if len(seen) < 8 {
			t.Error("too few disks", len(seen))
		}
	}
}

// A journal is used through many generations, with power failing now and then. The state is followed record by record.
func TestJournalThroughManyGenerations(t *testing.T) {
	for seed := range 12 {
		r := rand.New(rand.NewSource(int64(seed)))
		d := impl.Format()
		var k impl.Known
		failures := 0
		for step := range 250 {
			x := nextRecs(k)[r.Intn(len(nextRecs(k)))]
			if r.Intn(8) == 0 {
				x = badRecs(k)[r.Intn(len(badRecs(k)))]
			}
			if r.Intn(2) == 0 {
				d.Fuse = r.Intn(11)
			}
			want, applies := nextKnown(k, x)
			next, ok := impl.AddRec(d, x)
			if other, otherOk := otherAdd(d, x); textOf(next) != textOf(other) || ok != otherOk {
				t.Fatalf("seed %d, step %d: %v\n got %s\nwant %s", seed, step, ok, textOf(next), textOf(other))
			}
			if next.Down {
				failures++
			}
			if next.Down || r.Intn(4) == 0 {
				next = impl.FallDisk(next, r.Intn(1<<len(next.Cache)))
			}
			j, open := impl.OpenJour(next)
			if !open || j.K != want && (ok || j.K != k) || ok && !applies || next.Down {
				t.Fatalf("seed %d, step %d: %v, %v, %+v; was %+v, added %+v", seed, step, ok, open, j, k, x)
			}
			d, k = next, j.K
			d.Fuse = -1
		}
		if j, _ := impl.OpenJour(d); j.G < 6 || failures < 10 {
			t.Errorf("seed %d: only generation %d and %d failures", seed, j.G, failures)
		}
	}
}

func TestAddRecToANewJournal(t *testing.T) {
	d := impl.Format()
	var k impl.Known
	for i, r := range []impl.Rec{epoch(1, 1), prep(1, mainConf), commit(1), prep(2, shortConf), prep(3, longConf), epoch(2, 0), commit(3)} {
		next, ok := impl.AddRec(d, r)
		k, _ = nextKnown(k, r)
		if !ok {
			t.Fatalf("%+v is not added", r)
		}
		d = next
		checkOpen(t, "so far", d, impl.Jour{K: k, G: 1, Place: i + 1}, true)
	}
	if k != (impl.Known{Gen: 3, Text: longConf, Epoch: 2}) {
		t.Errorf("%+v", k)
	}
}
