package tests

import (
	"bytes"
	"fmt"
	"math"
	"math/rand"
	"strings"
	"testing"

	"loop.example/g00482/impl"
)

// textOf describes a disk; a nil slice and an empty one look the same.
func textOf(d impl.Disk) string {
	s := fmt.Sprintf("fuse %d down %v secs", d.Fuse, d.Down)
	for _, b := range d.Secs {
		s += fmt.Sprintf(" %q", b)
	}
	s += " cache"
	for _, w := range d.Cache {
		s += fmt.Sprintf(" %d:%q", w.N, w.B)
	}
	return s
}

// stretched returns the disk with its slices extended over their spare capacity. It shares the memory of d.
func stretched(d impl.Disk) impl.Disk {
	x := impl.Disk{Fuse: d.Fuse, Down: d.Down}
	for _, b := range d.Secs[:cap(d.Secs)] {
		x.Secs = append(x.Secs, b[:cap(b)])
	}
	for _, w := range d.Cache[:cap(d.Cache)] {
		x.Cache = append(x.Cache, impl.Wr{N: w.N, B: w.B[:cap(w.B)]})
	}
	return x
}

// roomyDisk returns a copy of d in which every slice has spare capacity with other contents.
func roomyDisk(d impl.Disk) impl.Disk {
	x := impl.Disk{Fuse: d.Fuse, Down: d.Down}
	for _, b := range d.Secs {
		c, _ := roomy(string(b), 5)
		x.Secs = append(x.Secs, c)
	}
	for _, w := range d.Cache {
		c, _ := roomy(string(w.B), 5)
		x.Cache = append(x.Cache, impl.Wr{N: w.N, B: c})
	}
	x.Secs = append(x.Secs, []byte("beyond"), []byte("the last"))[:len(d.Secs)]
	x.Cache = append(x.Cache, impl.Wr{N: 1, B: []byte("beyond")}, impl.Wr{N: -7})[:len(d.Cache)]
	return x
}

// checkApart overwrites everything that belongs to d and checks that no two of its slices share memory.
func checkApart(t *testing.T, name string, d impl.Disk) {
	t.Helper()
	var parts [][]byte
	for _, b := range d.Secs[:cap(d.Secs)] {
		parts = append(parts, b[:cap(b)])
	}
	for _, w := range d.Cache[:cap(d.Cache)] {
		parts = append(parts, w.B[:cap(w.B)])
	}
	for i, b := range parts {
		copy(b, bytes.Repeat([]byte{byte(i)}, len(b)))
	}
	for i, b := range parts {
		if bytes.Count(b, []byte{byte(i)}) != len(b) {
			t.Errorf("%s: two slices of the result share memory", name)
			return
		}
	}
	clear(d.Secs[:cap(d.Secs)])
	clear(d.Cache[:cap(d.Cache)])
}

// checkDisk checks the result of an operation, and that it neither changes nor shares its argument.
func checkDisk(t *testing.T, name string, d impl.Disk, want impl.Disk, do func(impl.Disk) impl.Disk) {
	t.Helper()
	arg := roomyDisk(d)
	before := textOf(stretched(arg))
	got := do(arg)
	if textOf(got) != textOf(want) {
		t.Errorf("%s:\n got %s\nwant %s", name, textOf(got), textOf(want))
	}
	if again := do(arg); textOf(again) != textOf(got) {
		t.Errorf("%s: another result the second time: %s", name, textOf(again))
	}
	if textOf(stretched(arg)) != before {
		t.Errorf("%s wrote to its argument", name)
	}
	checkApart(t, name, got)
	if textOf(stretched(arg)) != before {
		t.Errorf("%s: the result shares memory with the argument", name)
	}
}

func checkWrite(t *testing.T, name string, d impl.Disk, n int, s string, want impl.Disk) {
	t.Helper()
	b, whole := roomy(s, 9)
	before := string(whole)
	checkDisk(t, name+", write", d, want, func(d impl.Disk) impl.Disk { return impl.WriteSec(d, n, b) })
	if string(whole) != before {
		t.Errorf("%s: the bytes to write were changed, or are shared", name)
	}
}

func checkSync(t *testing.T, name string, d impl.Disk, want impl.Disk) {
	t.Helper()
	checkDisk(t, name+", sync", d, want, impl.SyncDisk)
}

func checkFall(t *testing.T, name string, d impl.Disk, keep int, want impl.Disk) {
	t.Helper()
	checkDisk(t, fmt.Sprintf("%s, fall with keep %d", name, keep), d, want, func(d impl.Disk) impl.Disk { return impl.FallDisk(d, keep) })
}

func checkRead(t *testing.T, name string, d impl.Disk, n int, want string) {
	t.Helper()
	arg := roomyDisk(d)
	before := textOf(stretched(arg))
	got := impl.ReadSec(arg, n)
	if string(got) != want {
		t.Errorf("%s: sector %d reads %q, want %q", name, n, got, want)
	}
	all := got[:cap(got)]
	for i := range all {
		all[i] ^= 0xFF
	}
	if textOf(stretched(arg)) != before {
		t.Errorf("%s: reading sector %d wrote to the disk, or shares its memory", name, n)
	}
}

func secsOf(l ...string) [][]byte {
	var secs [][]byte
	for _, s := range l {
		secs = append(secs, []byte(s))
	}
	return secs
}

func wr(n int, s string) impl.Wr {
	return impl.Wr{N: n, B: []byte(s)}
}

// diskOf returns a disk of three sectors with these cached writes.
func diskOf(fuse int, cache ...impl.Wr) impl.Disk {
	return impl.Disk{Secs: secsOf("s0", "s1", "s2"), Cache: cache, Fuse: fuse}
}

func downOf(d impl.Disk) impl.Disk {
	d.Down = true
	return d
}

func fullCache(n int) []impl.Wr {
	var l []impl.Wr
	for i := range n {
		l = append(l, wr(i%3, fmt.Sprintf("w%d", i)))
	}
	return l
}

func long(n int) string {
	return strings.Repeat("\xA5", n)
}

// badDisks are disks that are not valid for one reason each; their sector 1 and their cached write to it are in order.
func badDisks() map[string]impl.Disk {
	good := wr(1, "w")
	bad := map[string]impl.Disk{
		"no form":                {},
		"no sectors, no fuse":    {Fuse: -1},
		"no sectors, cache":      {Cache: []impl.Wr{wr(0, "w")}, Fuse: -1},
		"41 sectors":             {Secs: make([][]byte, 41), Cache: []impl.Wr{good}, Fuse: -1},
		"first sector too long":  {Secs: secsOf(long(161), "s1"), Cache: []impl.Wr{good}, Fuse: -1},
		"last sector too long":   {Secs: secsOf("s0", "s1", long(161)), Cache: []impl.Wr{good}, Fuse: -1},
		"sector much too long":   {Secs: secsOf("s0", "s1", long(5000)), Cache: []impl.Wr{good}, Fuse: -1},
		"first write too long":   diskOf(-1, wr(0, long(161)), good),
		"last write too long":    diskOf(-1, good, wr(0, long(161))),
		"hidden write too long":  diskOf(-1, wr(1, long(161)), good),
		"write before the first": diskOf(-1, good, wr(-1, "w")),
		"write after the last":   diskOf(-1, wr(3, "w"), good),
		"write far before":       diskOf(-1, wr(math.MinInt64, "w"), good),
		"write far behind":       diskOf(-1, good, wr(math.MaxInt64, "w")),
		"31 cached writes":       diskOf(-1, fullCache(31)...),
	}
	for _, fuse := range []int{-2, -3, 1001, 1002, math.MinInt64, math.MaxInt64} {
		bad[fmt.Sprintf("fuse %d", fuse)] = diskOf(fuse, good)
	}
	for name, d := range bad {
		if d.Fuse == -1 {
			d.Fuse = 0
			bad[name+", at the end of the fuse"] = d
		}
	}
	return bad
}

func TestDiskLimits(t *testing.T) {
	if impl.MaxSecs != 40 || impl.SecLen != 160 || impl.MaxCache != 30 {
		t.Error(impl.MaxSecs, impl.SecLen, impl.MaxCache)
	}
}

func TestDiskNew(t *testing.T) {
	for n := 1; n <= 40; n++ {
		d := impl.DiskNew(n)
		if textOf(d) != textOf(impl.Disk{Secs: make([][]byte, n), Fuse: -1}) || !impl.DiskOk(d) {
			t.Errorf("DiskNew(%d) = %s", n, textOf(d))
		}
		checkApart(t, "DiskNew", d)
	}
	for _, n := range []int{0, -1, -40, 41, 42, math.MinInt64, math.MaxInt64} {
		d := impl.DiskNew(n)
		if textOf(d) != textOf(impl.Disk{}) || impl.DiskOk(d) {
			t.Errorf("DiskNew(%d) = %s", n, textOf(d))
		}
	}
}

func TestDiskOk(t *testing.T) {
	for name, d := range map[string]impl.Disk{
		"one sector":            {Secs: secsOf("")},
		"one sector, one write": {Secs: secsOf("a"), Cache: []impl.Wr{wr(0, "b")}},
		"40 sectors":            {Secs: make([][]byte, 40), Cache: []impl.Wr{wr(0, "a"), wr(39, "b")}},
		"a sector of 160 bytes": {Secs: secsOf("", long(160)), Fuse: -1},
		"a write of 160 bytes":  diskOf(-1, wr(2, long(160))),
		"an empty write":        diskOf(-1, impl.Wr{}),
		"30 cached writes":      diskOf(-1, fullCache(30)...),
		"fuse -1":               diskOf(-1),
		"fuse 0":                diskOf(0),
		"fuse 1":                diskOf(1),
		"fuse 1000":             diskOf(1000),
	} {
		for _, down := range []bool{false, true} {
			d.Down = down
			arg := roomyDisk(d)
			before := textOf(stretched(arg))
			if !impl.DiskOk(d) || !impl.DiskOk(arg) {
				t.Errorf("%s, down %v: not valid", name, down)
			}
			if textOf(stretched(arg)) != before {
				t.Errorf("%s: DiskOk wrote to its argument", name)
			}
		}
	}
	for name, d := range badDisks() {
		if impl.DiskOk(d) || impl.DiskOk(downOf(d)) || impl.DiskOk(roomyDisk(d)) {
			t.Errorf("%s: valid", name)
		}
	}
}

func TestBadDisksStayAsTheyAre(t *testing.T) {
	for name, good := range badDisks() {
		for _, d := range []impl.Disk{good, downOf(good)} {
			for n := -1; n <= 3; n++ {
				checkRead(t, name, d, n, "")
			}
			checkWrite(t, name, d, 1, "new", d)
			checkWrite(t, name, d, -1, "new", d)
			checkWrite(t, name, d, 0, long(161), d)
			checkSync(t, name, d, d)
			for _, keep := range []int{0, 1, 3, 1073741823, -1, 1073741824} {
				checkFall(t, name, d, keep, d)
			}
		}
	}
}

func TestReadSec(t *testing.T) {
	d := diskOf(-1, wr(1, "a"), wr(2, "b"), wr(1, "c"), wr(1, "d"), wr(2, ""))
	for _, x := range []impl.Disk{d, downOf(d)} {
		checkRead(t, "a sector without writes", x, 0, "s0")
		checkRead(t, "the last of three writes", x, 1, "d")
		checkRead(t, "an empty write hides the sector", x, 2, "")
		for _, n := range []int{-1, -2, -3, 3, 4, 40, math.MinInt64, math.MaxInt64} {
			checkRead(t, "no such sector", x, n, "")
		}
	}
	checkRead(t, "a long sector", impl.Disk{Secs: secsOf(long(160))}, 0, long(160))
	checkRead(t, "a long write", diskOf(0, wr(0, long(160))), 0, long(160))
	for n := range 40 {
		checkRead(t, "a new disk", impl.DiskNew(40), n, "")
	}
	checkRead(t, "beyond a new disk", impl.DiskNew(40), 40, "")
	checkRead(t, "no disk", impl.Disk{}, 0, "")
}

func TestWriteSec(t *testing.T) {
	checkWrite(t, "first write", diskOf(-1), 0, "a", diskOf(-1, wr(0, "a")))
	checkWrite(t, "another sector", diskOf(-1, wr(0, "a")), 2, "b", diskOf(-1, wr(0, "a"), wr(2, "b")))
	checkWrite(t, "the same sector", diskOf(-1, wr(0, "a")), 0, "b", diskOf(-1, wr(0, "a"), wr(0, "b")))
	checkWrite(t, "the same bytes", diskOf(-1, wr(0, "a")), 0, "a", diskOf(-1, wr(0, "a"), wr(0, "a")))
	checkWrite(t, "no bytes", diskOf(-1, wr(0, "a")), 0, "", diskOf(-1, wr(0, "a"), wr(0, "")))
	checkWrite(t, "160 bytes", diskOf(-1), 1, long(160), diskOf(-1, wr(1, long(160))))
	checkWrite(t, "the last place", diskOf(-1, fullCache(29)...), 29%3, "w29", diskOf(-1, fullCache(30)...))
	for n := range 40 {
		want := impl.Disk{Secs: make([][]byte, 40), Cache: []impl.Wr{wr(n, "x")}, Fuse: -1}
		checkWrite(t, "each sector", impl.DiskNew(40), n, "x", want)
	}
	if d := impl.WriteSec(diskOf(-1, wr(1, "a")), 1, nil); textOf(d) != textOf(diskOf(-1, wr(1, "a"), wr(1, ""))) {
		t.Error("a nil slice", textOf(d))
	}
}

func TestWriteSecFuse(t *testing.T) {
	for _, x := range []struct{ fuse, next int }{{-1, -1}, {1, 0}, {2, 1}, {500, 499}, {1000, 999}} {
		checkWrite(t, fmt.Sprint("fuse ", x.fuse), diskOf(x.fuse, wr(0, "a")), 0, "b", diskOf(x.next, wr(0, "a"), wr(0, "b")))
	}
	checkWrite(t, "power fails", diskOf(0), 0, "b", downOf(diskOf(-1)))
	checkWrite(t, "power fails", diskOf(0, wr(0, "a")), 0, "b", downOf(diskOf(-1, wr(0, "a"))))
	checkWrite(t, "power fails", diskOf(0, fullCache(29)...), 2, "", downOf(diskOf(-1, fullCache(29)...)))
	checkWrite(t, "power fails", diskOf(0), 0, long(160), downOf(diskOf(-1)))
}

// A write that is not accepted is no operation: it takes nothing from the fuse, and power does not fail at it.
func TestWriteSecRefusals(t *testing.T) {
	for _, fuse := range []int{-1, 0, 1, 1000} {
		d := diskOf(fuse, wr(0, "a"))
		for _, n := range []int{-1, -2, -3, 3, 4, 40, math.MinInt64, math.MaxInt64} {
			checkWrite(t, "no such sector", d, n, "b", d)
		}
		for _, size := range []int{161, 162, 256, 5000} {
			checkWrite(t, "too long", d, 0, long(size), d)
			checkWrite(t, "no such sector and too long", d, 3, long(size), d)
		}
		for _, size := range []int{0, 1, 160, 161} {
			checkWrite(t, "down", downOf(d), 0, long(size), downOf(d))
			full := diskOf(fuse, fullCache(30)...)
			checkWrite(t, "full", full, 0, long(size), full)
			checkWrite(t, "full and down", downOf(full), 0, long(size), downOf(full))
		}
	}
}

func TestSyncDisk(t *testing.T) {
	checkSync(t, "nothing cached", diskOf(-1), diskOf(-1))
	checkSync(t, "one write", diskOf(-1, wr(1, "a")), impl.Disk{Secs: secsOf("s0", "a", "s2"), Fuse: -1})
	checkSync(t, "an empty write", diskOf(-1, wr(1, "")), impl.Disk{Secs: secsOf("s0", "", "s2"), Fuse: -1})
	checkSync(t, "a long write", diskOf(-1, wr(2, long(160))), impl.Disk{Secs: secsOf("s0", "s1", long(160)), Fuse: -1})
	checkSync(t, "several to one sector", diskOf(-1, wr(1, "a"), wr(0, "b"), wr(1, "c"), wr(1, "d"), wr(0, "")),
		impl.Disk{Secs: secsOf("", "d", "s2"), Fuse: -1})
	checkSync(t, "a full cache", diskOf(-1, fullCache(30)...), impl.Disk{Secs: secsOf("w27", "w28", "w29"), Fuse: -1})
	for n := 1; n <= 40; n += 39 {
		checkSync(t, "a new disk", impl.DiskNew(n), impl.DiskNew(n))
	}
}

func TestSyncDiskFuse(t *testing.T) {
	for _, x := range []struct{ fuse, next int }{{-1, -1}, {1, 0}, {2, 1}, {1000, 999}} {
		name := fmt.Sprint("fuse ", x.fuse)
		checkSync(t, name, diskOf(x.fuse, wr(0, "a")), impl.Disk{Secs: secsOf("a", "s1", "s2"), Fuse: x.next})
		checkSync(t, name+" and nothing cached", diskOf(x.fuse), diskOf(x.next))
	}
	checkSync(t, "power fails", diskOf(0, wr(0, "a"), wr(1, "b")), downOf(diskOf(-1, wr(0, "a"), wr(1, "b"))))
	checkSync(t, "power fails and nothing cached", diskOf(0), downOf(diskOf(-1)))
	checkSync(t, "power fails and a full cache", diskOf(0, fullCache(30)...), downOf(diskOf(-1, fullCache(30)...)))
	for _, fuse := range []int{-1, 0, 1, 1000} {
		d := downOf(diskOf(fuse, wr(0, "a")))
		checkSync(t, "down", d, d)
	}
}

func TestFallDiskSubsets(t *testing.T) {
	l := []impl.Wr{wr(1, "a"), wr(0, "b"), wr(1, "c"), wr(0, ""), wr(1, "d")}
	for keep := range 64 {
		want := impl.Disk{Secs: secsOf("s0", "s1", "s2"), Fuse: -1}
		for i, w := range l {
			if keep&(1<<i) != 0 {
				want.Secs[w.N] = w.B
			}
		}
		for _, fuse := range []int{-1, 0, 1, 1000} {
			checkFall(t, "five writes", diskOf(fuse, l...), keep, want)
			checkFall(t, "five writes, down", downOf(diskOf(fuse, l...)), keep, want)
		}
	}
}

func TestFallDiskKeep(t *testing.T) {
	d := downOf(diskOf(-1, fullCache(30)...))
	lost := diskOf(-1)
	for _, keep := range []int{0, -1, -2, -1073741823, -1073741824, 1073741824, 1073741825, 2147483647, 1 << 40, 1<<62 + 1, math.MinInt64, math.MinInt64 + 1, math.MaxInt64} {
		checkFall(t, "all lost", d, keep, lost)
	}
	checkFall(t, "all kept", d, 1073741823, impl.Disk{Secs: secsOf("w27", "w28", "w29"), Fuse: -1})
	checkFall(t, "all but the last", d, 1073741823>>1, impl.Disk{Secs: secsOf("w27", "w28", "w26"), Fuse: -1})
	checkFall(t, "all but the first", d, 1073741822, impl.Disk{Secs: secsOf("w27", "w28", "w29"), Fuse: -1})
	for i := range 30 {
		want := impl.Disk{Secs: secsOf("s0", "s1", "s2"), Fuse: -1}
		want.Secs[i%3] = fmt.Appendf(nil, "w%d", i)
		checkFall(t, "one kept", d, 1<<i, want)
	}
	checkFall(t, "bits without writes", diskOf(7, wr(0, "a")), 1073741822, lost)
	checkFall(t, "nothing cached", diskOf(7), 1073741823, lost)
	checkFall(t, "nothing cached, down", downOf(diskOf(-1)), 1, lost)
	checkFall(t, "a long write", diskOf(0, wr(0, long(160))), 1, impl.Disk{Secs: secsOf(long(160), "s1", "s2"), Fuse: -1})
	for n := 1; n <= 40; n += 39 {
		checkFall(t, "a new disk", impl.DiskNew(n), 1, impl.DiskNew(n))
	}
}

// Slices of the argument that share memory with each other must not do so in the result.
func TestDiskPartsAreSeparate(t *testing.T) {
	one := []byte("one")
	d := impl.Disk{Secs: [][]byte{one, one, one}, Cache: []impl.Wr{{N: 0, B: one}, {N: 1, B: one}, {N: 0, B: one}}, Fuse: -1}
	for _, x := range []impl.Disk{d, downOf(d), {Secs: d.Secs, Cache: d.Cache, Fuse: -2}} {
		checkApart(t, "write", impl.WriteSec(x, 2, one))
		checkApart(t, "refused write", impl.WriteSec(x, 3, one))
		checkApart(t, "sync", impl.SyncDisk(x))
		for keep := range 8 {
			checkApart(t, "fall", impl.FallDisk(x, keep))
		}
	}
	if string(one) != "one" || len(d.Secs) != 3 || len(d.Cache) != 3 {
		t.Error("the arguments were changed", textOf(d))
	}
}

// Two writes that start from the same disk must not meet in its spare capacity.
func TestWritesFromOneDisk(t *testing.T) {
	d := roomyDisk(diskOf(-1, wr(0, "a")))
	x := impl.WriteSec(d, 0, []byte("x"))
	y := impl.WriteSec(d, 0, []byte("y"))
	checkRead(t, "before", d, 0, "a")
	checkRead(t, "one", x, 0, "x")
	checkRead(t, "the other", y, 0, "y")
	checkRead(t, "synced", impl.SyncDisk(x), 0, "x")
	checkRead(t, "one afterwards", x, 0, "x")
}

// Power fails at each operation of a sequence in turn: those before it count, it and those behind it do not.
func TestPowerFailsAtEachOperation(t *testing.T) {
	steps := []func(impl.Disk) impl.Disk{
		func(d impl.Disk) impl.Disk { return impl.WriteSec(d, 0, []byte("a")) },
		func(d impl.Disk) impl.Disk { return impl.WriteSec(d, 1, []byte("b")) },
		impl.SyncDisk,
		func(d impl.Disk) impl.Disk { return impl.WriteSec(d, 0, []byte("c")) },
		impl.SyncDisk,
	}
	now := []string{"s0 s1", "a s1", "a b", "a b", "c b", "c b"}
	durable := []string{"s0 s1", "s0 s1", "s0 s1", "a b", "a b", "c b"}
	for fuse := 0; fuse <= len(steps); fuse++ {
		d := diskOf(fuse)
		for i, do := range steps {
			d = do(d)
			if d.Down != (i >= fuse) || !impl.DiskOk(d) {
				t.Fatalf("fuse %d, operation %d: %s", fuse, i, textOf(d))
			}
		}
		if fuse < len(steps) && d.Fuse != -1 || fuse == len(steps) && d.Fuse != 0 {
			t.Errorf("fuse %d became %d", fuse, d.Fuse)
		}
		if got := fmt.Sprintf("%s %s", impl.ReadSec(d, 0), impl.ReadSec(d, 1)); got != now[fuse] {
			t.Errorf("fuse %d: reads %s, want %s", fuse, got, now[fuse])
		}
		d = impl.FallDisk(d, 0)
		if got := fmt.Sprintf("%s %s", impl.ReadSec(d, 0), impl.ReadSec(d, 1)); got != durable[fuse] {
			t.Errorf("fuse %d: %s is durable, want %s", fuse, got, durable[fuse])
		}
		if d = impl.WriteSec(d, 0, []byte("z")); d.Down || string(impl.ReadSec(d, 0)) != "z" {
			t.Errorf("fuse %d: not writable after the restart: %s", fuse, textOf(d))
		}
	}
}

// slowDisk keeps a disk as the document tells it: the sectors and all writes since the last sync.
type slowDisk struct {
	secs   []string
	writes []impl.Wr
	fuse   int
	down   bool
}

func (m *slowDisk) fails() bool {
	if m.fuse == 0 {
		m.fuse, m.down = -1, true
		return true
	}
	m.fuse = max(m.fuse-1, -1)
	return false
}

func (m *slowDisk) keep(bits int) {
	for i, w := range m.writes {
		if bits&(1<<i) != 0 {
			m.secs[w.N] = string(w.B)
		}
	}
	m.writes = nil
}

func (m *slowDisk) disk() impl.Disk {
	return impl.Disk{Secs: secsOf(m.secs...), Cache: m.writes, Fuse: m.fuse, Down: m.down}
}

func (m *slowDisk) step(d impl.Disk, r *rand.Rand) impl.Disk {
	switch x := r.Intn(100); {
	case x < 70:
		n, b := r.Intn(len(m.secs)+2)-1, bytes.Repeat([]byte{byte(r.Intn(256))}, r.Intn(40)*5)
		fits := n >= 0 && n < len(m.secs) && len(b) <= 160
		if fits && !m.down && len(m.writes) < 30 && !m.fails() {
			m.writes = append(m.writes, impl.Wr{N: n, B: b})
		}
		return impl.WriteSec(d, n, b)
	case x < 75:
		if !m.down && !m.fails() {
			m.keep(-1)
		}
		return impl.SyncDisk(d)
	case x < 80:
		keep := r.Intn(1 << 31)
		if keep < 1<<30 {
			m.keep(keep)
		}
		m.down, m.fuse, m.writes = false, -1, nil
		return impl.FallDisk(d, keep)
	case x < 85:
		d.Fuse = r.Intn(40) - 1
		m.fuse = d.Fuse
	}
	return d
}

func TestDiskAgainstSlowDisk(t *testing.T) {
	for seed := range 60 {
		r := rand.New(rand.NewSource(int64(seed)))
		d := impl.DiskNew(1 + seed%40)
		m := &slowDisk{secs: make([]string, 1+seed%40), fuse: -1}
		for i := range 300 {
			d = m.step(d, r)
			if textOf(d) != textOf(m.disk()) || !impl.DiskOk(d) {
				t.Fatalf("seed %d, step %d:\n got %s\nwant %s", seed, i, textOf(d), textOf(m.disk()))
			}
			n := r.Intn(len(m.secs))
			want := m.secs[n]
			for _, w := range m.writes {
				if w.N == n {
					want = string(w.B)
				}
			}
			if got := impl.ReadSec(d, n); string(got) != want {
				t.Fatalf("seed %d, step %d: sector %d reads %q, want %q", seed, i, n, got, want)
			}
		}
	}
}
