package journal

import (
	"bytes"
	"math/rand"
	"reflect"
	"testing"

	"acequia/api"
	"acequia/disk"
)

func open(t *testing.T, d api.Disk) api.Journal {
	t.Helper()
	j, e := Open(d)
	if e != api.OK {
		t.Fatalf("Open: %d", e)
	}
	return j
}

func fresh(t *testing.T, sectors int) (api.Journal, api.Disk) {
	t.Helper()
	d, _ := disk.New(sectors)
	return open(t, d), d
}

func add(t *testing.T, j api.Journal, l ...[]byte) api.Journal {
	t.Helper()
	for _, b := range l {
		x, e := Append(j, b)
		if e != api.OK {
			t.Fatalf("Append: %d", e)
		}
		j = x
	}
	return j
}

func sync(t *testing.T, j api.Journal, d api.Disk) (api.Journal, api.Disk) {
	t.Helper()
	x, y, e := Sync(j, d)
	if e != api.OK {
		t.Fatalf("Sync: %d", e)
	}
	return x, y
}

func same(a, b [][]byte) bool {
	for i := range min(len(a), len(b)) {
		if !bytes.Equal(a[i], b[i]) {
			return false
		}
	}
	return len(a) == len(b)
}

func bytesOf(n int, c byte) []byte { return bytes.Repeat([]byte{c}, n) }

// P5.1 and P5.3: the form of sectors, byte by byte.
func TestForm(t *testing.T) {
	if checksum([]byte("123456789")) != 3421780262 {
		t.Error("the checksum of the chapter")
	}
	j, d := fresh(t, 4)
	long := append(bytesOf(112, 5), 6)
	_, d = sync(t, add(t, j, nil, long), d)
	want := [][]byte{
		append([]byte{0, 0, 0, 1, 0, 0, 0, 0, 0, 0, 3, 0}, make([]byte, 112)...),
		append([]byte{0, 0, 0, 1, 0, 0, 0, 0, 0, 1, 1, 112}, long[:112]...),
		append([]byte{0, 0, 0, 1, 0, 0, 0, 0, 0, 2, 2, 1, 6}, make([]byte, 111)...),
	}
	for i, b := range want {
		sum := word(checksum(b[8:]))
		copy(b[4:], sum[:])
		if b = append(b, 0, 0, 0, 1); !bytes.Equal(d.Sectors[i], b) {
			t.Errorf("sector %d is %v", i, d.Sectors[i])
		}
	}
	if r := open(t, d); r.Many != 4 || r.Synced != 2 || !same(r.Records, [][]byte{nil, long}) {
		t.Errorf("Open: %v", r)
	}
}

// crafted returns a disk with these sectors.
func crafted(l ...sector) api.Disk {
	d, _ := disk.New(len(l))
	for i, s := range l {
		d.Sectors[i] = s.bytes()
	}
	return d
}

// P5.1: which sectors are good, and which continue others.
func TestOpen(t *testing.T) {
	full := bytesOf(112, 1)
	one := []byte{1}
	for i, x := range []struct {
		l    []sector
		want int
	}{
		{[]sector{{1, 0, 3, one}, {1, 1, 3, one}}, 2},
		{[]sector{{2, 0, 3, one}, {1, 1, 3, one}}, 1},
		{[]sector{{1, 0, 3, one}, {9, 1, 3, one}}, 2},
		{[]sector{{0, 0, 3, one}}, 0},
		{[]sector{{1, 1, 3, one}}, 0},
		{[]sector{{1, 0, 7, one}}, 0},
		{[]sector{{1, 0, 2, one}}, 0},
		{[]sector{{1, 0, 0, full}}, 0},
		{[]sector{{1, 0, 1, full}}, 0},
		{[]sector{{1, 0, 1, one}, {1, 1, 2, one}}, 0},
		{[]sector{{1, 0, 1, full}, {1, 1, 2, nil}}, 0},
		{[]sector{{1, 0, 1, full}, {1, 1, 2, one}}, 1},
		{[]sector{{1, 0, 1, full}, {2, 1, 2, one}}, 0},
		{[]sector{{1, 0, 1, full}, {1, 1, 3, one}}, 0},
		{[]sector{{1, 0, 1, full}, {1, 2, 2, one}}, 0},
		{[]sector{{1, 0, 1, full}, {1, 1, 0, full}, {1, 2, 2, full}, {1, 3, 3, nil}}, 2},
		{[]sector{{1, 0, 3, one}, {1, 1, 2, one}, {1, 2, 3, one}}, 1},
	} {
		if j := open(t, crafted(x.l...)); len(j.Records) != x.want || j.Synced != x.want || j.Many != len(x.l) {
			t.Errorf("disk %d has %d records, want %d", i, len(j.Records), x.want)
		}
	}
	d := crafted(sector{1, 0, 3, one})
	copy(d.Sectors[0][20:], one)
	sum := word(checksum(d.Sectors[0][8:124]))
	copy(d.Sectors[0][4:], sum[:])
	if len(open(t, d).Records) != 0 {
		t.Error("bytes after the record")
	}
	pending, _ := disk.Write(d, 0, nil)
	stopped := pending
	stopped.Stopped = true
	for _, x := range []struct {
		d    api.Disk
		want api.Errno
	}{{api.Disk{}, api.ErrDisk}, {stopped, api.ErrDisk}, {pending, api.ErrArg}} {
		if j, e := Open(x.d); e != x.want || j.Many != 0 {
			t.Errorf("Open: %d, want %d", e, x.want)
		}
	}
}

// P5.2: valid journals, their room, and what they take.
func TestCheckRoomAppend(t *testing.T) {
	for i, j := range []api.Journal{
		{}, {Many: 4097}, {Many: 1, Synced: 1}, {Many: 1, Synced: -1}, {Many: 1, Records: [][]byte{nil, nil}}, {Many: 2, Records: [][]byte{make([]byte, 225)}},
	} {
		_, e := Append(j, nil)
		_, _, f := Sync(j, api.Disk{})
		if Check(j) != api.ErrArg || Room(j) != 0 || e != api.ErrArg || f != api.ErrArg {
			t.Errorf("journal %d", i)
		}
	}
	j := api.Journal{Many: 3, Records: [][]byte{make([]byte, 113)}, Synced: 1}
	if Check(j) != api.OK || Room(j) != 112 {
		t.Errorf("room %d", Room(j))
	}
	if x, e := Append(j, make([]byte, 113)); e != api.ErrLimit || x.Many != 0 {
		t.Error("113 bytes in one sector")
	}
	x := add(t, j, make([]byte, 112))
	if Room(x) != 0 || len(x.Records) != 2 || x.Synced != 1 || len(j.Records) != 1 {
		t.Error("112 bytes in one sector")
	}
	if _, e := Append(x, nil); e != api.ErrLimit {
		t.Error("an empty record occupies a sector")
	}
}

// P5.3: what Sync refuses.
func TestSyncErrors(t *testing.T) {
	j, d := fresh(t, 2)
	j, d = sync(t, add(t, j, []byte("a")), d)
	pending, _ := disk.Write(d, 0, nil)
	stopped := d
	stopped.Stopped = true
	other := api.Journal{Many: 2, Records: [][]byte{[]byte("b")}, Synced: 1}
	fewer := api.Journal{Many: 2}
	more := api.Journal{Many: 2, Records: [][]byte{[]byte("a"), nil}, Synced: 2}
	late := crafted(sector{1, 0, 3, []byte("a")}, sector{})
	copy(late.Sectors[1][124:], []byte{255, 255, 255, 255})
	for i, x := range []struct {
		j    api.Journal
		d    api.Disk
		want api.Errno
	}{
		{j, api.Disk{}, api.ErrDisk}, {j, stopped, api.ErrDisk}, {j, pending, api.ErrArg}, {api.Journal{Many: 3}, d, api.ErrArg},
		{other, d, api.ErrLog}, {fewer, d, api.ErrLog}, {more, d, api.ErrLog}, {j, late, api.ErrLog}, {j, d, api.OK},
	} {
		a, b, e := Sync(x.j, x.d)
		if e != x.want || e != api.OK && (a.Many != 0 || b.Sectors != nil) {
			t.Errorf("case %d: %d, want %d", i, e, x.want)
		}
		if e == api.OK && (!reflect.DeepEqual(a, x.j) || !reflect.DeepEqual(b, x.d)) {
			t.Error("nothing had to be written")
		}
	}
}

// P5.4: crashes after any number of writes, again and again, lose only a tail of what was being written.
func TestCrashes(t *testing.T) {
	r := rand.New(rand.NewSource(5))
	for range 200 {
		j, d := fresh(t, 12)
		for range 12 {
			var l [][]byte
			for range r.Intn(4) {
				if b := bytesOf(r.Intn(300), byte(r.Intn(256))); Room(add2(j, l)) >= 112*occupied(len(b)) {
					l = append(l, b)
				}
			}
			wanted := add(t, j, l...)
			d, _ = disk.Stop(d, r.Intn(8))
			x, y, e := Sync(wanted, d)
			if e == api.OK {
				j, d = x, y
				continue
			}
			if e != api.ErrDisk || x.Many != 0 || !y.Stopped {
				t.Fatalf("Sync: %d", e)
			}
			d = disk.Restart(y)
			j = open(t, d)
			if len(j.Records) < wanted.Synced || len(j.Records) > len(wanted.Records) || !same(j.Records, wanted.Records[:len(j.Records)]) {
				t.Fatal("records were lost or made up")
			}
		}
	}
}

func add2(j api.Journal, l [][]byte) api.Journal {
	for _, b := range l {
		j, _ = Append(j, b)
	}
	return j
}

// P5.4: a changed byte ends the journal before its record.
func TestChangedByte(t *testing.T) {
	j, d := fresh(t, 5)
	l := [][]byte{[]byte("a"), bytesOf(200, 2), []byte("c")}
	_, d = sync(t, add(t, j, l...), d)
	starts := []int{0, 1, 1, 2}
	for at, before := range starts {
		for i := range api.SectorSize {
			x := disk.Restart(d)
			x.Sectors = append([][]byte(nil), d.Sectors...)
			x.Sectors[at] = append([]byte(nil), d.Sectors[at]...)
			x.Sectors[at][i] ^= 1
			if got := open(t, x); !same(got.Records, l[:before]) {
				t.Fatalf("byte %d of sector %d", i, at)
			}
		}
	}
}
