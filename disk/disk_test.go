package disk

import (
	"bytes"
	"math/rand"
	"reflect"
	"testing"

	"acequia/api"
)

func must(t *testing.T, d api.Disk, e api.Errno) api.Disk {
	t.Helper()
	if e != api.OK {
		t.Fatalf("error %d", e)
	}
	return d
}

func fresh(t *testing.T, sectors int) api.Disk {
	t.Helper()
	d, e := New(sectors)
	return must(t, d, e)
}

func filled(c byte) []byte { return bytes.Repeat([]byte{c}, api.SectorSize) }

func write(t *testing.T, d api.Disk, at int, b []byte) api.Disk {
	t.Helper()
	x, e := Write(d, at, b)
	return must(t, x, e)
}

// P4.1: new disks, valid ones and restarted ones.
func TestNewCheckRestart(t *testing.T) {
	for _, n := range []int{0, -1, 4097, 1 << 62} {
		if d, e := New(n); e != api.ErrArg || d.Sectors != nil || d.Left != 0 {
			t.Errorf("New(%d): %v", n, e)
		}
	}
	d := fresh(t, 4096)
	if Check(d) != api.OK || d.Left != -1 || d.Stopped || len(d.Pending) != 0 || !bytes.Equal(d.Sectors[4095], filled(0)) {
		t.Error("a new disk")
	}
	two := func() [][]byte { return [][]byte{filled(1), filled(2)} }
	for i, x := range []api.Disk{
		{}, {Left: -1}, {Sectors: [][]byte{make([]byte, 127)}}, {Sectors: [][]byte{filled(1), make([]byte, 129)}},
		{Sectors: make([][]byte, 4097)}, {Sectors: two(), Left: -2}, {Sectors: two(), Left: 65537},
		{Sectors: two(), Pending: []api.Write{{At: 2, Data: filled(0)}}}, {Sectors: two(), Pending: []api.Write{{At: -1, Data: filled(0)}}},
		{Sectors: two(), Pending: []api.Write{{At: 1, Data: []byte{1}}}}, {Sectors: two(), Pending: make([]api.Write, 4097)},
	} {
		if Check(x) != api.ErrDisk {
			t.Errorf("disk %d is valid", i)
		}
		if r := Restart(x); r.Left != -1 || r.Stopped || len(r.Pending) != 0 || !reflect.DeepEqual(r.Sectors, x.Sectors) {
			t.Errorf("disk %d restarts as %v", i, r)
		}
		_, e1 := Read(x, 0)
		_, e2 := Write(x, 0, nil)
		_, e3 := Sync(x)
		_, e4 := Stop(x, 0)
		if e1 != api.ErrDisk || e2 != api.ErrDisk || e3 != api.ErrDisk || e4 != api.ErrDisk {
			t.Errorf("disk %d is used", i)
		}
	}
	if Check(api.Disk{Sectors: two(), Left: 65536, Stopped: true, Pending: []api.Write{{At: 1, Data: filled(3)}}}) != api.OK {
		t.Error("a stopped disk is valid, too")
	}
}

// P4.2: what was written last is read, and nothing else changes.
func TestReadWrite(t *testing.T) {
	d := fresh(t, 2)
	x := write(t, write(t, d, 1, []byte{7, 8}), 1, []byte{9})
	if b, e := Read(x, 1); e != api.OK || !bytes.Equal(b, append([]byte{9}, make([]byte, 127)...)) {
		t.Errorf("read %v, %v", b, e)
	}
	if b, e := Read(x, 0); e != api.OK || !bytes.Equal(b, filled(0)) {
		t.Errorf("read %v, %v", b, e)
	}
	if len(d.Pending) != 0 || len(x.Pending) != 2 || len(x.Pending[0].Data) != 128 {
		t.Error("pending writes")
	}
	a, b := write(t, x, 0, filled(1)), write(t, x, 0, filled(2))
	if a.Pending[2].Data[0] != 1 || b.Pending[2].Data[0] != 2 {
		t.Error("two disks share a write")
	}
	for _, at := range []int{-1, 2, 1 << 62} {
		if b, e := Read(x, at); e != api.ErrDisk || b != nil {
			t.Errorf("Read at %d", at)
		}
		if _, e := Write(x, at, filled(0)); e != api.ErrDisk {
			t.Errorf("Write at %d", at)
		}
	}
	if _, e := Write(x, 0, make([]byte, 129)); e != api.ErrArg {
		t.Error("129 bytes")
	}
	full := d
	for range 4096 {
		full.Pending = append(full.Pending, api.Write{Data: filled(0)})
	}
	if _, e := Write(full, 0, nil); e != api.ErrLimit {
		t.Error("4097 writes")
	}
	if _, e := Write(full, 0, make([]byte, 129)); e != api.ErrArg {
		t.Error("the order of errors")
	}
}

// P4.3: syncs that stop tear the next write.
func TestSyncStop(t *testing.T) {
	for left := -1; left <= 4; left++ {
		d := fresh(t, 2)
		d.Left = left
		d = write(t, write(t, write(t, d, 0, filled(1)), 1, filled(2)), 0, filled(3))
		x, e := Sync(d)
		want := [][]byte{filled(0), filled(0)}
		for i, w := range d.Pending {
			switch {
			case left < 0 || i < left:
				copy(want[w.At], w.Data)
			case i == left:
				copy(want[w.At], w.Data[:64])
			}
		}
		stops := left >= 0 && left < 3
		wantLeft := map[bool]int{true: 0, false: max(-1, left-3)}[stops]
		if left == 3 {
			wantLeft = 0
		}
		if (e == api.ErrDisk) != stops || x.Stopped != stops || x.Left != wantLeft || len(x.Pending) != 0 || !reflect.DeepEqual(x.Sectors, want) {
			t.Errorf("left %d: %v, %v", left, x, e)
		}
		if !bytes.Equal(d.Sectors[0], filled(0)) {
			t.Error("the old disk has changed")
		}
		if stops {
			checkStopped(t, x)
		}
	}
	d := fresh(t, 1)
	for _, left := range []int{-1, 65537} {
		if _, e := Stop(d, left); e != api.ErrArg {
			t.Errorf("Stop(%d)", left)
		}
	}
	if x, e := Stop(d, 65536); e != api.OK || x.Left != 65536 {
		t.Error("Stop(65536)")
	}
}

func checkStopped(t *testing.T, x api.Disk) {
	_, e1 := Read(x, 0)
	_, e2 := Write(x, 0, nil)
	_, e3 := Stop(x, 1)
	y, e4 := Sync(x)
	if e1 != api.ErrDisk || e2 != api.ErrDisk || e3 != api.ErrDisk || e4 != api.ErrDisk || y.Sectors != nil {
		t.Error("a stopped disk works")
	}
	if Check(x) != api.OK || Check(Restart(x)) != api.OK {
		t.Error("a stopped disk is not valid")
	}
}

// P4.4: writes synced one by one or together are the same, and reading does not depend on it.
func TestConsequences(t *testing.T) {
	r := rand.New(rand.NewSource(4))
	for range 300 {
		a, b := fresh(t, 3), fresh(t, 3)
		for range r.Intn(8) {
			at, data := r.Intn(3), filled(byte(r.Intn(256)))[:r.Intn(129)]
			a, b = write(t, a, at, data), write(t, b, at, data)
			got, _ := Read(a, at)
			if !bytes.Equal(got[:len(data)], data) {
				t.Fatal("a pending write is not read")
			}
			x, e := Sync(b)
			b = must(t, x, e)
		}
		x, e := Sync(a)
		if x = must(t, x, e); !reflect.DeepEqual(x, b) {
			t.Fatal("synced together and one by one")
		}
	}
}
