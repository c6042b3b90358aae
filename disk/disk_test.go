package disk_test

import (
	"bytes"
	"math"
	"math/rand"
	"testing"

	"murmuration/api"
	"murmuration/disk"
)

func holds(t *testing.T, d *disk.Disk, f int, text string, synced int) {
	t.Helper()
	if string(d.Bytes(f)) != text || d.Synced(f) != synced {
		t.Errorf("file %d: %q, %d; want %q, %d", f, d.Bytes(f), d.Synced(f), text, synced)
	}
}

// P10.1, P10.2: the example.
func TestExample(t *testing.T) {
	for _, d := range []*disk.Disk{disk.New(), {}} {
		if d.Append(0, []byte("abc")) != api.OK || d.Sync(0) != api.OK || d.Append(0, []byte("def")) != api.OK {
			t.Error("calls")
		}
		holds(t, d, 0, "abcdef", 3)
		d.Crash([2]int{1, 0})
		holds(t, d, 0, "abcd", 4)
		holds(t, d, 1, "", 0)
	}
}

// P10.2: what is kept of a file that is torn.
func TestCrash(t *testing.T) {
	for keep, want := range map[int]string{math.MinInt: "abc", -1: "abc", 0: "abc", 1: "abcd", 2: "abcde", 3: "abcdef", 4: "abcdef", math.MaxInt: "abcdef"} {
		for f := range 2 {
			d := disk.New()
			d.Append(f, []byte("abc"))
			d.Sync(f)
			d.Append(f, []byte("def"))
			d.Append(1-f, []byte("other"))
			tear := [2]int{2, 2}
			tear[f] = keep
			d.Crash(tear)
			holds(t, d, f, want, len(want))
			holds(t, d, 1-f, "ot", 2)
		}
	}
}

// P10.1: files that are not there.
func TestWrongFiles(t *testing.T) {
	d := disk.New()
	for _, f := range []int{-1, 2, math.MinInt, math.MaxInt} {
		if d.Append(f, []byte("a")) != api.ErrArg || d.Sync(f) != api.ErrArg || d.Clear(f) != api.ErrArg || d.Bytes(f) != nil || d.Synced(f) != 0 {
			t.Errorf("file %d", f)
		}
	}
	if d.Append(2, make([]byte, api.MaxDisk+1)) != api.ErrArg {
		t.Error("no file is told ahead of no room")
	}
}

// P10.1, P10.2: a disk that is not there.
func TestNone(t *testing.T) {
	var d *disk.Disk
	if d.Append(0, nil) != api.ErrNil || d.Append(9, nil) != api.ErrNil || d.Sync(0) != api.ErrNil || d.Clear(0) != api.ErrNil {
		t.Error("errors")
	}
	d.Crash([2]int{1, 1})
	if d.Bytes(0) != nil || d.Synced(0) != 0 || d.Copy() != nil {
		t.Error("answers")
	}
}

// P10.1: as many bytes as there is room for.
func TestFull(t *testing.T) {
	d := disk.New()
	if d.Append(0, make([]byte, api.MaxDisk+1)) != api.ErrFull || len(d.Bytes(0)) != 0 {
		t.Error("more than all")
	}
	if d.Append(0, make([]byte, api.MaxDisk-1)) != api.OK || d.Append(0, []byte("ab")) != api.ErrFull || d.Append(0, []byte("a")) != api.OK || d.Append(0, []byte("b")) != api.ErrFull || d.Append(0, nil) != api.OK {
		t.Error("up to all")
	}
	if len(d.Bytes(0)) != api.MaxDisk {
		t.Error("what does not fit changes nothing")
	}
	if d.Append(1, []byte("b")) != api.OK {
		t.Error("the other file has room of its own")
	}
}

// P10.1: to clear lasts at once.
func TestClear(t *testing.T) {
	d := disk.New()
	d.Append(0, []byte("abc"))
	d.Append(1, []byte("x"))
	d.Sync(0)
	if d.Clear(0) != api.OK {
		t.Error("Clear")
	}
	holds(t, d, 0, "", 0)
	d.Append(0, []byte("de"))
	holds(t, d, 0, "de", 0)
	d.Crash([2]int{0, 1})
	holds(t, d, 0, "", 0)
	holds(t, d, 1, "x", 1)
}

// P10.2: bytes are their own; a copy goes its own way.
func TestMemory(t *testing.T) {
	d := disk.New()
	in := []byte("abc")
	d.Append(0, in)
	in[0] = 'z'
	d.Bytes(0)[1] = 'z'
	d.Sync(0)
	d.Append(0, []byte("de"))
	o := d.Copy()
	holds(t, o, 0, "abcde", 3)
	o.Append(0, []byte("x"))
	d.Append(0, []byte("y"))
	o.Crash([2]int{0, 0})
	holds(t, d, 0, "abcdey", 3)
	holds(t, o, 0, "abc", 3)
	d.Clear(0)
	holds(t, o, 0, "abc", 3)
}

// P10.2: what was synced stays, and of what was not as much as is told.
func TestChance(t *testing.T) {
	r := rand.New(rand.NewSource(10))
	for range 300 {
		d := disk.New()
		var all [2][]byte
		var synced [2]int
		for range 40 {
			f := r.Intn(2)
			switch r.Intn(6) {
			case 0, 1, 2:
				b := make([]byte, r.Intn(5))
				r.Read(b)
				d.Append(f, b)
				all[f] = append(bytes.Clone(all[f]), b...)
			case 3:
				d.Sync(f)
				synced[f] = len(all[f])
			case 4:
				if r.Intn(4) == 0 {
					d.Clear(f)
					all[f], synced[f] = nil, 0
				}
			default:
				keep := [2]int{r.Intn(12) - 3, r.Intn(12) - 3}
				d.Crash(keep)
				for f := range 2 {
					n := min(len(all[f]), synced[f]+max(0, keep[f]))
					all[f], synced[f] = all[f][:n], n
				}
			}
			for f := range 2 {
				if !bytes.Equal(d.Bytes(f), all[f]) || d.Synced(f) != synced[f] {
					t.Fatalf("%v, %d; want %v, %d", d.Bytes(f), d.Synced(f), all[f], synced[f])
				}
			}
		}
	}
}
