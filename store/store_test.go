package store_test

import (
	"bytes"
	"math"
	"math/rand"
	"slices"
	"testing"

	"murmuration/api"
	"murmuration/attest"
	"murmuration/disk"
	"murmuration/journal"
	"murmuration/merkle"
	"murmuration/store"
)

func open(t *testing.T, d *disk.Disk, quota int) *store.Store {
	t.Helper()
	s, e := store.Open(d, quota)
	if e != api.OK || s == nil {
		t.Fatalf("Open: %d", e)
	}
	return s
}

func put(t *testing.T, s *store.Store, text string) api.Digest {
	t.Helper()
	d, e := s.Put([]byte(text))
	if e != api.OK || d != merkle.Root([]byte(text)) {
		t.Fatalf("Put of %q: %d", text, e)
	}
	return d
}

func result(key byte, blob string) api.Attest {
	a, _ := attest.Make([]byte("s"), api.Digest{key}, merkle.Root([]byte(blob)), len(blob))
	return a
}

func names(texts ...string) (l []api.Digest) {
	for _, x := range texts {
		l = append(l, merkle.Root([]byte(x)))
	}
	return l
}

// P12.1: the examples, and what Open refuses.
func TestOpen(t *testing.T) {
	d := disk.New()
	s := open(t, d, 100)
	if s.Incarnation() != 1 || s.Quota() != 100 || s.Used() != 0 {
		t.Error("a new one")
	}
	put(t, s, "abc")
	if s.Used() != 3 {
		t.Error("Used")
	}
	d.Crash([2]int{})
	s = open(t, d, 100)
	if s.Incarnation() != 2 || s.Used() != 0 {
		t.Error("behind a crash", s.Incarnation(), s.Used())
	}
	if s, e := store.Open(nil, 0); s != nil || e != api.ErrNil {
		t.Error("no disk", e)
	}
	for _, q := range []int{0, -1, 200001, math.MinInt, math.MaxInt} {
		before := d.Copy()
		if s, e := store.Open(d, q); s != nil || e != api.ErrArg || !bytes.Equal(d.Bytes(0), before.Bytes(0)) {
			t.Error("quota", q, e)
		}
	}
	for _, q := range []int{1, 200000} {
		if open(t, &disk.Disk{}, q).Quota() != q {
			t.Error("quota", q)
		}
	}
}

// P12.1: blobs go at Open, as long as more than the quota is used; incarnations rise, and last.
func TestOpenQuota(t *testing.T) {
	d := disk.New()
	s := open(t, d, 100)
	for _, x := range []string{"aaa", "bbb", "ccc"} {
		put(t, s, x)
	}
	if s.Keep(result(1, "aaa")) != api.OK || s.Keep(result(2, "ccc")) != api.OK || s.Sync() != api.OK {
		t.Error("Keep")
	}
	s = open(t, d, 6)
	if !slices.Equal(s.Blobs(), names("bbb", "ccc")) || len(s.Results()) != 1 || s.Used() != 6 || s.Incarnation() != 2 {
		t.Error(s.Blobs(), s.Results())
	}
	d.Crash([2]int{})
	s = open(t, d, 100)
	if !slices.Equal(s.Blobs(), names("bbb", "ccc")) || s.Incarnation() != 3 {
		t.Error("what Open did was not synced")
	}
}

// P12.2: Put, Get, Has, and the order of use.
func TestPut(t *testing.T) {
	s := open(t, disk.New(), 10)
	for _, b := range [][]byte{nil, {}, make([]byte, 5001)} {
		if d, e := s.Put(b); d != (api.Digest{}) || e != api.ErrArg {
			t.Error("Put of", len(b), e)
		}
	}
	if d, e := s.Put(make([]byte, 11)); d != (api.Digest{}) || e != api.ErrFull {
		t.Error("more than the quota", e)
	}
	put(t, s, "aaa")
	put(t, s, "bbb")
	put(t, s, "ccc")
	put(t, s, "aaa")
	if !slices.Equal(s.Blobs(), names("bbb", "ccc", "aaa")) || s.Used() != 9 {
		t.Error("put again")
	}
	b, ok := s.Get(names("bbb")[0])
	if string(b) != "bbb" || !ok || !slices.Equal(s.Blobs(), names("ccc", "aaa", "bbb")) {
		t.Error("got")
	}
	b[0] = 'z'
	if b, _ := s.Get(names("bbb")[0]); string(b) != "bbb" {
		t.Error("Get shares memory")
	}
	put(t, s, "ddddd")
	if !slices.Equal(s.Blobs(), names("bbb", "ddddd")) || s.Used() != 8 || s.Has(names("aaa")[0]) || !s.Has(names("bbb")[0]) {
		t.Error("gone", s.Blobs())
	}
	if b, ok := s.Get(names("aaa")[0]); b != nil || ok {
		t.Error("Get of what is gone")
	}
	put(t, s, "ee")
	if !slices.Equal(s.Blobs(), names("bbb", "ddddd", "ee")) {
		t.Error("what fits just")
	}
	put(t, s, "0123456789")
	if !slices.Equal(s.Blobs(), names("0123456789")) {
		t.Error("all gone")
	}
}

// P12.2: blobs that are pinned stay; what does not fit beside them changes nothing.
func TestPins(t *testing.T) {
	s := open(t, disk.New(), 10)
	put(t, s, "aaa")
	put(t, s, "bbb")
	put(t, s, "ccc")
	a, b := names("aaa")[0], names("bbb")[0]
	if s.Unpin(a) != api.ErrNone || s.Pin(a) != api.OK || s.Pin(a) != api.OK || s.Pin(api.Digest{}) != api.ErrNone || s.Unpin(api.Digest{}) != api.ErrNone {
		t.Error("pins")
	}
	put(t, s, "dddd")
	if !slices.Equal(s.Blobs(), names("aaa", "ccc", "dddd")) || s.Has(b) {
		t.Error("the first one that is not pinned goes", s.Blobs())
	}
	if d, e := s.Put(make([]byte, 8)); d != (api.Digest{}) || e != api.ErrFull || !slices.Equal(s.Blobs(), names("aaa", "ccc", "dddd")) {
		t.Error("no room", e)
	}
	if s.Unpin(a) != api.OK {
		t.Error("Unpin")
	}
	if _, e := s.Put(make([]byte, 8)); e != api.ErrFull {
		t.Error("pinned twice", e)
	}
	if s.Unpin(a) != api.OK || s.Unpin(a) != api.ErrNone {
		t.Error("Unpin")
	}
	if _, e := s.Put(make([]byte, 8)); e != api.OK || s.Has(a) {
		t.Error("unpinned", e)
	}
}

// P12.3: results.
func TestKeep(t *testing.T) {
	s := open(t, disk.New(), 100)
	put(t, s, "aaa")
	put(t, s, "bbb")
	long := result(1, "aaa")
	long.Length = 4
	for want, a := range map[api.Errno]api.Attest{api.ErrArg: {Root: names("aaa")[0]}, api.ErrNone: result(1, "ccc")} {
		if e := s.Keep(a); e != want {
			t.Error(e, want)
		}
	}
	if s.Keep(long) != api.ErrNone {
		t.Error("another length")
	}
	for _, n := range []int{-1, 5001} {
		long.Length = n
		if s.Keep(long) != api.ErrArg {
			t.Error("length", n)
		}
	}
	untagged := result(2, "aaa")
	untagged.Tag = api.Digest{}
	if s.Keep(result(9, "bbb")) != api.OK || s.Keep(untagged) != api.OK || s.Keep(result(1, "aaa")) != api.OK || s.Keep(result(1, "aaa")) != api.OK {
		t.Error("Keep")
	}
	if !slices.Equal(s.Results(), []api.Attest{result(1, "aaa"), untagged, result(9, "bbb")}) {
		t.Error("Results", s.Results())
	}
	if s.Keep(result(1, "bbb")) != api.OK {
		t.Error("another root")
	}
	if a, ok := s.Find(api.Digest{1}); a != result(1, "bbb") || !ok {
		t.Error("Find")
	}
	if a, ok := s.Find(api.Digest{3}); a != (api.Attest{}) || ok {
		t.Error("Find of none")
	}
	put(t, s, string(make([]byte, 97)))
	if !slices.Equal(s.Results(), []api.Attest{result(1, "bbb"), result(9, "bbb")}) || s.Has(names("aaa")[0]) {
		t.Error("the results of a blob that is gone", s.Results())
	}
	put(t, s, string(make([]byte, 98)))
	if len(s.Results()) != 0 || len(s.Blobs()) != 1 {
		t.Error("all gone", s.Results())
	}
}

// P12.4: incarnations.
func TestRaise(t *testing.T) {
	d := disk.New()
	s := open(t, d, 10)
	put(t, s, "a")
	for _, n := range []uint64{0, 1, 1<<40 + 1, math.MaxUint64} {
		if s.Raise(n) != api.ErrArg || s.Incarnation() != 1 {
			t.Error("Raise to", n)
		}
	}
	if s.Raise(7) != api.OK || s.Incarnation() != 7 || s.Raise(7) != api.ErrArg {
		t.Error("Raise to 7")
	}
	d.Crash([2]int{})
	s = open(t, d, 10)
	if s.Incarnation() != 8 || s.Raise(1<<40) != api.OK || s.Incarnation() != 1<<40 {
		t.Error("behind a crash", s.Incarnation())
	}
	if open(t, d, 10).Incarnation() != 1<<40+1 {
		t.Error("above what one is raised to")
	}
}

func file(records ...[]byte) (b []byte) {
	for _, r := range records {
		f, _ := journal.Form(r)
		b = append(b, f...)
	}
	return b
}

func head(g byte) []byte { return []byte{1, 0, 0, 0, 0, 0, 0, 0, g} }

func blobOf(text string) []byte { return append([]byte{2}, text...) }

func gone(text string) []byte { d := merkle.Root([]byte(text)); return append([]byte{3}, d[:]...) }

func resultOf(a api.Attest) []byte { b, _ := attest.Bytes(a); return append([]byte{4}, b...) }

func incarnation(n byte) []byte { return []byte{5, 0, 0, 0, 0, 0, 0, 0, n} }

var seal = []byte{6}

// openFiles opens a disk of these files, and once more what that has written.
func openFiles(t *testing.T, a, b []byte) *store.Store {
	t.Helper()
	d := disk.New()
	d.Append(0, a)
	d.Append(1, b)
	s := open(t, d, 1000)
	torn := d.Copy()
	torn.Crash([2]int{})
	if again := open(t, torn, 1000); !slices.Equal(again.Blobs(), s.Blobs()) || !slices.Equal(again.Results(), s.Results()) {
		t.Error("what Open makes does not last")
	}
	return s
}

// P12.1: what records make.
func TestRecords(t *testing.T) {
	s := openFiles(t, file(head(3), blobOf("a"), blobOf("b"), blobOf("c"), seal, blobOf("a"), resultOf(result(1, "b")), resultOf(result(2, "c")), resultOf(result(3, "x")), resultOf(result(2, "a")), resultOf(result(2, "x")), incarnation(9), gone("b"), gone("z")), nil)
	if !slices.Equal(s.Blobs(), names("c", "a")) || !slices.Equal(s.Results(), []api.Attest{result(2, "a")}) || s.Incarnation() != 10 || s.Used() != 2 {
		t.Error(s.Blobs(), s.Results(), s.Incarnation())
	}
	greatest := string(make([]byte, 5000))
	d := disk.New()
	d.Append(1, file(head(3), seal, blobOf("a"), blobOf("b"), blobOf(greatest), blobOf("a")))
	for range 3 {
		if s := open(t, d, 6000); !slices.Equal(s.Blobs(), names("b", greatest, "a")) {
			t.Error("opened again", len(s.Blobs()))
		}
	}
	most := append([]byte{5}, bytes.Repeat([]byte{255}, 8)...)
	if s := openFiles(t, file(head(3), most, seal), nil); s.Incarnation() != math.MaxUint64 {
		t.Error("the greatest incarnation stays", s.Incarnation())
	}
}

// P12.1: which file is right, and which is the living one.
func TestLiving(t *testing.T) {
	one := func(text string, g byte) []byte { return file(head(g), blobOf(text), seal) }
	for i, x := range []struct {
		a, b []byte
		want []string
	}{
		{nil, nil, nil},
		{one("a", 1), nil, []string{"a"}}, {nil, one("b", 1), []string{"b"}},
		{one("a", 1), one("b", 2), []string{"b"}}, {one("a", 2), one("b", 1), []string{"a"}}, {one("a", 2), one("b", 2), []string{"a"}},
		{one("a", 1), file(head(2), blobOf("b")), []string{"a"}},
		{one("a", 1), file(blobOf("b"), head(2), seal), []string{"a"}},
		{one("a", 1), file(head(2), seal, blobOf("b"), []byte{7}), []string{"a"}},
		{one("a", 1), file(head(2), seal, blobOf("b"), []byte{0, 1}), []string{"a"}},
		{one("a", 1), file(head(2), seal, blobOf("b"), []byte{6, 1}), []string{"a"}},
		{one("a", 1), file(head(2), seal, blobOf("b"), []byte{2}), []string{"a"}},
		{one("a", 1), file(head(2), seal, blobOf("b"), append([]byte{2}, make([]byte, 5001)...)), []string{"a"}},
		{one("a", 1), file(head(2), seal, blobOf("b"), []byte{3, 1}), []string{"a"}},
		{one("a", 1), file(head(2), seal, blobOf("b"), []byte{5, 1}), []string{"a"}},
		{one("a", 1), file(head(2), seal, blobOf("b"), make([]byte, 0, 1)), []string{"b"}},
		{one("a", 1), file(head(2), seal, blobOf("b"), append([]byte{4}, make([]byte, 104)...)), []string{"a"}},
		{one("a", 1), file(head(2)[:8], seal), []string{"a"}},
		{one("a", 1), append(one("b", 2), 1, 2, 3), []string{"b"}},
		{[]byte("what is this"), append(one("b", 0), 9), []string{"b"}},
		{file(head(0), seal), one("b", 0), nil},
		{[]byte{9, 9, 9}, []byte{1, 2}, nil},
	} {
		s := openFiles(t, x.a, x.b)
		if !slices.Equal(s.Blobs(), names(x.want...)) {
			t.Errorf("disk %d: %v", i, s.Blobs())
		}
	}
}

// living is the records of the file that has a seal and the greatest generation.
func living(d *disk.Disk) (records [][]byte) {
	for f := range 2 {
		r, _ := journal.Read(d.Bytes(f))
		sealed := slices.ContainsFunc(r, func(x []byte) bool { return bytes.Equal(x, seal) })
		if sealed && (records == nil || bytes.Compare(r[0], records[0]) > 0) {
			records = r
		}
	}
	return records
}

// P12.4: Compact leaves no record more than is needed, in the order of use.
func TestCompact(t *testing.T) {
	d := disk.New()
	s := open(t, d, 3)
	for _, x := range []string{"a", "b", "c", "d"} {
		put(t, s, x)
	}
	s.Keep(result(1, "b"))
	s.Keep(result(1, "c"))
	s.Get(names("b")[0])
	if s.Compact() != api.OK {
		t.Error("Compact")
	}
	var blobs []string
	for _, r := range living(d) {
		if r[0] == 2 {
			blobs = append(blobs, string(r[1:]))
		}
	}
	if !slices.Equal(blobs, []string{"c", "d", "b"}) || len(living(d)) != 7 {
		t.Error(blobs, len(living(d)))
	}
	d.Crash([2]int{})
	s = open(t, d, 100)
	if !slices.Equal(s.Blobs(), names("c", "d", "b")) || !slices.Equal(s.Results(), []api.Attest{result(1, "c")}) {
		t.Error(s.Blobs())
	}
}

// P12.2: gets, and puts of what is there, are no records: without Compact the disk has the order of the records.
func TestRecordsOrder(t *testing.T) {
	d := disk.New()
	s := open(t, d, 100)
	for _, x := range []string{"a", "b", "c"} {
		put(t, s, x)
	}
	s.Get(names("a")[0])
	put(t, s, "b")
	s.Sync()
	if s := open(t, d, 100); !slices.Equal(s.Blobs(), names("a", "b", "c")) {
		t.Error(s.Blobs())
	}
}

// P12.4: a disk that is full is written anew, and says so when even that is no room.
func TestDiskFull(t *testing.T) {
	d := disk.New()
	s := open(t, d, 1000)
	put(t, s, "aaa")
	put(t, s, "bbb")
	for i := range 20000 {
		if e := s.Keep(result(byte(i%3), []string{"aaa", "bbb"}[i%2])); e != api.OK {
			t.Fatal(i, e)
		}
	}
	kept := s.Results()
	d.Crash([2]int{api.MaxDisk, api.MaxDisk})
	s = open(t, d, 1000)
	if !slices.Equal(s.Blobs(), names("aaa", "bbb")) || !slices.Equal(s.Results(), kept) {
		t.Error("written anew", s.Blobs())
	}
	n := 0
	for ; ; n++ {
		a := result(0, "aaa")
		a.Key = api.Digest{9, byte(n), byte(n >> 8)}
		if e := s.Keep(a); e != api.OK {
			if e != api.ErrFull {
				t.Error(e)
			}
			break
		}
	}
	checkFull(t, d, s, n)
}

// checkFull: what has no room changes nothing.
func checkFull(t *testing.T, d *disk.Disk, s *store.Store, n int) {
	results, blobs := s.Results(), s.Blobs()
	if len(results) != n+3 || n < 9000 {
		t.Error("how many fit", n)
	}
	big := make([]byte, 500)
	if _, e := s.Put(big); e != api.ErrFull || s.Has(merkle.Root(big)) {
		t.Error("Put", e)
	}
	if s.Sync() != api.OK || s.Compact() != api.OK || s.Used() != 6 {
		t.Error("what takes no more room is done")
	}
	if !slices.Equal(s.Results(), results) || !slices.Equal(s.Blobs(), blobs) {
		t.Error("something has changed")
	}
	inc := s.Incarnation()
	s = open(t, d, 1000)
	if !slices.Equal(s.Results(), results) || s.Incarnation() <= inc {
		t.Error("behind Open", len(s.Results()), s.Incarnation())
	}
}

// fill keeps as many results of the blob as there is room for, at most so many.
func fill(s *store.Store, root api.Digest, first, most int) (n int) {
	for n < most && s.Keep(api.Attest{Key: api.Digest{byte(first), byte(n), byte(n >> 8)}, Root: root, Length: 100}) == api.OK {
		n++
	}
	return n
}

// P12.4: a result is refused only where there is no room for it, and what is answered OK lasts, however full the disk is.
func TestNearlyFull(t *testing.T) {
	d := disk.New()
	s := open(t, d, 600)
	for i := range 14 {
		b := make([]byte, 100)
		b[0] = byte(i)
		root, e := s.Put(b)
		if e != api.OK {
			t.Fatal(i, e)
		}
		n := fill(s, root, i, 1600)
		if torn := d.Copy(); i > 4 {
			torn.Crash([2]int{api.MaxDisk, api.MaxDisk})
			again := open(t, torn, 600)
			if !slices.Equal(again.Blobs(), s.Blobs()) || !slices.Equal(again.Results(), s.Results()) {
				t.Fatal("what was kept is lost", i)
			}
		}
		if n == 1600 {
			continue
		}
		s.Compact()
		if room := api.MaxDisk - len(file(living(d)...)); room >= 2+105+8 {
			t.Error("there was room", i, room)
		}
	}
}

// P12.2: where the disk has no room, room is made by blobs that go, if the quota asks for it.
func TestQuotaOnDisk(t *testing.T) {
	d := disk.New()
	s := open(t, d, 200000)
	for i := range 2000 {
		b := make([]byte, 4000)
		b[0], b[1] = byte(i), byte(i>>8)
		if _, e := s.Put(b); e != api.OK {
			t.Fatal(i, e)
		}
	}
	if len(s.Blobs()) != 50 || s.Used() != 200000 {
		t.Error(len(s.Blobs()), s.Used())
	}
	blobs := s.Blobs()
	d.Crash([2]int{api.MaxDisk, api.MaxDisk})
	if s := open(t, d, 200000); !slices.Equal(s.Blobs(), blobs) {
		t.Error("behind a crash", len(s.Blobs()))
	}
}

// P12.5: a store that is not there.
func TestNone(t *testing.T) {
	for _, s := range []*store.Store{nil, {}} {
		d, e := s.Put([]byte("a"))
		if d != (api.Digest{}) || e != api.ErrNil || s.Keep(result(1, "a")) != api.ErrNil || s.Pin(d) != api.ErrNil || s.Unpin(d) != api.ErrNil || s.Raise(1) != api.ErrNil || s.Sync() != api.ErrNil || s.Compact() != api.ErrNil {
			t.Error("errors")
		}
		b, ok := s.Get(d)
		a, found := s.Find(d)
		if b != nil || ok || found || a != (api.Attest{}) || s.Has(d) || s.Incarnation() != 0 || s.Blobs() != nil || s.Results() != nil || s.Used() != 0 || s.Quota() != 0 {
			t.Error("answers")
		}
	}
}

// state is what a store has, as plain lists.
type state struct {
	blobs   []string
	results map[api.Digest]api.Attest
}

func (m state) with(r []byte) state {
	n := state{slices.Clone(m.blobs), map[api.Digest]api.Attest{}}
	for k, a := range m.results {
		n.results[k] = a
	}
	switch r[0] {
	case 2:
		n.blobs = append(slices.DeleteFunc(n.blobs, func(x string) bool { return x == string(r[1:]) }), string(r[1:]))
	case 3:
		n.blobs = slices.DeleteFunc(n.blobs, func(x string) bool { return merkle.Root([]byte(x)) == api.Digest(r[1:]) })
		for k, a := range n.results {
			if a.Root == api.Digest(r[1:]) {
				delete(n.results, k)
			}
		}
	case 4:
		a, _ := attest.Read(r[1:])
		n.results[a.Key] = a
	}
	return n
}

func (m state) is(s *store.Store) bool {
	if !slices.Equal(s.Blobs(), names(m.blobs...)) || len(s.Results()) != len(m.results) {
		return false
	}
	for _, a := range s.Results() {
		if m.results[a.Key] != a {
			return false
		}
	}
	return true
}

// trial is a store beside the records that it should have written since it was opened.
type trial struct {
	t       *testing.T
	r       *rand.Rand
	d       *disk.Disk
	s       *store.Store
	use     []string // the order of use
	base    state
	records [][]byte
	synced  int
	pinned  string
	inc     uint64
}

const trialQuota = 12

func (x *trial) put(text string) {
	fits := len(x.pinned)+len(text) <= trialQuota || x.pinned == text
	_, e := x.s.Put([]byte(text))
	if fits != (e == api.OK) {
		x.t.Fatalf("Put of %q: %d", text, e)
	}
	if e != api.OK {
		return
	}
	i := slices.Index(x.use, text)
	if i >= 0 {
		x.use = append(slices.Delete(x.use, i, i+1), text)
		return
	}
	used := len(text)
	for _, y := range x.use {
		used += len(y)
	}
	for i := 0; used > trialQuota; {
		if y := x.use[i]; y == x.pinned {
			i++
		} else {
			used -= len(y)
			x.records = append(x.records, gone(y))
			x.use = slices.Delete(x.use, i, i+1)
		}
	}
	x.use = append(x.use, text)
	x.records = append(x.records, blobOf(text))
}

func (x *trial) crash() {
	x.d.Crash([2]int{x.r.Intn(600), x.r.Intn(600)})
	x.s = open(x.t, x.d, trialQuota)
	if x.s.Incarnation() <= x.inc {
		x.t.Fatal("the incarnation does not rise")
	}
	x.inc = x.s.Incarnation()
	m, found := x.base, false
	for i := 0; i <= len(x.records); i++ {
		if i > 0 {
			m = m.with(x.records[i-1])
		}
		if found = i >= x.synced && m.is(x.s); found {
			break
		}
	}
	if !found {
		x.t.Fatalf("what is there is made by no records: %v", x.s.Blobs())
	}
	x.base, x.use, x.records, x.synced, x.pinned = m, slices.Clone(m.blobs), nil, 0, ""
}

func (x *trial) step() {
	text := []string{"a", "bb", "ccc", "dddd", "eeeee", "ffffff", "a much too long one"}[x.r.Intn(7)]
	switch x.r.Intn(9) {
	case 0, 1, 2:
		x.put(text)
	case 3:
		a := result(byte(x.r.Intn(4)), text)
		old, known := x.s.Find(a.Key)
		e := x.s.Keep(a)
		if (e == api.OK) != slices.Contains(x.use, text) {
			x.t.Fatalf("Keep: %d", e)
		}
		if e == api.OK && (!known || old != a) {
			x.records = append(x.records, resultOf(a))
		}
	case 4:
		if _, ok := x.s.Get(merkle.Root([]byte(text))); ok {
			x.use = append(slices.Delete(x.use, slices.Index(x.use, text), slices.Index(x.use, text)+1), text)
		}
	case 5:
		x.s.Sync()
		x.synced = len(x.records)
	case 6:
		if x.pinned == "" && x.s.Pin(merkle.Root([]byte(text))) == api.OK {
			x.pinned = text
		} else if x.pinned != "" && x.s.Unpin(merkle.Root([]byte(x.pinned))) == api.OK {
			x.pinned = ""
		}
	case 7:
		if x.r.Intn(4) == 0 {
			m := x.base
			for _, r := range x.records {
				m = m.with(r)
			}
			x.s.Compact()
			x.base, x.records, x.synced = state{slices.Clone(x.use), m.results}, nil, 0
		}
	default:
		x.crash()
	}
	if !slices.Equal(x.s.Blobs(), names(x.use...)) {
		x.t.Fatalf("the order of use is %v, not %v", x.s.Blobs(), x.use)
	}
}

// P12.6: whatever is done, and wherever the disk is torn.
func TestCrashes(t *testing.T) {
	for seed := range int64(150) {
		d := disk.New()
		x := &trial{t: t, r: rand.New(rand.NewSource(seed)), d: d, s: open(t, d, trialQuota), inc: 1}
		for range 150 {
			x.step()
		}
	}
}
