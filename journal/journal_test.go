package journal_test

import (
	"bytes"
	"crypto/sha256"
	"math/rand"
	"slices"
	"testing"

	"murmuration/api"
	"murmuration/journal"
	"murmuration/wire"
)

func same(a, b [][]byte) bool { return slices.EqualFunc(a, b, bytes.Equal) }

// P11.1: forms.
func TestForm(t *testing.T) {
	for _, n := range []int{1, 2, 255, 256, 7999, 8000} {
		x := bytes.Repeat([]byte{byte(n)}, n)
		d := sha256.Sum256(x)
		f, e := journal.Form(x)
		if e != api.OK || !bytes.Equal(f, append(wire.AppendBytes(nil, x), d[:8]...)) {
			t.Errorf("Form of %d: %d", n, e)
		}
	}
	for _, x := range [][]byte{nil, {}, make([]byte, 8001)} {
		if f, e := journal.Form(x); f != nil || e != api.ErrArg {
			t.Errorf("Form of %d: %d", len(x), e)
		}
	}
}

func journalOf(records ...[]byte) (b []byte) {
	for _, x := range records {
		f, _ := journal.Form(x)
		b = append(b, f...)
	}
	return b
}

// P11.2, P11.3: what is written is read; cut anywhere, as far as forms are whole.
func TestCut(t *testing.T) {
	records := [][]byte{[]byte("ab"), {0}, bytes.Repeat([]byte{7}, 300), []byte("ab"), {1, 2, 3}}
	b := journalOf(records...)
	ends := []int{0}
	for i := range records {
		ends = append(ends, len(journalOf(records[:i+1]...)))
	}
	for cut := range len(b) + 1 {
		n := 0
		for n < len(records) && ends[n+1] <= cut {
			n++
		}
		got, whole := journal.Read(b[:cut])
		if !same(got, records[:n]) || whole != ends[n] {
			t.Fatalf("cut at %d: %d records, %d bytes", cut, len(got), whole)
		}
	}
	got, whole := journal.Read(append(bytes.Clone(b), 1))
	if !same(got, records) || whole != len(b) {
		t.Error("a byte more")
	}
	got[0][0] = 'z'
	if b[2] != 'a' {
		t.Error("records share memory with the journal")
	}
}

// P11.2: what is no form ends it, whatever stands behind.
func TestWrong(t *testing.T) {
	first, last := journalOf([]byte("one")), journalOf([]byte("two"))
	long := wire.AppendBytes(nil, make([]byte, 8001))
	sum := sha256.Sum256(make([]byte, 8001))
	empty := sha256.Sum256(nil)
	for i, middle := range [][]byte{
		{0}, {9}, {1}, {1, 0}, append([]byte{0}, empty[:8]...), append(long, sum[:8]...), {8, 255, 255, 255, 255, 255, 255, 255, 255}, make([]byte, 30),
	} {
		b := slices.Concat(first, middle, last)
		if got, whole := journal.Read(b); len(got) != 1 || whole != len(first) {
			t.Errorf("middle %d: %d records, %d bytes", i, len(got), whole)
		}
	}
	for i := range first {
		b := slices.Concat(first, last)
		b[i] ^= 1
		if got, whole := journal.Read(b); len(got) != 0 || whole != 0 {
			t.Errorf("byte %d changed: %d records, %d bytes", i, len(got), whole)
		}
	}
	if got, whole := journal.Read(nil); len(got) != 0 || whole != 0 {
		t.Error("nothing")
	}
}

// P11.2: whatever the bytes are, the forms of what is read are their beginning.
func TestChance(t *testing.T) {
	r := rand.New(rand.NewSource(11))
	for range 5000 {
		b := journalOf([]byte("a"), []byte("bcd"), bytes.Repeat([]byte{1}, r.Intn(20)+1))
		for range r.Intn(3) {
			b[r.Intn(len(b))] = byte(r.Intn(256))
		}
		got, whole := journal.Read(b)
		if !bytes.Equal(journalOf(got...), b[:whole]) {
			t.Fatalf("%v", b)
		}
	}
}
