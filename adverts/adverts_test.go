package adverts_test

import (
	"math/rand"
	"slices"
	"testing"

	"murmuration/adverts"
	"murmuration/api"
	"murmuration/attest"
	"murmuration/sha"
)

func result(key ...byte) api.Attest {
	a := api.Attest{Length: 1}
	copy(a.Key[:], key)
	return a
}

func sumOf(l ...api.Attest) api.Digest {
	var b []byte
	for _, a := range l {
		x, _ := attest.Bytes(a)
		b = append(b, x...)
	}
	return sha.Parts(32, b)
}

// P20.1, P20.2: the examples, of a new set and of a zero one.
func TestExamples(t *testing.T) {
	for _, s := range []*adverts.Set{adverts.New(), {}} {
		if d, n := s.Sum(nil); d != sha.Parts(32) || n != 0 {
			t.Error("the sum of an empty set")
		}
		a := result(0x3f)
		if s.Add(a) != api.OK || s.Len() != 1 || !s.Has(a) || s.Has(result(0x3e)) {
			t.Error("Add")
		}
		for _, p := range [][]byte{nil, {3}, {3, 15}, {3, 15, 0, 0, 0, 0, 0, 0}} {
			if d, n := s.Sum(p); !slices.Equal(s.Below(p), []api.Attest{a}) || d != sumOf(a) || n != 1 {
				t.Error("below", p)
			}
		}
		for _, p := range [][]byte{{4}, {3, 14}, {15}, {3, 15, 1}} {
			if d, n := s.Sum(p); len(s.Below(p)) != 0 || d != sumOf() || n != 0 {
				t.Error("below", p)
			}
		}
	}
}

// P20.1: what is refused.
func TestAdd(t *testing.T) {
	s := adverts.New()
	for _, n := range []int{0, -1, 5001} {
		if s.Add(api.Attest{Length: n}) != api.ErrArg {
			t.Error("length", n)
		}
	}
	a, b := result(1), result(1)
	b.Tag[31] = 1
	if s.Add(b) != api.OK || s.Add(b) != api.ErrTwice || s.Add(a) != api.OK || s.Add(a) != api.ErrTwice || s.Len() != 2 {
		t.Error("two of one key")
	}
	c := result(2)
	s.Add(c)
	if !slices.Equal(s.Of(a.Key), []api.Attest{a, b}) || !slices.Equal(s.Of(c.Key), []api.Attest{c}) || len(s.Of(api.Digest{9})) != 0 {
		t.Error("Of")
	}
}

// P20.1: no more than there may be: the first ones stay.
func TestFull(t *testing.T) {
	s := adverts.New()
	for i := range api.MaxAdverts {
		if s.Add(result(1, byte(i), 1)) != api.OK {
			t.Error("Add", i)
		}
	}
	if s.Add(result(2)) != api.ErrFull || s.Add(result(1, api.MaxAdverts-1, 2)) != api.ErrFull || s.Add(result(1, 0, 1)) != api.ErrTwice || s.Len() != api.MaxAdverts || s.Has(result(2)) {
		t.Error("what is behind all")
	}
	last := result(1, api.MaxAdverts-1, 1)
	if s.Add(result(1, api.MaxAdverts-1, 0)) != api.OK || s.Len() != api.MaxAdverts || s.Has(last) || s.Add(last) != api.ErrFull {
		t.Error("what is ahead of the last one")
	}
	if s.Add(result(0)) != api.OK || !s.Has(result(0)) || s.Has(result(1, api.MaxAdverts-1, 0)) || s.Len() != api.MaxAdverts {
		t.Error("what is ahead of all")
	}
}

// P20.2: prefixes.
func TestIsPrefix(t *testing.T) {
	for _, p := range [][]byte{nil, {}, {0}, {15}, make([]byte, 8)} {
		if !adverts.IsPrefix(p) {
			t.Error(p)
		}
	}
	s := adverts.New()
	s.Add(result(0))
	for _, p := range [][]byte{{16}, {0, 255}, make([]byte, 9)} {
		if d, n := s.Sum(p); adverts.IsPrefix(p) || s.Below(p) != nil || d != (api.Digest{}) || n != 0 {
			t.Error(p)
		}
	}
}

// P20.2: a copy goes its own way; what is told is its own.
func TestCopy(t *testing.T) {
	s := adverts.New()
	s.Add(result(2))
	c := s.Copy()
	c.Add(result(1))
	s.Add(result(3))
	s.Below(nil)[0].Length = 9
	if !slices.Equal(s.Below(nil), []api.Attest{result(2), result(3)}) || !slices.Equal(c.Below(nil), []api.Attest{result(1), result(2)}) {
		t.Error(s.Len(), c.Len())
	}
}

// P20.2: a set that is not there.
func TestNone(t *testing.T) {
	var s *adverts.Set
	d, n := s.Sum(nil)
	if s.Add(result(1)) != api.ErrNil || s.Add(api.Attest{}) != api.ErrNil || s.Has(result(1)) || s.Len() != 0 || s.Below(nil) != nil || d != (api.Digest{}) || n != 0 || s.Of(api.Digest{}) != nil || s.Copy() != nil {
		t.Error("answers")
	}
}

// P20.1, P20.2: of results at chance, in any order: the first ones; a range is its sixteen parts.
func TestChance(t *testing.T) {
	r := rand.New(rand.NewSource(20))
	for range 30 {
		var all []api.Attest
		for range 1 + r.Intn(260) {
			a := result(byte(r.Intn(3)), byte(r.Intn(256)), byte(r.Intn(2)))
			a.Length = 1 + r.Intn(2)
			all = append(all, a)
		}
		s, o := adverts.New(), adverts.New()
		for _, a := range all {
			s.Add(a)
		}
		for _, i := range r.Perm(len(all)) {
			o.Add(all[i])
		}
		slices.SortFunc(all, func(a, b api.Attest) int {
			switch {
			case attest.Less(a, b):
				return -1
			case attest.Less(b, a):
				return 1
			}
			return 0
		})
		all = slices.Compact(all)
		want := all[:min(len(all), api.MaxAdverts)]
		if !slices.Equal(s.Below(nil), want) || !slices.Equal(o.Below(nil), want) {
			t.Fatal("not the first ones")
		}
		for _, p := range [][]byte{{}, {0}, {0, 1}, {0, 2, 3}} {
			checkParts(t, s, p)
		}
	}
}

func checkParts(t *testing.T, s *adverts.Set, prefix []byte) {
	var parts []api.Attest
	for n := range 16 {
		parts = append(parts, s.Below(append(slices.Clone(prefix), byte(n)))...)
	}
	below := s.Below(prefix)
	if d, n := s.Sum(prefix); !slices.Equal(parts, below) || d != sumOf(below...) || n != len(below) {
		t.Fatal("a range is not its parts", prefix)
	}
}
