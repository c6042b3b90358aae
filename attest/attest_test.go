package attest_test

import (
	"bytes"
	"encoding/binary"
	"math"
	"testing"

	"murmuration/api"
	"murmuration/attest"
	"murmuration/hmac"
)

var secret = []byte("secret")

func digest(n byte) (d api.Digest) {
	for i := range d {
		d[i] = n + byte(i)
	}
	return d
}

func number(n int) []byte { return binary.BigEndian.AppendUint64(nil, uint64(n)) }

// P9.1: what is made is right, with the tag that is told.
func TestMake(t *testing.T) {
	for _, n := range []int{1, 2, 255, 256, 5000} {
		key, root := digest(1), digest(2)
		a, e := attest.Make(secret, key, root, n)
		want := hmac.Tag(secret, []byte{17}, key[:], root[:], number(n))
		if e != api.OK || a != (api.Attest{Key: key, Root: root, Length: n, Tag: want}) || !attest.Right(secret, a) {
			t.Errorf("Make of %d: %v, %d", n, a, e)
		}
	}
	for _, n := range []int{0, -1, 5001, math.MinInt, math.MaxInt} {
		if a, e := attest.Make(secret, digest(1), digest(2), n); a != (api.Attest{}) || e != api.ErrArg {
			t.Errorf("Make of %d: %v, %d", n, a, e)
		}
	}
}

// P9.1: whatever is changed is not right.
func TestRight(t *testing.T) {
	a, _ := attest.Make(secret, digest(1), digest(2), 300)
	for i, change := range []func(a *api.Attest){
		func(a *api.Attest) { a.Key[31] ^= 1 }, func(a *api.Attest) { a.Root[0] ^= 128 }, func(a *api.Attest) { a.Length++ },
		func(a *api.Attest) { a.Tag[31] ^= 1 }, func(a *api.Attest) { a.Tag[0] ^= 1 }, func(a *api.Attest) { a.Key, a.Root = a.Root, a.Key },
		func(a *api.Attest) { a.Tag = api.Digest{} },
	} {
		b := a
		change(&b)
		if attest.Right(secret, b) {
			t.Errorf("change %d", i)
		}
	}
	for _, other := range []string{"", "secreu", "Secret", "secret "} {
		if attest.Right([]byte(other), a) {
			t.Errorf("secret %q", other)
		}
	}
	for _, n := range []int{0, -1, 5001} {
		b := api.Attest{Key: digest(1), Root: digest(2), Length: n}
		b.Tag = hmac.Tag(secret, []byte{17}, b.Key[:], b.Root[:], number(n))
		if attest.Right(secret, b) {
			t.Errorf("a result of length %d", n)
		}
	}
}

// P9.2: bytes, and reading them.
func TestBytes(t *testing.T) {
	a := api.Attest{Key: digest(1), Root: digest(2), Length: 300, Tag: digest(3)}
	b, e := attest.Bytes(a)
	want := bytes.Join([][]byte{a.Key[:], a.Root[:], number(300), a.Tag[:]}, nil)
	if e != api.OK || !bytes.Equal(b, want) || len(b) != 104 {
		t.Errorf("%v, %d", b, e)
	}
	if c, e := attest.Read(b); c != a || e != api.OK {
		t.Errorf("%v, %d", c, e)
	}
	for _, n := range []int{0, -1, 5001, math.MinInt} {
		a.Length = n
		if b, e := attest.Bytes(a); b != nil || e != api.ErrArg {
			t.Errorf("Bytes of length %d: %d", n, e)
		}
		c := bytes.Join([][]byte{a.Key[:], a.Root[:], number(n), a.Tag[:]}, nil)
		if x, e := attest.Read(c); x != (api.Attest{}) || e != api.ErrForm {
			t.Errorf("Read of length %d: %d", n, e)
		}
	}
	for _, c := range [][]byte{nil, b[:103], append(bytes.Clone(b), 0), make([]byte, 104)} {
		if x, e := attest.Read(c); x != (api.Attest{}) || e != api.ErrForm {
			t.Errorf("Read of %d bytes: %d", len(c), e)
		}
	}
}

// P9.2: the order is that of bytes, of any two.
func TestLess(t *testing.T) {
	var all []api.Attest
	for _, k := range []byte{0, 1, 200} {
		for _, r := range []byte{0, 255} {
			for _, n := range []int{math.MinInt, -1, 0, 1, 255, 256, 5000, math.MaxInt} {
				for _, g := range []byte{0, 9} {
					all = append(all, api.Attest{Key: api.Digest{31: k}, Root: api.Digest{r}, Length: n, Tag: api.Digest{31: g}})
				}
			}
		}
	}
	plain := func(a api.Attest) []byte {
		return bytes.Join([][]byte{a.Key[:], a.Root[:], number(a.Length), a.Tag[:]}, nil)
	}
	for _, a := range all {
		for _, b := range all {
			if attest.Less(a, b) != (bytes.Compare(plain(a), plain(b)) < 0) {
				t.Errorf("%v, %v", a, b)
			}
		}
	}
}
