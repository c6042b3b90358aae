package program_test

import (
	"bytes"
	"math"
	"math/rand"
	"strings"
	"testing"

	"murmuration/api"
	"murmuration/program"
)

var long = strings.Repeat("w", 41)

var right = [][]api.Ins{
	nil, {},
	{{Op: api.InsCopy, A: "a", B: "a"}}, {{Op: api.InsConcat, A: "a", B: "b/c", C: strings.Repeat("c", 40)}},
	{{Op: api.InsSlice, A: "a", B: "b", N: 2000, M: 2000}}, {{Op: api.InsSlice, A: "a", B: "b"}},
	{{Op: api.InsSubst, A: "a", B: "\x00\xff", C: ""}}, {{Op: api.InsSubst, A: "a", B: long[:40], C: long[:40]}},
	{{Op: api.InsSort, A: "a"}}, {{Op: api.InsPack, A: "a", B: "b"}}, {{Op: api.InsUnpack, A: "a", B: "b"}},
	{{Op: api.InsJump, N: 1}}, {{Op: api.InsJump, N: 0}}, {{Op: api.InsIfEmpty, A: "a", N: 1}}, {{Op: api.InsIfSame, A: "a", B: "b", N: 1}}, {{Op: api.InsFail}},
	{{Op: api.InsFail}, {Op: api.InsJump, N: 2}},
}

var wrong = [][]api.Ins{
	{{}}, {{Op: 12}}, {{Op: 255}}, {{Op: 0, A: "a"}},
	{{Op: api.InsJump, N: 2}}, {{Op: api.InsJump, N: -1}}, {{Op: api.InsJump, N: math.MaxInt}}, {{Op: api.InsJump, N: 1, M: 1}}, {{Op: api.InsJump, A: "a", N: 1}},
	{{Op: api.InsCopy, A: "a", B: "A"}}, {{Op: api.InsCopy, A: "", B: "b"}}, {{Op: api.InsCopy, A: "a"}}, {{Op: api.InsCopy, A: "a", B: "b", C: "c"}}, {{Op: api.InsCopy, A: "a", B: "b", N: 1}}, {{Op: api.InsCopy, A: "a", B: "b", M: -1}},
	{{Op: api.InsConcat, A: "a", B: "b"}}, {{Op: api.InsConcat, A: "a", B: "b", C: long}}, {{Op: api.InsConcat, A: "a", B: "b", C: "c", M: 1}},
	{{Op: api.InsSlice, A: "a", B: "b", N: 2001}}, {{Op: api.InsSlice, A: "a", B: "b", M: 2001}}, {{Op: api.InsSlice, A: "a", B: "b", N: -1}}, {{Op: api.InsSlice, A: "a", B: "b", M: math.MinInt}}, {{Op: api.InsSlice, A: "a", B: "b", C: "c"}},
	{{Op: api.InsSubst, A: "a", B: "", C: "x"}}, {{Op: api.InsSubst, A: "a", B: long, C: "x"}}, {{Op: api.InsSubst, A: "a", B: "x", C: long}}, {{Op: api.InsSubst, A: "", B: "x"}}, {{Op: api.InsSubst, A: "a", B: "x", N: 1}},
	{{Op: api.InsSort}}, {{Op: api.InsSort, A: "a", B: "b"}}, {{Op: api.InsPack, A: "a"}}, {{Op: api.InsUnpack, B: "a"}},
	{{Op: api.InsIfEmpty, N: 1}}, {{Op: api.InsIfEmpty, A: "a", B: "b"}}, {{Op: api.InsIfEmpty, A: "a", N: 2}}, {{Op: api.InsIfSame, A: "a", N: 1}}, {{Op: api.InsIfSame, A: "a", B: "b", N: 2}},
	{{Op: api.InsFail, A: "a"}}, {{Op: api.InsFail, N: 1}}, {{Op: api.InsFail}, {Op: api.InsJump, N: 3}},
	make([]api.Ins, 31),
}

func fails(n int) []api.Ins {
	p := make([]api.Ins, n)
	for i := range p {
		p[i].Op = api.InsFail
	}
	return p
}

// P6.1: what may be, and its bytes; what is written is read.
func TestRight(t *testing.T) {
	for i, p := range append(right, fails(30)) {
		if !program.May(p) {
			t.Errorf("right %d", i)
		}
		b, e := program.Bytes(p)
		if e != api.OK {
			t.Errorf("Bytes of right %d: %d", i, e)
		}
		q, e := program.Read(b)
		if e != api.OK || !program.Same(p, q) || !program.Same(q, p) {
			t.Errorf("Read of right %d: %d, %v", i, e, q)
		}
		for _, x := range [][]byte{b[:len(b)-1], append(bytes.Clone(b), 0), append([]byte{0}, b...)} {
			if q, e := program.Read(x); q != nil || e != api.ErrForm {
				t.Errorf("Read near right %d: %d", i, e)
			}
		}
	}
}

// P6.1: what may not be.
func TestWrong(t *testing.T) {
	for i, p := range append(wrong, fails(31)) {
		if program.May(p) {
			t.Errorf("wrong %d", i)
		}
		if b, e := program.Bytes(p); b != nil || e != api.ErrArg {
			t.Errorf("Bytes of wrong %d: %d", i, e)
		}
	}
}

// P6.1: the form, byte by byte, and forms that are none.
func TestForm(t *testing.T) {
	b, _ := program.Bytes([]api.Ins{{Op: api.InsSlice, A: "a", B: "bc", N: 300, M: 7}})
	want := []byte{1, 1, 1, 3, 1, 1, 'a', 1, 2, 'b', 'c', 0, 2, 1, 44, 1, 7}
	if !bytes.Equal(b, want) {
		t.Errorf("%v", b)
	}
	for _, x := range [][]byte{
		nil, {1}, {1, 31}, {9}, {1, 1}, {1, 1, 1, 11, 0, 0, 0, 0}, {1, 1, 1, 11, 0, 0, 0, 0, 1, 1}, {1, 1, 2, 1, 11, 0, 0, 0, 0, 0}, {1, 1, 1, 12, 0, 0, 0, 0, 0},
		{1, 1, 1, 11, 1, 41, 0, 0, 0, 0}, {1, 1, 0, 0, 0, 0, 0, 0}, {1, 1, 1, 8, 0, 0, 0, 8, 255, 255, 255, 255, 255, 255, 255, 255, 0}, {8, 255, 255, 255, 255, 255, 255, 255, 255},
	} {
		if p, e := program.Read(x); p != nil || e != api.ErrForm {
			t.Errorf("Read of %v: %v, %d", x, p, e)
		}
	}
}

// P6.1: bytes have one form.
func TestOneForm(t *testing.T) {
	r := rand.New(rand.NewSource(6))
	b, _ := program.Bytes([]api.Ins{{Op: api.InsSlice, A: "a", B: "bc", N: 3, M: 7}, {Op: api.InsIfSame, A: "x", B: "y", N: 2}})
	for range 20000 {
		c := bytes.Clone(b)
		c[r.Intn(len(c))] = byte(r.Intn(130))
		if p, e := program.Read(c); e == api.OK {
			if again, _ := program.Bytes(p); !bytes.Equal(again, c) {
				t.Fatalf("%v is read as %v", c, p)
			}
		}
	}
}

// P6.1: Same.
func TestSame(t *testing.T) {
	p := []api.Ins{{Op: api.InsFail}, {Op: 99, A: "a", M: 3}}
	if !program.Same(nil, []api.Ins{}) || !program.Same(p, []api.Ins{{Op: api.InsFail}, {Op: 99, A: "a", M: 3}}) {
		t.Error("alike")
	}
	for _, q := range [][]api.Ins{nil, p[:1], {p[1], p[0]}, {p[0], {Op: 99, A: "a", M: 4}}, {p[0], {Op: 99, B: "a", M: 3}}, {p[0], {Op: 98, A: "a", M: 3}}} {
		if program.Same(p, q) || program.Same(q, p) {
			t.Errorf("%v", q)
		}
	}
}
