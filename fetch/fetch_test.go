package fetch_test

import (
	"bytes"
	"math"
	"math/rand"
	"testing"

	"murmuration/api"
	"murmuration/fetch"
	"murmuration/merkle"
)

func row(n int) []byte {
	b := make([]byte, n)
	for i := range b {
		b[i] = byte(i*3 + i>>6)
	}
	return b
}

func begin(t *testing.T, b []byte, peers []int, window, time, budget, now int) *fetch.Fetch {
	t.Helper()
	f, e := fetch.New(merkle.Root(b), len(b), peers, window, time, budget, now)
	if e != api.OK || f == nil {
		t.Fatal(e)
	}
	return f
}

func next(t *testing.T, f *fetch.Fetch, now, chunk, peer int) {
	t.Helper()
	if c, n, ok := f.Next(now); c != chunk || n != peer || !ok {
		t.Errorf("Next(%d): %d, %d, %v; want %d, %d", now, c, n, ok, chunk, peer)
	}
}

func none(t *testing.T, f *fetch.Fetch, now int) {
	t.Helper()
	if c, n, ok := f.Next(now); c != 0 || n != 0 || ok {
		t.Errorf("Next(%d): %d, %d, %v; want none", now, c, n, ok)
	}
}

func give(f *fetch.Fetch, b []byte, peer, chunk int) api.Errno {
	c, _ := merkle.Chunk(b, chunk)
	p, _ := merkle.Proof(b, chunk)
	return f.Hear(peer, chunk, c, p)
}

// P24.1: New.
func TestNew(t *testing.T) {
	many := make([]int, 65)
	for i := range many {
		many[i] = i
	}
	for i, x := range []struct {
		length               int
		peers                []int
		window, time, budget int
	}{
		{0, nil, 1, 1, 1}, {-1, nil, 1, 1, 1}, {5001, nil, 1, 1, 1}, {math.MaxInt, nil, 1, 1, 1}, {1, []int{7, 9, 7}, 1, 1, 1}, {1, many, 1, 1, 1},
		{1, nil, 0, 1, 1}, {1, nil, 101, 1, 1}, {1, nil, 1, 0, 1}, {1, nil, 1, 1000001, 1}, {1, nil, 1, 1, 0}, {1, nil, 1, 1, 1000001}, {1, nil, 1, 1, -1},
	} {
		if f, e := fetch.New(api.Digest{}, x.length, x.peers, x.window, x.time, x.budget, 0); f != nil || e != api.ErrArg {
			t.Errorf("wrong %d: %d", i, e)
		}
	}
	f, e := fetch.New(api.Digest{1}, 5000, many[:64], 100, 1000000, 1000000, math.MinInt)
	if e != api.OK || f.Root() != (api.Digest{1}) || f.Length() != 5000 || f.Left() != 79 {
		t.Error("the greatest", e)
	}
	if f, e := fetch.New(api.Digest{1}, 1, nil, 1, 1, 1, 0); e != api.OK || f.Length() != 1 || f.Left() != 1 {
		t.Error("the least", e)
	}
	peers := []int{-5, 3}
	b := row(65)
	f = begin(t, b, peers, 1, 5, 9, 0)
	peers[0] = 8
	next(t, f, 0, 0, -5)
}

// P24.2: the example, and what is heard.
func TestHear(t *testing.T) {
	b := row(65)
	f := begin(t, b, []int{7, 9}, 1, 5, 50, 0)
	next(t, f, 0, 0, 7)
	next(t, f, 0, 1, 9)
	none(t, f, 0)
	if f.Hear(7, 0, []byte("wrong"), nil) != api.ErrForm {
		t.Error("a wrong chunk")
	}
	next(t, f, 0, 0, 7)
	for _, x := range [][2]int{{8, 0}, {7, -1}, {7, 2}, {0, 0}, {7, math.MaxInt}} {
		if give(f, b, x[0], x[1]) != api.ErrNone || f.Hear(x[0], x[1], nil, nil) != api.ErrNone {
			t.Error(x)
		}
	}
	if f.Hear(9, 0, []byte("wrong"), nil) != api.ErrForm {
		t.Error("a wrong chunk of a peer that was not asked")
	}
	none(t, f, 0)
	if give(f, b, 9, 0) != api.OK || give(f, b, 7, 0) != api.ErrTwice || f.Hear(7, 0, []byte("wrong"), nil) != api.ErrTwice || f.Left() != 1 {
		t.Error("a chunk that was asked of another one")
	}
	if x, ok := f.Blob(); x != nil || ok || f.Over(0) {
		t.Error("too early")
	}
	if give(f, b, 7, 1) != api.OK {
		t.Error("the last chunk")
	}
	x, ok := f.Blob()
	if !ok || !bytes.Equal(x, b) || f.Over(0) || f.Over(99) || f.Left() != 0 {
		t.Error("the blob")
	}
	x[0]++
	if x, _ := f.Blob(); !bytes.Equal(x, b) {
		t.Error("memory is shared")
	}
	none(t, f, 9)
}

// P24.2: a wrong answer costs a demerit only of the peer that was asked.
func TestDemerits(t *testing.T) {
	b := row(10)
	f := begin(t, b, []int{7, 9}, 1, 5, 50, 0)
	next(t, f, 0, 0, 7)
	for range 9 {
		f.Hear(9, 0, nil, nil)
	}
	for i, peer := range []int{7, 9, 7, 9, 7, 9} {
		if i > 0 {
			next(t, f, 0, 0, peer)
		}
		if f.Over(0) {
			t.Error("over at", i)
		}
		p, _ := merkle.Proof(b, 0)
		if f.Hear(peer, 0, b[1:], p) != api.ErrForm {
			t.Error("wrong bytes")
		}
	}
	if !f.Over(0) || f.Left() != 1 {
		t.Error("all are banned")
	}
	none(t, f, 0)
	if give(f, b, 9, 0) != api.OK || f.Over(0) {
		t.Error("a right chunk of a banned peer")
	}
}

// P24.3: when it is over.
func TestOver(t *testing.T) {
	b := row(10)
	f := begin(t, b, []int{7}, 1, 5, 3, 10)
	for now, want := range map[int]bool{10: false, 12: false, 13: true, 9: true, math.MinInt: true, math.MaxInt: true} {
		if f.Over(now) != want {
			t.Error(now)
		}
	}
	none(t, f, 9)
	none(t, f, 13)
	next(t, f, 12, 0, 7)
	if give(f, b, 7, 0) != api.OK || f.Over(13) || f.Over(9) {
		t.Error("had")
	}
	if x, ok := f.Blob(); !ok || !bytes.Equal(x, b) {
		t.Error("the blob")
	}
	if f := begin(t, b, nil, 1, 5, 3, 10); !f.Over(10) {
		t.Error("nobody to ask")
	}
}

// P24.3: a fetch that is not there.
func TestNone(t *testing.T) {
	for _, f := range []*fetch.Fetch{nil, {}} {
		none(t, f, 0)
		x, ok := f.Blob()
		if f.Hear(0, 0, nil, nil) != api.ErrNil || x != nil || ok || !f.Over(0) || f.Left() != 0 || f.Root() != (api.Digest{}) || f.Length() != 0 {
			t.Error("answers")
		}
	}
}

// P24.4: as long as one peer answers rightly in time, the blob comes, and no other one.
func TestOneHonest(t *testing.T) {
	r := rand.New(rand.NewSource(24))
	for range 200 {
		b := row(1 + r.Intn(5000))
		var peers []int
		for i := range 2 + r.Intn(6) {
			peers = append(peers, 10*i)
		}
		honest := peers[r.Intn(len(peers))]
		f := begin(t, b, peers, 1+r.Intn(20), 2, 100000, 0)
		for now := 0; !f.Over(now); now++ {
			if x, ok := f.Blob(); ok {
				if !bytes.Equal(x, b) {
					t.Fatal("another blob")
				}
				break
			}
			for {
				chunk, peer, ok := f.Next(now)
				if !ok {
					break
				}
				switch {
				case peer == honest:
					give(f, b, peer, chunk)
				case r.Intn(2) == 0:
					f.Hear(peer, chunk, row(r.Intn(65)), make([]api.Digest, r.Intn(8)))
				}
			}
		}
		if _, ok := f.Blob(); !ok {
			t.Fatal("it does not come")
		}
	}
}
