package claims_test

import (
	"math"
	"math/rand"
	"slices"
	"testing"

	"murmuration/api"
	"murmuration/claims"
)

var key, other = api.Digest{1}, api.Digest{2}

func claim(node int, inc, count uint64) api.Claim {
	return api.Claim{Key: key, Node: node, Inc: inc, Count: count}
}

func release(node int, inc, count uint64) api.Claim {
	c := claim(node, inc, count)
	c.Gone = true
	return c
}

func tries(t *testing.T, b *claims.Book, now int, ready bool, want ...api.Claim) {
	t.Helper()
	send, got := b.Try(key, now)
	if got != ready || !slices.Equal(send, want) {
		t.Errorf("Try at %d: %v, %v", now, send, got)
	}
}

func hears(t *testing.T, b *claims.Book, c api.Claim, now int, want ...api.Claim) {
	t.Helper()
	if send, e := b.Hear(c, now); e != api.OK || !slices.Equal(send, want) {
		t.Errorf("Hear of %v at %d: %v, %d", c, now, send, e)
	}
}

func lives(t *testing.T, b *claims.Book, now, node int, ok bool) {
	t.Helper()
	if n, got := b.Live(key, now); n != node || got != ok {
		t.Errorf("Live at %d: %d, %v", now, n, got)
	}
}

// P22.1: New.
func TestNew(t *testing.T) {
	for i, b := range []*claims.Book{claims.New(-1, 0, 0, 0), claims.New(16, 0, 0, 0), claims.New(0, api.MaxInc+1, 0, 0), claims.New(0, 0, -1, 0), claims.New(0, 0, 1000001, 0), claims.New(0, 0, 0, -1), claims.New(0, 0, 0, 1000001), claims.New(math.MinInt, 0, 0, 0), claims.New(0, math.MaxUint64, 0, 0)} {
		if b != nil {
			t.Errorf("wrong %d", i)
		}
	}
	if claims.New(15, api.MaxInc, 1000000, 1000000) == nil || claims.New(0, 0, 0, 0) == nil {
		t.Error("right ones")
	}
}

// P22.2: the examples, and what is claimed when.
func TestTry(t *testing.T) {
	b := claims.New(3, 7, 5, 20)
	tries(t, b, 0, false, claim(3, 7, 1))
	tries(t, b, 4, false)
	tries(t, b, 5, true)
	tries(t, b, 9, true)
	if !b.Mine(key) || b.Mine(other) {
		t.Error("Mine")
	}
	if send, _ := b.Try(other, 9); len(send) != 1 || send[0] != (api.Claim{Key: other, Node: 3, Inc: 7, Count: 2}) {
		t.Error(send)
	}
	if !slices.Equal(b.Drop(key), []api.Claim{release(3, 7, 1)}) || len(b.Drop(key)) != 0 || b.Mine(key) || !b.Mine(other) {
		t.Error("Drop")
	}
	tries(t, b, 9, false, claim(3, 7, 3))
	b = claims.New(3, 0, 5, 20)
	tries(t, b, 0, false, claim(3, 0, 1))
	hears(t, b, claim(1, 0, 1), 3, release(3, 0, 1))
	tries(t, b, 22, false)
	tries(t, b, 23, false, claim(3, 0, 2))
	b = claims.New(3, 0, 0, 0)
	tries(t, b, 4, false, claim(3, 0, 1))
	tries(t, b, 4, true)
}

// P22.3: who gives way, and when no more.
func TestGiveWay(t *testing.T) {
	b := claims.New(3, 0, 5, 20)
	tries(t, b, 0, false, claim(3, 0, 1))
	hears(t, b, claim(4, 0, 1), 1)
	if !b.Mine(key) {
		t.Error("a greater node's claim")
	}
	tries(t, b, 5, false)
	hears(t, b, release(4, 0, 1), 5)
	tries(t, b, 5, true)
	hears(t, b, claim(1, 0, 1), 5)
	if !b.Mine(key) {
		t.Error("a claim that is ready stays")
	}
	tries(t, b, 6, false)
	lives(t, b, 24, 1, true)
	lives(t, b, 25, 0, false)
	tries(t, b, 25, true)
	b = claims.New(3, 0, 5, 20)
	tries(t, b, 0, false, claim(3, 0, 1))
	hears(t, b, claim(2, 0, 1), 4, release(3, 0, 1))
	if b.Mine(key) {
		t.Error("a claim that is not ready goes")
	}
}

// P22.3: serials.
func TestSerials(t *testing.T) {
	b := claims.New(3, 0, 5, 20)
	old := func(c api.Claim) {
		t.Helper()
		if send, e := b.Hear(c, 0); send != nil || e != api.ErrOld {
			t.Errorf("%v: %d", c, e)
		}
	}
	hears(t, b, claim(1, 0, 0), 0)
	old(claim(1, 0, 0))
	hears(t, b, claim(1, 2, 5), 0)
	old(claim(1, 2, 5))
	old(claim(1, 2, 4))
	old(claim(1, 1, 9))
	old(release(1, 2, 4))
	old(release(1, 1, 9))
	lives(t, b, 0, 1, true)
	hears(t, b, release(1, 2, 5), 0)
	lives(t, b, 0, 0, false)
	hears(t, b, release(1, 2, 5), 0)
	old(claim(1, 2, 5))
	hears(t, b, release(1, 2, 7), 0)
	old(claim(1, 2, 6))
	old(claim(1, 2, 7))
	hears(t, b, claim(1, 2, 8), 0)
	hears(t, b, claim(2, 0, 1), 0)
	hears(t, b, api.Claim{Key: other, Node: 1, Count: 1}, 0)
	hears(t, b, claim(1, 3, 0), 0)
	hears(t, b, release(5, 0, 0), 0)
	hears(t, b, claim(6, api.MaxInc, api.MaxInc), 0)
	old(claim(5, 0, 0))
}

// P22.3: what may not be.
func TestHearWrong(t *testing.T) {
	b := claims.New(3, 0, 5, 20)
	for _, c := range []api.Claim{claim(-1, 0, 1), claim(16, 0, 1), claim(3, 0, 1), release(3, 0, 1), claim(1, api.MaxInc+1, 1), claim(1, 0, api.MaxInc+1), claim(1, 0, math.MaxUint64)} {
		if send, e := b.Hear(c, 0); send != nil || e != api.ErrArg {
			t.Errorf("%v: %d", c, e)
		}
	}
	lives(t, b, 0, 0, false)
}

// P22.4: the smallest one that lives.
func TestLive(t *testing.T) {
	b := claims.New(3, 0, 5, 20)
	hears(t, b, claim(9, 0, 1), 0)
	lives(t, b, 0, 9, true)
	hears(t, b, claim(5, 0, 1), 4)
	hears(t, b, claim(0, 0, 1), 2)
	lives(t, b, 4, 0, true)
	lives(t, b, 21, 0, true)
	lives(t, b, 22, 5, true)
	hears(t, b, release(5, 0, 1), 22)
	lives(t, b, 22, 0, false)
	hears(t, b, claim(9, 0, 2), 30)
	lives(t, b, 49, 9, true)
	if n, ok := b.Live(other, 30); n != 0 || ok {
		t.Error("another key")
	}
	hears(t, b, claim(9, 0, 3), math.MaxInt-1)
	lives(t, b, math.MaxInt, 9, true)
}

// P22.4: a book that is not there.
func TestNone(t *testing.T) {
	for _, b := range []*claims.Book{nil, {}} {
		tries(t, b, 0, false)
		if send, e := b.Hear(claim(1, 0, 1), 0); send != nil || e != api.ErrNil {
			t.Error(send, e)
		}
		lives(t, b, 0, 0, false)
		if b.Drop(key) != nil || b.Mine(key) {
			t.Error("answers")
		}
	}
}

// P22.5: what was heard once changes nothing when it is heard again.
func TestAgain(t *testing.T) {
	r := rand.New(rand.NewSource(22))
	for range 300 {
		a, b := claims.New(3, 0, 4, 10), claims.New(3, 0, 4, 10)
		var heard []api.Claim
		for now := range 40 {
			c := claim([]int{1, 2, 5}[r.Intn(3)], 0, uint64(now))
			c.Gone = r.Intn(3) == 0
			a.Hear(c, now)
			b.Hear(c, now)
			heard = append(heard, c)
			send, e := b.Hear(heard[r.Intn(len(heard))], now)
			if send != nil || e != api.OK && e != api.ErrOld {
				t.Fatal(send, e)
			}
			sendA, readyA := a.Try(key, now)
			sendB, readyB := b.Try(key, now)
			nodeA, liveA := a.Live(key, now)
			nodeB, liveB := b.Live(key, now)
			if !slices.Equal(sendA, sendB) || readyA != readyB || nodeA != nodeB || liveA != liveB {
				t.Fatal(now, sendA, sendB)
			}
		}
	}
}

// game is nodes that try in each tick as long as they have not heard a result; packets need 1 to d ticks.
type game struct {
	r      *rand.Rand
	d, run int
	books  []*claims.Book
	way    map[int][]func(now int)
	heard  []bool
	over   []int // at which tick a node's run is over; 0: it does not run
	begun  int
}

func (g *game) send(from, now int, do func(to, now int)) {
	for to := range g.books {
		if to != from {
			at := now + 1 + g.r.Intn(g.d)
			g.way[at] = append(g.way[at], func(now int) { do(to, now) })
		}
	}
}

func (g *game) sendClaims(from, now int, l []api.Claim) {
	for _, c := range l {
		g.send(from, now, func(to, now int) {
			answer, _ := g.books[to].Hear(c, now)
			g.sendClaims(to, now, answer)
		})
	}
}

func (g *game) tick(n, now int) {
	switch {
	case g.over[n] == now && now > 0:
		g.heard[n] = true
		g.send(n, now, func(to, now int) { g.heard[to] = true })
		g.sendClaims(n, now, g.books[n].Drop(key))
	case g.over[n] == 0 && !g.heard[n]:
		send, ready := g.books[n].Try(key, now)
		g.sendClaims(n, now, send)
		if ready {
			g.begun++
			g.over[n] = now + g.run
		}
	}
}

// P22.6: of nodes that try, just one runs.
func TestJustOne(t *testing.T) {
	for seed := range int64(400) {
		r := rand.New(rand.NewSource(seed))
		nodes, d, run := 2+r.Intn(7), 1+r.Intn(4), 1+r.Intn(6)
		wait := 2*d + 1 + r.Intn(3)
		ttl := wait + run + d + 2*d + 1
		g := &game{r: r, d: d, run: run, way: map[int][]func(int){}, heard: make([]bool, nodes), over: make([]int, nodes)}
		for n := range nodes {
			g.books = append(g.books, claims.New(n, 0, wait, ttl))
		}
		begin := make([]int, nodes)
		for n := range begin {
			begin[n] = r.Intn(12)
		}
		for now := range 400 {
			for _, do := range g.way[now] {
				do(now)
			}
			for n := range nodes {
				if now >= begin[n] {
					g.tick(n, now)
				}
			}
		}
		if g.begun != 1 || slices.Contains(g.heard, false) {
			t.Errorf("seed %d: %d nodes, d %d, run %d: %d have run", seed, nodes, d, run, g.begun)
		}
	}
}
