package merkle_test

import (
	"bytes"
	"crypto/sha256"
	"encoding/binary"
	"math"
	"slices"
	"testing"

	"murmuration/api"
	"murmuration/merkle"
)

func row(n int) []byte {
	b := make([]byte, n)
	for i := range b {
		b[i] = byte(i*13 + i/64)
	}
	return b
}

func digest(parts ...[]byte) api.Digest { return sha256.Sum256(bytes.Join(parts, nil)) }

func number(n int) []byte { return binary.BigEndian.AppendUint64(nil, uint64(n)) }

// plainRoot makes a root straight as the words tell it.
func plainRoot(b []byte) api.Digest {
	var level []api.Digest
	for i := 0; i == 0 || i*64 < len(b); i++ {
		level = append(level, digest([]byte{0}, number(i), b[i*64:min(len(b), i*64+64)]))
	}
	for len(level) > 1 {
		var up []api.Digest
		for i := 0; i < len(level); i += 2 {
			if i+1 == len(level) {
				up = append(up, level[i])
			} else {
				up = append(up, digest([]byte{1}, level[i][:], level[i+1][:]))
			}
		}
		level = up
	}
	return digest([]byte{2}, number(len(b)), level[0][:])
}

var lengths = []int{0, 1, 63, 64, 65, 127, 128, 129, 192, 193, 256, 257, 320, 321, 449, 577, 1000, 4999, 5000}

// P4.1: Count.
func TestCount(t *testing.T) {
	for n, want := range map[int]int{-1: 0, math.MinInt: 0, 0: 1, 1: 1, 64: 1, 65: 2, 128: 2, 129: 3, 5000: 79, math.MaxInt: 1 << 57} {
		if got := merkle.Count(n); got != want {
			t.Errorf("Count of %d: %d", n, got)
		}
	}
}

// P4.1: chunks are the blob, in their own memory; no others are there.
func TestChunk(t *testing.T) {
	for _, n := range lengths {
		b := row(n)
		var all []byte
		for i := range merkle.Count(n) {
			c, e := merkle.Chunk(b, i)
			if e != api.OK {
				t.Errorf("Chunk %d of %d: %d", i, n, e)
			}
			all = append(all, c...)
			for j := range c {
				c[j]++
			}
		}
		if !bytes.Equal(all, row(n)) || !bytes.Equal(b, row(n)) {
			t.Errorf("chunks of %d bytes are not they", n)
		}
		for _, i := range []int{-1, merkle.Count(n), math.MinInt, math.MaxInt} {
			if c, e := merkle.Chunk(b, i); c != nil || e != api.ErrNone {
				t.Errorf("Chunk %d of %d: %d", i, n, e)
			}
			if p, e := merkle.Proof(b, i); p != nil || e != api.ErrNone {
				t.Errorf("Proof %d of %d: %d", i, n, e)
			}
		}
	}
}

// P4.1: Root.
func TestRoot(t *testing.T) {
	for _, n := range lengths {
		if merkle.Root(row(n)) != plainRoot(row(n)) {
			t.Errorf("Root of %d", n)
		}
	}
}

// P4.1: how long proofs are.
func TestProofLengths(t *testing.T) {
	for chunks, want := range map[int][]int{1: {0}, 2: {1, 1}, 3: {2, 2, 1}, 5: {3, 3, 3, 3, 1}, 6: {3, 3, 3, 3, 2, 2}} {
		var got []int
		for i := range chunks {
			p, _ := merkle.Proof(row(64*chunks), i)
			got = append(got, len(p))
		}
		if !slices.Equal(got, want) {
			t.Errorf("proofs of %d chunks: %v", chunks, got)
		}
	}
}

// P4.2, P4.3: each proof is taken, and nothing near it.
func TestCheck(t *testing.T) {
	for _, n := range lengths {
		b := row(n)
		root := merkle.Root(b)
		for i := range merkle.Count(n) {
			c, _ := merkle.Chunk(b, i)
			p, _ := merkle.Proof(b, i)
			if !merkle.Check(root, n, i, c, p) {
				t.Fatalf("chunk %d of %d is not taken", i, n)
			}
			checkWrong(t, root, n, i, c, p)
		}
	}
}

func checkWrong(t *testing.T, root api.Digest, n, i int, c []byte, p []api.Digest) {
	wrong := func(what string, root api.Digest, n, i int, c []byte, p []api.Digest) {
		if merkle.Check(root, n, i, c, p) {
			t.Errorf("chunk %d of %d is taken with another %s", i, n, what)
		}
	}
	other := root
	other[31] ^= 1
	wrong("root", other, n, i, c, p)
	wrong("length", root, n+1, i, c, p)
	wrong("length", root, n-1, i, c, p)
	wrong("length", root, -1, i, c, p)
	wrong("length", root, math.MaxInt, i, c, p)
	wrong("length", root, math.MinInt, i, c, p)
	wrong("place", root, n, i+1, c, p)
	wrong("place", root, n, i-1, c, p)
	wrong("place", root, n, math.MaxInt, c, p)
	wrong("chunk", root, n, i, append(bytes.Clone(c), 0), p)
	if len(c) > 0 {
		d := bytes.Clone(c)
		d[len(d)-1] ^= 128
		wrong("chunk", root, n, i, d, p)
		wrong("chunk", root, n, i, c[1:], p)
	}
	wrong("proof", root, n, i, c, append(slices.Clone(p), api.Digest{}))
	if len(p) > 0 {
		wrong("proof", root, n, i, c, p[1:])
		wrong("proof", root, n, i, c, p[:len(p)-1])
		q := slices.Clone(p)
		q[0][5] ^= 4
		wrong("proof", root, n, i, c, q)
	}
}

// P4.2: a digest inside is not taken for a chunk's: tags keep kinds apart.
func TestTags(t *testing.T) {
	b := row(128)
	c0, _ := merkle.Proof(b, 1)
	c1, _ := merkle.Proof(b, 0)
	forged := append(c0[0][:], c1[0][:]...)
	if merkle.Root(forged) == merkle.Root(b) {
		t.Error("a pair counts as a chunk")
	}
}
