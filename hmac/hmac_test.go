package hmac_test

import (
	"bytes"
	stdhmac "crypto/hmac"
	"crypto/sha256"
	"encoding/hex"
	"testing"

	"murmuration/api"
	"murmuration/hmac"
)

func row(n int) []byte {
	b := make([]byte, n)
	for i := range b {
		b[i] = byte(i*11 + 3)
	}
	return b
}

func library(secret, b []byte) (d api.Digest) {
	h := stdhmac.New(sha256.New, secret)
	h.Write(b)
	copy(d[:], h.Sum(nil))
	return d
}

// P2.1: the example.
func TestExample(t *testing.T) {
	d := hmac.Tag([]byte("Jefe"), []byte("what do ya want for nothing?"))
	if got := hex.EncodeToString(d[:]); got != "5bdcc146bf60754e6a042426089575c75a003f089d2739839dec58b964ec3843" {
		t.Error(got)
	}
}

// P2.1: secrets around the key's size, with bytes of many lengths.
func TestSecrets(t *testing.T) {
	for _, n := range []int{0, 1, 31, 32, 63, 64, 65, 66, 128, 1000} {
		for _, m := range []int{0, 1, 55, 64, 65, 200} {
			secret, b := row(n), row(m)
			if hmac.Tag(secret, b) != library(secret, b) {
				t.Errorf("secret of %d, bytes of %d", n, m)
			}
			if !bytes.Equal(secret, row(n)) || !bytes.Equal(b, row(m)) {
				t.Error("what was handed in is written to")
			}
		}
	}
}

// P2.1: parts count as one row.
func TestParts(t *testing.T) {
	secret, b := []byte("s"), row(90)
	want := hmac.Tag(secret, b)
	parts := [][]byte{b[:10], nil, b[10:64], b[64:]}
	if hmac.Tag(secret, parts...) != want || len(parts) != 4 || parts[1] != nil {
		t.Error("parts")
	}
	if hmac.Tag(secret) != hmac.Tag(secret, nil) || hmac.Tag(nil) != library(nil, nil) {
		t.Error("nothing")
	}
	if hmac.Tag(nil, []byte("ab")) == hmac.Tag([]byte("a"), []byte("b")) {
		t.Error("the secret is no part")
	}
}

// P2.1: every bit counts.
func TestSame(t *testing.T) {
	a := hmac.Tag([]byte("a"))
	if !hmac.Same(a, a) || !hmac.Same(api.Digest{}, api.Digest{}) {
		t.Error("alike")
	}
	for i := range a {
		for bit := range 8 {
			b := a
			b[i] ^= 1 << bit
			if hmac.Same(a, b) || hmac.Same(b, a) {
				t.Errorf("byte %d, bit %d", i, bit)
			}
		}
	}
}
