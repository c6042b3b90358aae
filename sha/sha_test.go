package sha_test

import (
	"bytes"
	"crypto/sha256"
	"encoding/hex"
	"strings"
	"testing"

	"murmuration/api"
	"murmuration/sha"
)

func row(n int) []byte {
	b := make([]byte, n)
	for i := range b {
		b[i] = byte(i*7 + i>>8)
	}
	return b
}

// P1.1: the examples.
func TestExamples(t *testing.T) {
	for text, want := range map[string]string{
		"":                           "e3b0c44298fc1c149afbf4c8996fb92427ae41e4649b934ca495991b7852b855",
		"abc":                        "ba7816bf8f01cfea414140de5dae2223b00361a396177a9cb410ff61f20015ad",
		strings.Repeat("a", 1000000): "cdc76e5c9914fb9281a1c7e284d73e67f1809a48a497200e046d39ccc7112cd0",
	} {
		d := sha.Sum([]byte(text))
		if got := hex.EncodeToString(d[:]); got != want {
			t.Errorf("Sum of %d bytes: %s", len(text), got)
		}
	}
}

// P1.1: every length around the edges of blocks and of the padding.
func TestLengths(t *testing.T) {
	for n := range 300 {
		b := row(n)
		if sha.Sum(b) != api.Digest(sha256.Sum256(b)) {
			t.Errorf("Sum of %d bytes", n)
		}
		if !bytes.Equal(b, row(n)) {
			t.Errorf("Sum of %d bytes writes to them", n)
		}
	}
}

// P1.1: Parts does not hang on where bytes are cut.
func TestParts(t *testing.T) {
	for n := range 200 {
		b := row(n)
		want := sha.Sum(append([]byte{'x'}, b...))
		for _, cut := range []int{0, 1, n / 3, n / 2, n} {
			cut = min(cut, n)
			if sha.Parts('x', b[:cut], nil, b[cut:]) != want {
				t.Errorf("Parts of %d bytes cut at %d", n, cut)
			}
		}
	}
	if sha.Parts('x') != sha.Sum([]byte("x")) || sha.Parts('x', nil, []byte{}) != sha.Sum([]byte("x")) {
		t.Error("Parts of no parts")
	}
	if sha.Parts('x', []byte("a"), []byte("b")) == sha.Parts('x', []byte("b"), []byte("a")) {
		t.Error("Parts does not hang on the order")
	}
}
