package words_test

import (
	"testing"

	"murmuration/words"
)

func TestNumber(t *testing.T) {
	for word, want := range map[string]int{"0": 0, "7": 7, "10": 10, "999999": 999999} {
		if n, ok := words.Number(word); n != want || !ok {
			t.Errorf("%q: %d, %v", word, n, ok)
		}
	}
	for _, word := range []string{"", "00", "01", "1000000", "-1", "+1", "1a", "a", " 1", "٣", "1\xff"} {
		if n, ok := words.Number(word); n != 0 || ok {
			t.Errorf("%q: %d, %v", word, n, ok)
		}
	}
}

func TestQuoted(t *testing.T) {
	for word, want := range map[string]string{"": `""`, "a b": `"a b"`, "\n\"\\": `"\n\"\\"`, "é\xff\x00": "\"é\xff\x00\""} {
		if got := words.Quoted(word); got != want {
			t.Errorf("%q: %q", word, got)
		}
	}
}
