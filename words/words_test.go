package words

import "testing"

func TestNumber(t *testing.T) {
	for word, want := range map[string]int{"0": 0, "7": 7, "10": 10, "999999": 999999} {
		if n, ok := Number(word); n != want || !ok {
			t.Errorf("%q: %d, %v", word, n, ok)
		}
	}
	for _, word := range []string{"", "00", "01", "1000000", "-1", "+1", "1a", "a", " 1", "٣", "1\xff"} {
		if n, ok := Number(word); n != 0 || ok {
			t.Errorf("%q: %d, %v", word, n, ok)
		}
	}
}

func TestQuoted(t *testing.T) {
	for word, want := range map[string]string{"": `""`, "a b": `"a b"`, "\n\"\\": `"\n\"\\"`, "é\xff\x00": "\"é\xff\x00\""} {
		if got := Quoted(word); got != want {
			t.Errorf("%q: %q", word, got)
		}
	}
}
