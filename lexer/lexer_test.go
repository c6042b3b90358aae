package lexer_test

import (
	"slices"
	"strings"
	"testing"

	"murmuration/api"
	"murmuration/lexer"
)

// P13.1: the words of one line.
func TestWords(t *testing.T) {
	for line, want := range map[string][]string{
		`subst a "x y" "" # z`: {"subst", "a", "x y", ""},
		`"a\nb"`:               {"a\nb"},
		`"\"\\\n"`:             {"\"\\\n"},
		`a b`:                  {"a", "b"},
		" \ta\t \tb\t ":        {"a", "b"},
		`a#b "c`:               {"a"},
		`"a#b"#c`:              {"a#b"},
		`a\n`:                  {`a\n`},
		`\`:                    {`\`},
		`""`:                   {""},
		"\"\" \"\"\t\"\"#":     {"", "", ""},
		`ä "€𝄞" é`:             {"ä", "€𝄞", "é"},
		"\u0080 \ufffd \ufeff": {"\u0080", "\ufffd", "\ufeff"},
		"a # \x01\x7f \" \\":   {"a"},
		"é\u00a0b":             {"é\u00a0b"},
	} {
		l, at, e := lexer.Lines([]byte(line))
		if e != api.OK || at != 0 || len(l) != 1 || l[0].N != 1 || !slices.Equal(l[0].Words, want) {
			t.Errorf("%q: %v, %d, %d", line, l, at, e)
		}
	}
}

var wrong = []string{
	`a"b"`, `a"`, `"`, `"a`, `"a\"`, `"a\`, `"a\x"`, `"a\t"`, `"a\N"`, `"a"b`, `"a""b"`, `"a"\`, "\"a\tb\"", "\"\x7f\"", "\"a\x00\"", "a\x01", "\x7f", "a\r", "\r", "\x0b", "\x0c", "\x00",
	"a\xff", "# \xff", "\xc3", "\xc0\x80", "\xed\xa0\x80", "\xf4\x90\x80\x80", "\"\xe2\x82\"", "\xe0\x80\xaf", "\xf8\x88\x80\x80\x80",
}

// P13.1: lines that are none, with their number; only the first one counts.
func TestWrong(t *testing.T) {
	for _, line := range wrong {
		for ahead := range 3 {
			text := strings.Repeat("word \"w\" # x\n", ahead) + line + "\n\"\nb"
			if l, at, e := lexer.Lines([]byte(text)); l != nil || at != ahead+1 || e != api.ErrForm {
				t.Errorf("%q: %v, %d, %d", text, l, at, e)
			}
		}
	}
	if _, at, e := lexer.Lines([]byte("a\nb\n\"c\n\xff")); at != 3 || e != api.ErrForm {
		t.Error(at, e)
	}
	if _, at, e := lexer.Lines([]byte("a\n\xc3\n\x80")); at != 2 || e != api.ErrForm {
		t.Error("a rune that a line's end cuts", at, e)
	}
}

// P13.1: lines' numbers; those without words are left out.
func TestLines(t *testing.T) {
	l, at, e := lexer.Lines([]byte("\na b\n\n # x\n\"\"\n  \nc"))
	if e != api.OK || at != 0 || len(l) != 3 {
		t.Fatal(l, at, e)
	}
	for i, want := range []api.Line{{N: 2, Words: []string{"a", "b"}}, {N: 5, Words: []string{""}}, {N: 7, Words: []string{"c"}}} {
		if l[i].N != want.N || !slices.Equal(l[i].Words, want.Words) {
			t.Error(l[i])
		}
	}
	for _, b := range [][]byte{nil, {}, []byte("\n"), []byte("#"), []byte("\n\n \t\n")} {
		if l, at, e := lexer.Lines(b); len(l) != 0 || at != 0 || e != api.OK {
			t.Errorf("%q: %v", b, l)
		}
	}
}

// P13.1: how long it may be.
func TestLong(t *testing.T) {
	b := []byte(strings.Repeat("a", api.MaxBuild))
	if l, at, e := lexer.Lines(b); e != api.OK || at != 0 || len(l[0].Words[0]) != api.MaxBuild {
		t.Error(at, e)
	}
	for _, x := range []string{"a", "\xff", "\""} {
		if l, at, e := lexer.Lines(append(b[:len(b):len(b)], x...)); l != nil || at != 0 || e != api.ErrLong {
			t.Error(at, e)
		}
	}
}

// P13.1: more blanks and remarks change nothing but numbers.
func TestBlanks(t *testing.T) {
	text := "target a b\nsubst x \"y z\" \"#\"\nend"
	l, _, _ := lexer.Lines([]byte(text))
	m, _, e := lexer.Lines([]byte("# first\n\n" + strings.ReplaceAll(strings.ReplaceAll(text, " x ", " \t x\t"), "\n", "\t# r\n\n") + " #"))
	if e != api.OK || len(l) != len(m) {
		t.Fatal(l, m, e)
	}
	for i := range l {
		if !slices.Equal(l[i].Words, m[i].Words) {
			t.Error(l[i], m[i])
		}
	}
}
