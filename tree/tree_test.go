package tree_test

import (
	"bytes"
	"math/rand"
	"strings"
	"testing"

	"murmuration/api"
	"murmuration/merkle"
	"murmuration/tree"
)

func file(path, text string) api.File { return api.File{Path: path, Bytes: []byte(text)} }

func many(n, size int) api.Tree {
	var t api.Tree
	for i := range n {
		t = append(t, file("f"+string(rune('a'+i)), strings.Repeat("x", size)))
	}
	return t
}

// P5.1: which texts are paths.
func TestIsPath(t *testing.T) {
	for _, s := range []string{"a", "9", ".", "..", "_-", "a/b", "a/./b", "abc.d/e-f/g_h/0", strings.Repeat("a", 40), "a/" + strings.Repeat("b", 38)} {
		if !tree.IsPath(s) {
			t.Errorf("%q is a path", s)
		}
	}
	for _, s := range []string{"", "/", "/a", "a/", "a//b", "A", "a b", "a\x00", "ä", "\xff", "a\xc3", "a:b", "`", "{", "@", strings.Repeat("a", 41), "a\n", "\ufffd"} {
		if tree.IsPath(s) {
			t.Errorf("%q is no path", s)
		}
	}
}

var wrong = []api.Tree{
	{file("A", "")}, {file("", "")}, {file("b", ""), file("a", "")}, {file("a", ""), file("a", "")},
	{file("a", strings.Repeat("x", 2001))}, many(17, 0), many(3, 1334), {file("a/", "x")},
}

var right = []api.Tree{
	nil, {}, {file("a", "xy")}, {file("a", strings.Repeat("x", 2000)), file("b", strings.Repeat("x", 2000))},
	many(16, 250), many(16, 0), {file("a", ""), file("a/b", "1"), file("a0", "2")},
	{file("a-", "x"), file("a/b", "y"), file("ab", "z")},
}

// P5.1: which trees may be, and what the others answer.
func TestMay(t *testing.T) {
	for i, x := range right {
		if !tree.May(x) {
			t.Errorf("right %d", i)
		}
	}
	for i, x := range wrong {
		if tree.May(x) {
			t.Errorf("wrong %d", i)
		}
		if b, e := tree.Bytes(x); b != nil || e != api.ErrArg {
			t.Errorf("Bytes of wrong %d: %d", i, e)
		}
		if r, e := tree.Root(x); r != (api.Digest{}) || e != api.ErrArg {
			t.Errorf("Root of wrong %d: %d", i, e)
		}
		if b, ok := tree.Get(x, "a"); b != nil || ok {
			t.Errorf("Get of wrong %d", i)
		}
		if y, e := tree.With(x, "a", nil); y != nil || e != api.ErrArg {
			t.Errorf("With of wrong %d: %d", i, e)
		}
		if tree.Below(x, "a") != nil {
			t.Errorf("Below of wrong %d", i)
		}
		if y, e := tree.Under(x, "a"); y != nil || e != api.ErrArg {
			t.Errorf("Under of wrong %d: %d", i, e)
		}
		if y, e := tree.Join(x, nil); y != nil || e != api.ErrArg {
			t.Errorf("Join of wrong %d: %d", i, e)
		}
		if y, e := tree.Join(nil, x); y != nil || e != api.ErrArg {
			t.Errorf("Join with wrong %d: %d", i, e)
		}
	}
}

// P5.1: bytes and roots; what is written is read.
func TestBytes(t *testing.T) {
	b, e := tree.Bytes(api.Tree{file("a", "xy")})
	if e != api.OK || !bytes.Equal(b, []byte{1, 1, 1, 1, 'a', 1, 2, 'x', 'y'}) {
		t.Errorf("%v, %d", b, e)
	}
	for i, x := range right {
		b, e := tree.Bytes(x)
		if e != api.OK || len(b) > api.MaxBlob {
			t.Errorf("Bytes of right %d: %d", i, e)
		}
		y, e := tree.Read(b)
		if e != api.OK || !tree.Same(x, y) {
			t.Errorf("Read of right %d: %d", i, e)
		}
		if r, e := tree.Root(x); r != merkle.Root(b) || e != api.OK {
			t.Errorf("Root of right %d: %d", i, e)
		}
		for _, z := range [][]byte{b[:len(b)-1], append(bytes.Clone(b), 0), append([]byte{0}, b...)} {
			if y, e := tree.Read(z); y != nil || e != api.ErrForm {
				t.Errorf("Read near right %d: %d", i, e)
			}
		}
		for j := range y {
			if len(y[j].Bytes) > 0 {
				y[j].Bytes[0]++
			}
		}
		if again, _ := tree.Bytes(x); !bytes.Equal(again, b) {
			t.Errorf("Read of right %d shares memory", i)
		}
	}
}

// P5.1: bytes that are those of no tree.
func TestReadWrong(t *testing.T) {
	for _, b := range [][]byte{
		nil, {1}, {1, 17}, {9}, {1, 1}, {1, 1, 1, 1, 'a'}, {1, 1, 1, 1, 'A', 0}, {1, 1, 0, 0}, {1, 2, 1, 1, 'b', 0, 1, 1, 'a', 0}, {1, 2, 1, 1, 'a', 0, 1, 1, 'a', 0},
		{1, 1, 2, 0, 1, 'a', 0}, {8, 255, 255, 255, 255, 255, 255, 255, 255}, {1, 0}, {0, 0},
	} {
		if x, e := tree.Read(b); x != nil || e != api.ErrForm {
			t.Errorf("Read of %v: %d", b, e)
		}
	}
}

// P5.2: Get and With.
func TestGetWith(t *testing.T) {
	x := api.Tree{file("a", "1"), file("c", "3")}
	y, e := tree.With(x, "b", []byte("2"))
	if e != api.OK || !tree.Same(y, api.Tree{file("a", "1"), file("b", "2"), file("c", "3")}) {
		t.Error(y, e)
	}
	y, e = tree.With(x, "c", nil)
	if e != api.OK || !tree.Same(y, api.Tree{file("a", "1"), file("c", "")}) {
		t.Error(y, e)
	}
	if b, ok := tree.Get(y, "c"); len(b) != 0 || !ok {
		t.Error("an empty file is there")
	}
	y[0].Bytes[0] = 'z'
	b, ok := tree.Get(x, "a")
	if string(b) != "1" || !ok {
		t.Error("With shares memory")
	}
	b[0] = 'q'
	if string(x[0].Bytes) != "1" {
		t.Error("Get shares memory")
	}
	for _, path := range []string{"", "A", "b", "a/"} {
		if b, ok := tree.Get(x, path); b != nil || ok {
			t.Errorf("Get of %q", path)
		}
	}
	for _, path := range []string{"", "A", "a/"} {
		if y, e := tree.With(x, path, make([]byte, 3000)); y != nil || e != api.ErrArg {
			t.Errorf("With of %q: %d", path, e)
		}
	}
	if y, e := tree.With(x, "a", make([]byte, 2001)); y != nil || e != api.ErrFull {
		t.Error("a long file", e)
	}
	if y, e := tree.With(many(16, 0), "z", nil); y != nil || e != api.ErrFull {
		t.Error("a seventeenth file", e)
	}
	if _, e := tree.With(many(16, 0), "fa", nil); e != api.OK {
		t.Error("a file in another one's place", e)
	}
	if y, e := tree.With(many(2, 2000), "z", []byte("x")); y != nil || e != api.ErrFull {
		t.Error("too many bytes", e)
	}
}

// P5.2: Below and Under.
func TestBelowUnder(t *testing.T) {
	x := api.Tree{file("a", "xy"), file("d/e/a", "1"), file("d/e0", "2"), file("de", "3")}
	if y := tree.Below(x, "d"); !tree.Same(y, api.Tree{file("e/a", "1"), file("e0", "2")}) {
		t.Error(y)
	}
	y := tree.Below(x, "d/e")
	if !tree.Same(y, api.Tree{file("a", "1")}) {
		t.Error(y)
	}
	y[0].Bytes[0] = 'z'
	if string(x[1].Bytes) != "1" {
		t.Error("Below shares memory")
	}
	for _, dir := range []string{"", "/", "d/", "D", "a", "x"} {
		if y := tree.Below(x, dir); len(y) != 0 {
			t.Errorf("Below of %q: %v", dir, y)
		}
	}
	y, e := tree.Under(api.Tree{file("a", "xy")}, "d/e")
	if e != api.OK || !tree.Same(y, api.Tree{file("d/e/a", "xy")}) {
		t.Error(y, e)
	}
	for _, dir := range []string{"", "/", "d/", "D", strings.Repeat("d", 41)} {
		if y, e := tree.Under(x, dir); y != nil || e != api.ErrArg {
			t.Errorf("Under %q: %d", dir, e)
		}
	}
	long := api.Tree{file(strings.Repeat("a", 38), "")}
	if y, e := tree.Under(long, "d"); e != api.OK || len(y[0].Path) != 40 {
		t.Error("a path of forty", e)
	}
	if y, e := tree.Under(long, "dd"); y != nil || e != api.ErrFull {
		t.Error("a path of forty-one", e)
	}
	for i, x := range right {
		if y, e := tree.Under(x, "dir"); e != api.OK || !tree.Same(tree.Below(y, "dir"), x) {
			t.Errorf("what is put under a directory is below it: right %d", i)
		}
	}
}

// P5.2: Join.
func TestJoin(t *testing.T) {
	a, b := api.Tree{file("a", "1"), file("c", "3")}, api.Tree{file("b", "2"), file("d", "4")}
	want := api.Tree{file("a", "1"), file("b", "2"), file("c", "3"), file("d", "4")}
	for _, pair := range [][2]api.Tree{{a, b}, {b, a}} {
		y, e := tree.Join(pair[0], pair[1])
		if e != api.OK || !tree.Same(y, want) {
			t.Error(y, e)
		}
		y[0].Bytes[0] = 'z'
	}
	if string(a[0].Bytes) != "1" {
		t.Error("Join shares memory")
	}
	if y, e := tree.Join(a, a); y != nil || e != api.ErrTwice {
		t.Error(e)
	}
	if y, e := tree.Join(many(16, 250), api.Tree{file("fa", "")}); y != nil || e != api.ErrTwice {
		t.Error("twice is told ahead of full", e)
	}
	if y, e := tree.Join(many(16, 0), api.Tree{file("z", "")}); y != nil || e != api.ErrFull {
		t.Error(e)
	}
	if y, e := tree.Join(many(2, 2000), api.Tree{file("z", "1")}); y != nil || e != api.ErrFull {
		t.Error(e)
	}
	if y, e := tree.Join(nil, nil); len(y) != 0 || e != api.OK {
		t.Error(e)
	}
}

// P5.3: Same, of any trees.
func TestSame(t *testing.T) {
	if !tree.Same(nil, api.Tree{}) || !tree.Same(api.Tree{{Path: "a"}}, api.Tree{{Path: "a", Bytes: []byte{}}}) {
		t.Error("none and empty are one")
	}
	x := api.Tree{file("b", "1"), file("A", "2")}
	if !tree.Same(x, api.Tree{file("b", "1"), file("A", "2")}) {
		t.Error("trees that may not be")
	}
	for _, y := range []api.Tree{nil, x[:1], {x[1], x[0]}, {file("b", "2"), file("A", "2")}, {file("b", "1"), file("B", "2")}} {
		if tree.Same(x, y) || tree.Same(y, x) {
			t.Errorf("%v", y)
		}
	}
}

// P5.1: bytes changed at chance are never read as another form of a tree.
func TestReadOneForm(t *testing.T) {
	r := rand.New(rand.NewSource(5))
	b, _ := tree.Bytes(api.Tree{file("a", "12"), file("b/c", "345"), file("d", "")})
	for range 20000 {
		c := bytes.Clone(b)
		for range 1 + r.Intn(2) {
			c[r.Intn(len(c))] = byte(r.Intn(100))
		}
		if x, e := tree.Read(c); e == api.OK {
			if again, _ := tree.Bytes(x); !bytes.Equal(again, c) {
				t.Fatalf("%v is read as %v", c, x)
			}
		}
	}
}
