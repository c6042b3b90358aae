package vm_test

import (
	"bytes"
	"math"
	"math/rand"
	"strings"
	"testing"

	"murmuration/api"
	"murmuration/tree"
	"murmuration/vm"
)

func file(path, text string) api.File { return api.File{Path: path, Bytes: []byte(text)} }

type run struct {
	name    string
	program []api.Ins
	files   api.Tree
	fuel    int
	out     api.Tree
	used    int
	e       api.Errno
}

func (x run) check(t *testing.T) {
	t.Helper()
	out, used, e := vm.Exec(x.program, x.files, x.fuel)
	if !tree.Same(out, x.out) || used != x.used || e != x.e {
		t.Errorf("%s: %v, %d, %d", x.name, out, used, e)
	}
}

func cp(a, b string) api.Ins { return api.Ins{Op: api.InsCopy, A: a, B: b} }

func text(n int) string { return strings.Repeat("x", n) }

// P7.1: the examples, and what each instruction does.
func TestInstructions(t *testing.T) {
	ab := api.Tree{file("a", "12"), file("b", "345")}
	for _, x := range []run{
		{"nothing", nil, ab, 0, nil, 0, api.OK},
		{"sort", []api.Ins{{Op: api.InsSort, A: "src/a"}, cp("src/a", "out/x")}, api.Tree{file("src/a", "b\na\n")}, 100, api.Tree{file("x", "a\nb\n")}, 4, api.OK},
		{"jump", []api.Ins{{Op: api.InsJump}}, nil, 5, nil, 5, api.ErrFuel},
		{"missing", []api.Ins{cp("a", "b")}, nil, 9, nil, 1, api.ErrMissing},
		{"copy", []api.Ins{cp("a", "out/a")}, ab, 9, api.Tree{file("a", "12")}, 2, api.OK},
		{"copy over", []api.Ins{cp("a", "b"), cp("b", "out/b")}, ab, 9, api.Tree{file("b", "12")}, 4, api.OK},
		{"concat", []api.Ins{{Op: api.InsConcat, A: "a", B: "b", C: "out/c"}}, ab, 9, api.Tree{file("c", "12345")}, 2, api.OK},
		{"concat to itself", []api.Ins{{Op: api.InsConcat, A: "a", B: "a", C: "a"}, cp("a", "out/a")}, ab, 9, api.Tree{file("a", "1212")}, 4, api.OK},
		{"concat of none", []api.Ins{{Op: api.InsConcat, A: "a", B: "z", C: "out/c"}}, ab, 9, nil, 1, api.ErrMissing},
		{"slice", []api.Ins{{Op: api.InsSlice, A: "b", B: "out/c", N: 1, M: 2}}, ab, 9, api.Tree{file("c", "4")}, 2, api.OK},
		{"slice beyond", []api.Ins{{Op: api.InsSlice, A: "b", B: "out/c", N: 1, M: 2000}}, ab, 9, api.Tree{file("c", "45")}, 2, api.OK},
		{"slice of nothing", []api.Ins{{Op: api.InsSlice, A: "b", B: "out/c", N: 2, M: 2}}, ab, 9, api.Tree{file("c", "")}, 1, api.OK},
		{"slice turned", []api.Ins{{Op: api.InsSlice, A: "b", B: "out/c", N: 2, M: 1}}, ab, 9, api.Tree{file("c", "")}, 1, api.OK},
		{"slice behind", []api.Ins{{Op: api.InsSlice, A: "b", B: "out/c", N: 7, M: 9}}, ab, 9, api.Tree{file("c", "")}, 1, api.OK},
		{"subst", []api.Ins{{Op: api.InsSubst, A: "a", B: "aa", C: "b"}, cp("a", "out/a")}, api.Tree{file("a", "aaaaa")}, 9, api.Tree{file("a", "bba")}, 4, api.OK},
		{"subst by more", []api.Ins{{Op: api.InsSubst, A: "a", B: "a", C: "aa"}, cp("a", "out/a")}, api.Tree{file("a", "aba")}, 9, api.Tree{file("a", "aabaa")}, 4, api.OK},
		{"subst by nothing", []api.Ins{{Op: api.InsSubst, A: "a", B: "ab"}, cp("a", "out/a")}, api.Tree{file("a", "aabb")}, 9, api.Tree{file("a", "ab")}, 4, api.OK},
		{"subst of none", []api.Ins{{Op: api.InsSubst, A: "z", B: "a"}}, ab, 9, nil, 1, api.ErrMissing},
		{"sort of none", []api.Ins{{Op: api.InsSort, A: "z"}}, ab, 9, nil, 1, api.ErrMissing},
		{"fail", []api.Ins{{Op: api.InsFail}}, ab, 9, nil, 1, api.ErrFail},
		{"fail without fuel", []api.Ins{{Op: api.InsFail}}, ab, 0, nil, 0, api.ErrFuel},
		{"if empty: missing", []api.Ins{{Op: api.InsIfEmpty, A: "z", N: 2}, {Op: api.InsFail}}, ab, 9, nil, 1, api.OK},
		{"if empty: empty", []api.Ins{{Op: api.InsIfEmpty, A: "z", N: 2}, {Op: api.InsFail}}, api.Tree{file("z", "")}, 9, nil, 1, api.OK},
		{"if empty: full", []api.Ins{{Op: api.InsIfEmpty, A: "a", N: 2}, {Op: api.InsFail}}, ab, 9, nil, 2, api.ErrFail},
		{"if same: same", []api.Ins{{Op: api.InsIfSame, A: "a", B: "a", N: 2}, {Op: api.InsFail}}, ab, 9, nil, 1, api.OK},
		{"if same: unlike", []api.Ins{{Op: api.InsIfSame, A: "a", B: "b", N: 2}, {Op: api.InsFail}}, ab, 9, nil, 2, api.ErrFail},
		{"if same: missing", []api.Ins{{Op: api.InsIfSame, A: "a", B: "z", N: 0}}, ab, 9, nil, 1, api.ErrMissing},
		{"if same: missing first", []api.Ins{{Op: api.InsIfSame, A: "z", B: "a", N: 0}}, ab, 9, nil, 1, api.ErrMissing},
		{"jump to the end", []api.Ins{{Op: api.InsJump, N: 2}, {Op: api.InsFail}}, ab, 9, nil, 1, api.OK},
		{"out alone is no directory", []api.Ins{cp("a", "out")}, ab, 9, nil, 2, api.OK},
		{"what stands below out", nil, api.Tree{file("out/a/b", "1"), file("outer/c", "2")}, 0, api.Tree{file("a/b", "1")}, 0, api.OK},
	} {
		x.check(t)
	}
}

// P7.1: lines, with and without a 10 at the end.
func TestSort(t *testing.T) {
	for in, want := range map[string]string{
		"": "", "\n": "\n", "\n\n": "\n\n", "b\na": "a\nb", "b\na\n": "a\nb\n", "ab\na\nb\n": "a\nab\nb\n", "b\n\na": "\na\nb", "\nb": "\nb", "b\n\n": "\nb\n", "a\xff\nb\na\x00": "a\x00\na\xff\nb",
	} {
		out, _, e := vm.Exec([]api.Ins{{Op: api.InsSort, A: "a"}, cp("a", "out/a")}, api.Tree{file("a", in)}, 99)
		if e != api.OK || string(out[0].Bytes) != want {
			t.Errorf("%q: %v, %d", in, out, e)
		}
	}
}

// P7.1: packing and unpacking.
func TestPack(t *testing.T) {
	files := api.Tree{file("d/e/f", "1"), file("d/g", "22"), file("h", "3")}
	packed, _ := tree.Bytes(api.Tree{file("e/f", "1"), file("g", "22")})
	inside, _ := tree.Bytes(api.Tree{file("e/f", "1")})
	none, _ := tree.Bytes(nil)
	cost := func(b []byte) int { return (len(b) + 15) / 16 }
	pack := func(a, b string) api.Ins { return api.Ins{Op: api.InsPack, A: a, B: b} }
	unpack := func(a, b string) api.Ins { return api.Ins{Op: api.InsUnpack, A: a, B: b} }
	two := api.Tree{file("p", string(packed))}
	full, _ := tree.Bytes(api.Tree{file("a", text(600)), file("b", text(600)), file("c", text(600))})
	deep, _ := tree.Bytes(api.Tree{file(text(35), "")})
	for _, x := range []run{
		{"pack", []api.Ins{pack("d", "out/p")}, files, 99, api.Tree{file("p", string(packed))}, 1 + cost(packed), api.OK},
		{"pack into itself", []api.Ins{pack("d", "d/g"), cp("d/g", "out/p")}, files, 99, api.Tree{file("p", string(inside))}, 2 + 2*cost(inside), api.OK},
		{"pack of none", []api.Ins{pack("z", "out/p")}, files, 99, api.Tree{file("p", string(none))}, 2, api.OK},
		{"unpack", []api.Ins{unpack("p", "out/x")}, two, 99, api.Tree{file("x/e/f", "1"), file("x/g", "22")}, 3, api.OK},
		{"unpack over itself", []api.Ins{pack("d", "d/g"), unpack("d/g", "out")}, files, 99, api.Tree{file("e/f", "1")}, 2 + cost(inside) + 1, api.OK},
		{"unpack of none", []api.Ins{unpack("z", "out/x")}, files, 99, nil, 1, api.ErrMissing},
		{"unpack of no tree", []api.Ins{unpack("h", "out/x")}, files, 99, nil, 1, api.ErrForm},
		{"unpack too deep", []api.Ins{unpack("p", "out/xyz")}, api.Tree{file("p", string(deep))}, 99, nil, 1, api.ErrFull},
		{"unpack without fuel for the second", []api.Ins{unpack("p", "out/x")}, two, 2, nil, 2, api.ErrFuel},
		{"unpack of too much", []api.Ins{unpack("p", "q"), unpack("p", "r")}, api.Tree{file("p", string(full))}, 999, nil, 1 + 3*38 + 1 + 38, api.ErrFull},
	} {
		x.check(t)
	}
	big := api.Tree{file("d/a", text(1500)), file("d/b", text(1500))}
	b, _ := tree.Bytes(api.Tree{file("a", text(1500)), file("b", text(1500))})
	run{"pack of more than a file", []api.Ins{pack("d", "p")}, big, 9999, nil, 1 + cost(b), api.ErrFull}.check(t)
}

// P7.1: fuel for what is made, ahead of its being put there; and what does not fit.
func TestMaking(t *testing.T) {
	for n, units := range map[int]int{0: 0, 1: 1, 15: 1, 16: 1, 17: 2, 32: 2, 33: 3, 2000: 125} {
		files := api.Tree{file("a", text(n))}
		out := api.Tree{file("a", text(n))}
		p := []api.Ins{cp("a", "out/a")}
		run{"just enough", p, files, units + 1, out, units + 1, api.OK}.check(t)
		if units > 0 {
			run{"one too few", p, files, units, nil, 1, api.ErrFuel}.check(t)
		}
	}
	concat := []api.Ins{{Op: api.InsConcat, A: "a", B: "a", C: "b"}}
	run{"a file too long", concat, api.Tree{file("a", text(1001))}, 999, nil, 1 + 126, api.ErrFull}.check(t)
	run{"fuel is asked ahead of room", concat, api.Tree{file("a", text(1001))}, 126, nil, 1, api.ErrFuel}.check(t)
	run{"too many bytes", []api.Ins{cp("a", "b"), cp("a", "c"), cp("a", "d")}, api.Tree{file("a", text(1334))}, 999, nil, 2*85 - 1 + 1, api.ErrFull}.check(t)
	explode := []api.Ins{{Op: api.InsSubst, A: "a", B: "x", C: text(40)}}
	run{"a subst that explodes", explode, api.Tree{file("a", text(2000))}, api.MaxFuel, nil, 5001, api.ErrFull}.check(t)
	var files api.Tree
	for i := range 16 {
		files = append(files, file("f"+string(rune('a'+i)), ""))
	}
	run{"too many files", []api.Ins{cp("fa", "z")}, files, 9, nil, 1, api.ErrFull}.check(t)
}

// P7.1: arguments that may not be.
func TestArguments(t *testing.T) {
	fail := []api.Ins{{Op: api.InsFail}}
	for _, x := range []run{
		{"a program that may not be", []api.Ins{{Op: 99}}, nil, 5, nil, 0, api.ErrArg},
		{"a tree that may not be", fail, api.Tree{file("A", "")}, 5, nil, 0, api.ErrArg},
		{"fuel below nought", fail, nil, -1, nil, 0, api.ErrArg},
		{"least fuel", fail, nil, math.MinInt, nil, 0, api.ErrArg},
		{"too much fuel", fail, nil, api.MaxFuel + 1, nil, 0, api.ErrArg},
		{"most fuel", fail, nil, api.MaxFuel, nil, 1, api.ErrFail},
		{"all fuel", []api.Ins{{Op: api.InsJump}}, nil, api.MaxFuel, nil, api.MaxFuel, api.ErrFuel},
	} {
		x.check(t)
	}
}

// R2: what is handed in stays, and what is answered is its own.
func TestMemory(t *testing.T) {
	files := api.Tree{file("a", "b\na"), file("out/b", "1")}
	p := []api.Ins{{Op: api.InsSort, A: "a"}, cp("a", "out/a")}
	out, _, e := vm.Exec(p, files, 99)
	for i := range out {
		for j := range out[i].Bytes {
			out[i].Bytes[j]++
		}
	}
	if e != api.OK || !tree.Same(files, api.Tree{file("a", "b\na"), file("out/b", "1")}) {
		t.Error(files, e)
	}
}

func chancePath(r *rand.Rand) string {
	return []string{"a", "b", "d/a", "d/b", "out/a", "out/d/b", "out"}[r.Intn(7)]
}

func chanceProgram(r *rand.Rand) []api.Ins {
	n := 1 + r.Intn(8)
	p := make([]api.Ins, n)
	for i := range p {
		x := api.Ins{Op: uint8(1 + r.Intn(10)), A: chancePath(r)}
		switch x.Op {
		case api.InsConcat:
			x.B, x.C = chancePath(r), chancePath(r)
		case api.InsSlice:
			x.B, x.N, x.M = chancePath(r), r.Intn(4), r.Intn(30)
		case api.InsSubst:
			x.B, x.C = "a", "aab"
		case api.InsSort:
		case api.InsJump:
			x.A, x.N = "", r.Intn(n+1)
		case api.InsIfEmpty:
			x.N = r.Intn(n + 1)
		case api.InsIfSame:
			x.B, x.N = chancePath(r), r.Intn(n+1)
		default:
			x.B = chancePath(r)
		}
		p[i] = x
	}
	return p
}

// P7.2: each run ends within its fuel; more fuel changes only what ended for want of it.
func TestFuel(t *testing.T) {
	r := rand.New(rand.NewSource(7))
	files := api.Tree{file("a", "baab"), file("b", ""), file("d/a", "x\na\n"), file("d/b", "q")}
	ends := map[api.Errno]int{}
	for range 3000 {
		p := chanceProgram(r)
		fuel := r.Intn(60)
		out, used, e := vm.Exec(p, files, fuel)
		ends[e]++
		if used > fuel || !tree.May(out) || e != api.OK && out != nil || e == api.ErrArg {
			t.Fatalf("%v with %d: %v, %d, %d", p, fuel, out, used, e)
		}
		more, usedMore, eMore := vm.Exec(p, files, fuel+1+r.Intn(100))
		if e != api.ErrFuel && (!tree.Same(out, more) || used != usedMore || e != eMore) {
			t.Fatalf("%v: more fuel than %d: %d", p, fuel, eMore)
		}
		if e != api.ErrFuel && used > 0 {
			if _, _, less := vm.Exec(p, files, used-1); less != api.ErrFuel {
				t.Fatalf("%v with %d: %d", p, used-1, less)
			}
		}
	}
	for _, e := range []api.Errno{api.OK, api.ErrFuel, api.ErrMissing, api.ErrForm} {
		if ends[e] == 0 {
			t.Errorf("no run ended with %d", e)
		}
	}
	if !bytes.Equal(files[0].Bytes, []byte("baab")) {
		t.Error("the tree that was handed in has changed")
	}
}
