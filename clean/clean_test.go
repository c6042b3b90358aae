package clean_test

import (
	"strings"
	"testing"

	"murmuration/api"
	"murmuration/clean"
	"murmuration/plan"
	"murmuration/tree"
)

func lines(text string) []byte { return []byte(strings.ReplaceAll(text, "; ", "\n")) }

func file(path, text string) api.File { return api.File{Path: path, Bytes: []byte(text)} }

func one(path, text string) api.Tree { return api.Tree{file(path, text)} }

const two = "target b a; fuel 9; copy in/a/y out/z; end; target a; fuel 9; copy src/x out/y; end; "

// P17.1: builds, and what they are refused with.
func TestBuild(t *testing.T) {
	for i, x := range []struct {
		sources api.Tree
		file    string
		want    string
		out     api.Tree
		e       api.Errno
	}{
		{one("x", "1"), two, "b", one("z", "1"), api.OK},
		{one("x", "1"), two, "a", one("y", "1"), api.OK},
		{one("x", "1"), "target a; fuel 0; end", "a", nil, api.OK},
		{one("X", "1"), "\"", "a", nil, api.ErrArg},
		{nil, "\"", "a", nil, api.ErrForm},
		{nil, "target A", "a", nil, api.ErrArg},
		{nil, "target a", "a", nil, api.ErrShort},
		{nil, "", "a", nil, api.ErrNone},
		{nil, two, "", nil, api.ErrNone},
		{nil, "target a b; fuel 1; end; target b a; fuel 1; end", "a", nil, api.ErrCycle},
		{nil, two, "b", nil, api.ErrMissing},
		{nil, "target a; fuel 500; jump 0; end", "a", nil, api.ErrFuel},
		{nil, "target a; fuel 500; fail; end", "a", nil, api.ErrFail},
		{one("x", "1"), two + "target c b; fuel 1; fail; end", "b", one("z", "1"), api.OK},
		{one("x", "1"), two + "target c d; fuel 1; fail; end", "b", one("z", "1"), api.OK},
		{one(strings.Repeat("x", 37), ""), two, "b", nil, api.ErrFull},
		{one("x", "1"), "target a; fuel 9; fail; end; target b; fuel 9; jump 0; end; target c b a; fuel 1; end", "c", nil, api.ErrFail},
		{one("x", "1"), "target b; fuel 9; fail; end; target a; fuel 9; jump 0; end; target c b a; fuel 1; end", "c", nil, api.ErrFuel},
	} {
		out, e := clean.Build(x.sources, lines(x.file), x.want)
		if e != x.e || !tree.Same(out, x.out) {
			t.Errorf("%d: %v, %d", i, out, e)
		}
		all, e := clean.Outs(x.sources, lines(x.file), x.want)
		if e != x.e || e != api.OK && all != nil {
			t.Errorf("Outs %d: %v, %d", i, all, e)
		}
	}
	if _, e := clean.Build(nil, make([]byte, api.MaxBuild+1), "a"); e != api.ErrLong {
		t.Error(e)
	}
}

// P17.1: all that was built, in its order.
func TestOuts(t *testing.T) {
	sources := one("x", "1")
	all, e := clean.Outs(sources, lines(two+"target c; fuel 1; fail; end"), "b")
	if e != api.OK || len(all) != 2 || all[0].Name != "a" || all[1].Name != "b" {
		t.Fatal(all, e)
	}
	copyOf := func(a, b string) []api.Ins { return []api.Ins{{Op: api.InsCopy, A: a, B: b}} }
	if !tree.Same(all[0].Out, one("y", "1")) || !plan.Same(all[0].Action, api.Action{Program: copyOf("src/x", "out/y"), Inputs: one("src/x", "1"), Fuel: 9}) {
		t.Error(all[0])
	}
	want := api.Tree{file("in/a/y", "1"), file("src/x", "1")}
	if !tree.Same(all[1].Out, one("z", "1")) || !plan.Same(all[1].Action, api.Action{Program: copyOf("in/a/y", "out/z"), Inputs: want, Fuel: 9}) {
		t.Error(all[1])
	}
	all[0].Out[0].Bytes[0] = 'q'
	if string(all[1].Action.Inputs[0].Bytes) != "1" || string(sources[0].Bytes) != "1" {
		t.Error("memory is shared")
	}
	for _, x := range all {
		out, e := clean.Build(one("x", "1"), lines(two), x.Name)
		if again, _ := clean.Outs(one("x", "1"), lines(two), x.Name); e != api.OK || !tree.Same(out, again[len(again)-1].Out) {
			t.Error(x.Name)
		}
	}
}
