package action_test

import (
	"bytes"
	"math"
	"testing"

	"murmuration/action"
	"murmuration/api"
	"murmuration/program"
	"murmuration/sha"
	"murmuration/tree"
	"murmuration/wire"
)

func some() api.Action {
	return api.Action{Program: []api.Ins{{Op: api.InsCopy, A: "a", B: "out/a"}}, Inputs: api.Tree{{Path: "a", Bytes: []byte("xy")}}, Fuel: 300}
}

// P8.1: which may be.
func TestMay(t *testing.T) {
	for fuel, want := range map[int]bool{0: true, 300: true, 20000: true, 20001: false, -1: false, math.MinInt: false, math.MaxInt: false} {
		a := some()
		a.Fuel = fuel
		checkMay(t, a, want)
	}
	a := some()
	a.Program[0].Op = 12
	checkMay(t, a, false)
	a = some()
	a.Inputs[0].Path = "A"
	checkMay(t, a, false)
	checkMay(t, api.Action{}, true)
}

func checkMay(t *testing.T, a api.Action, want bool) {
	t.Helper()
	if action.May(a) != want {
		t.Errorf("May of %v", a)
	}
	if want {
		return
	}
	if b, e := action.Bytes(a); b != nil || e != api.ErrArg {
		t.Errorf("Bytes of %v: %d", a, e)
	}
	if k, e := action.Key(a); k != (api.Digest{}) || e != api.ErrArg {
		t.Errorf("Key of %v: %d", a, e)
	}
}

// P8.1: bytes and key as told.
func TestBytes(t *testing.T) {
	for _, a := range []api.Action{{}, some()} {
		p, _ := program.Bytes(a.Program)
		root, _ := tree.Root(a.Inputs)
		want := append(wire.AppendBytes(nil, p), root[:]...)
		want = wire.AppendUint(want, uint64(a.Fuel))
		b, e := action.Bytes(a)
		if e != api.OK || !bytes.Equal(b, want) {
			t.Errorf("Bytes of %v: %v, %d", a, b, e)
		}
		k, e := action.Key(a)
		if e != api.OK || k != sha.Parts(16, want) {
			t.Errorf("Key of %v: %v, %d", a, k, e)
		}
	}
	empty, _ := action.Bytes(api.Action{})
	if !bytes.Equal(empty[:2], []byte{1, 1}) || empty[2] != 0 || len(empty) != 3+32+1 || empty[35] != 0 {
		t.Errorf("%v", empty)
	}
	a := some()
	if _, e := action.Bytes(a); e != api.OK || !tree.Same(a.Inputs, some().Inputs) || !program.Same(a.Program, some().Program) {
		t.Error("the action has changed")
	}
}

// P8.1: whatever is unlike gives another key.
func TestKeys(t *testing.T) {
	all := []api.Action{{}, some()}
	for _, change := range []func(a *api.Action){
		func(a *api.Action) { a.Fuel++ },
		func(a *api.Action) { a.Program[0].B = "out/b" },
		func(a *api.Action) { a.Program = nil },
		func(a *api.Action) { a.Inputs[0].Bytes = []byte("xz") },
		func(a *api.Action) { a.Inputs[0].Path = "b" },
		func(a *api.Action) { a.Inputs = nil },
	} {
		a := some()
		change(&a)
		all = append(all, a)
	}
	seen := map[api.Digest]int{}
	for i, a := range all {
		k, e := action.Key(a)
		if j, ok := seen[k]; ok || e != api.OK {
			t.Errorf("%d and %d have one key, %d", i, j, e)
		}
		seen[k] = i
	}
}
