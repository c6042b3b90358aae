package plan_test

import (
	"slices"
	"strings"
	"testing"

	"murmuration/action"
	"murmuration/api"
	"murmuration/plan"
	"murmuration/tree"
)

func file(path, text string) api.File { return api.File{Path: path, Bytes: []byte(text)} }

func one(path, text string) api.Tree { return api.Tree{file(path, text)} }

// P16.1: inputs.
func TestInputs(t *testing.T) {
	for i, x := range []struct {
		deps    []string
		sources api.Tree
		outs    []api.Tree
		want    api.Tree
	}{
		{[]string{"b"}, one("x", "1"), []api.Tree{one("y", "2")}, api.Tree{file("in/b/y", "2"), file("src/x", "1")}},
		{nil, nil, nil, nil},
		{nil, one("a/b", ""), nil, one("src/a/b", "")},
		{[]string{"b", "a"}, nil, []api.Tree{one("y", "2"), one("y", "3")}, api.Tree{file("in/a/y", "3"), file("in/b/y", "2")}},
		{[]string{"a", "b"}, nil, []api.Tree{one("y", "3"), one("y", "2")}, api.Tree{file("in/a/y", "3"), file("in/b/y", "2")}},
		{[]string{"a", "b"}, nil, []api.Tree{nil, {}}, nil},
	} {
		got, e := plan.Inputs(api.Target{Name: "t", Deps: x.deps}, x.sources, x.outs)
		if e != api.OK || !tree.Same(got, x.want) {
			t.Errorf("%d: %v, %d", i, got, e)
		}
		for j, dep := range x.deps {
			if !tree.Same(tree.Below(got, "in/"+dep), x.outs[j]) {
				t.Errorf("%d: what is below %s", i, dep)
			}
		}
	}
}

// P16.1: what is refused, and in which order.
func TestFaults(t *testing.T) {
	x := api.Target{Name: "t", Deps: []string{"b"}}
	wrong, many := one("A", ""), api.Tree{}
	for i := range 16 {
		many = append(many, file("f"+string(rune('a'+i)), ""))
	}
	big := api.Tree{file("a", strings.Repeat("x", 2000)), file("b", strings.Repeat("x", 2000))}
	for i, f := range []struct {
		x       api.Target
		sources api.Tree
		outs    []api.Tree
		want    api.Errno
	}{
		{api.Target{Name: "T"}, nil, nil, api.ErrArg},
		{api.Target{Name: "t", Fuel: -1}, nil, nil, api.ErrArg},
		{api.Target{Name: "t", Deps: []string{"b", "b"}}, nil, make([]api.Tree, 2), api.ErrArg},
		{api.Target{Name: "t", Program: []api.Ins{{}}}, nil, nil, api.ErrArg},
		{x, wrong, make([]api.Tree, 1), api.ErrArg},
		{x, nil, []api.Tree{wrong}, api.ErrArg},
		{x, nil, nil, api.ErrArg},
		{x, nil, make([]api.Tree, 2), api.ErrArg},
		{x, one(strings.Repeat("s", 37), ""), []api.Tree{wrong}, api.ErrArg},
		{x, one(strings.Repeat("s", 36), ""), make([]api.Tree, 1), api.OK},
		{x, one(strings.Repeat("s", 37), ""), make([]api.Tree, 1), api.ErrFull},
		{x, nil, []api.Tree{one(strings.Repeat("s", 35), "")}, api.OK},
		{x, nil, []api.Tree{one(strings.Repeat("s", 36), "")}, api.ErrFull},
		{x, many, make([]api.Tree, 1), api.OK},
		{x, many, []api.Tree{one("z", "")}, api.ErrFull},
		{x, big, []api.Tree{one("z", "")}, api.OK},
		{x, big, []api.Tree{one("z", "1")}, api.ErrFull},
	} {
		got, e := plan.Inputs(f.x, f.sources, f.outs)
		if e != f.want || e != api.OK && got != nil {
			t.Errorf("Inputs %d: %v, %d", i, got, e)
		}
		a, e := plan.Action(f.x, f.sources, f.outs)
		if e != f.want || e != api.OK && !plan.Same(a, api.Action{}) || e == api.OK && !action.May(a) {
			t.Errorf("Action %d: %v, %d", i, a, e)
		}
	}
}

// P16.1: the action, in memory of its own.
func TestAction(t *testing.T) {
	x := api.Target{Name: "t", Deps: []string{"b"}, Fuel: 7, Program: []api.Ins{{Op: api.InsFail}}}
	sources, outs := one("x", "1"), []api.Tree{one("y", "2")}
	a, e := plan.Action(x, sources, outs)
	want := api.Action{Program: []api.Ins{{Op: api.InsFail}}, Inputs: api.Tree{file("in/b/y", "2"), file("src/x", "1")}, Fuel: 7}
	if e != api.OK || !plan.Same(a, want) {
		t.Error(a, e)
	}
	a.Program[0].Op = 1
	a.Inputs[0].Bytes[0] = 'z'
	a.Inputs[1].Bytes[0] = 'z'
	if x.Program[0].Op != api.InsFail || string(sources[0].Bytes) != "1" || string(outs[0][0].Bytes) != "2" {
		t.Error("memory is shared")
	}
}

// P16.1: Same.
func TestSame(t *testing.T) {
	make := func() api.Action {
		return api.Action{Program: []api.Ins{{Op: 1, A: "x"}, {Op: 2}}, Inputs: one("a", "1"), Fuel: 3}
	}
	if !plan.Same(make(), make()) || !plan.Same(api.Action{}, api.Action{Program: []api.Ins{}, Inputs: api.Tree{}}) {
		t.Error("alike")
	}
	for i, change := range []func(a *api.Action){
		func(a *api.Action) { a.Fuel = 4 }, func(a *api.Action) { a.Program[1].M = 1 }, func(a *api.Action) { slices.Reverse(a.Program) },
		func(a *api.Action) { a.Program = a.Program[:1] }, func(a *api.Action) { a.Inputs[0].Bytes[0]++ }, func(a *api.Action) { a.Inputs = nil },
	} {
		a := make()
		change(&a)
		if plan.Same(a, make()) || plan.Same(make(), a) {
			t.Errorf("change %d", i)
		}
	}
}
