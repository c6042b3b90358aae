package graph_test

import (
	"math/rand"
	"slices"
	"strconv"
	"strings"
	"testing"

	"murmuration/api"
	"murmuration/graph"
)

// targetsOf reads "c a b, b a, a": each a name and its deps.
func targetsOf(text string) (l []api.Target) {
	for _, x := range strings.Split(text, ", ") {
		words := strings.Fields(x)
		l = append(l, api.Target{Name: words[0], Deps: words[1:]})
	}
	return l
}

// P15.1: orders.
func TestOrder(t *testing.T) {
	for _, x := range []struct {
		targets, want, order string
		e                    api.Errno
	}{
		{"c a b, b a, a", "c", "a b c", api.OK},
		{"c a b, b a, a", "b", "a b", api.OK},
		{"c a b, b a, a", "a", "a", api.OK},
		{"a b, b a", "a", "", api.ErrCycle},
		{"a a", "a", "", api.ErrCycle},
		{"c b, a b, b a", "c", "", api.ErrCycle},
		{"c d, d, a b, b a", "c", "d c", api.OK},
		{"a", "b", "", api.ErrNone},
		{"a", "", "", api.ErrNone},
		{"a x", "a", "", api.ErrNone},
		{"a b, b x", "a", "", api.ErrNone},
		{"a b x, b a", "a", "", api.ErrNone},
		{"a b, b, c x", "a", "b a", api.OK},
		{"z a9 a10 a1 a, a1, a10, a9, a", "z", "a a1 a10 a9 z", api.OK},
		{"z b y, y c, b, c", "z", "b c y z", api.OK},
		{"z b y, y a, b, a", "z", "a b y z", api.OK},
		{"z m n, m y, n, y", "z", "n y m z", api.OK},
		{"b-a, b_a, b, ba, z ba b_a b-a b", "z", "b b-a b_a ba z", api.OK},
	} {
		l := targetsOf(x.targets)
		order, e := graph.Order(l, x.want)
		var names []string
		for _, i := range order {
			names = append(names, l[i].Name)
		}
		if e != x.e || strings.Join(names, " ") != x.order || e != api.OK && order != nil {
			t.Errorf("%s for %s: %v, %d", x.targets, x.want, names, e)
		}
	}
	if o, e := graph.Order([]api.Target{{Name: "A"}}, "A"); o != nil || e != api.ErrArg {
		t.Error(o, e)
	}
	if o, e := graph.Order(nil, "a"); o != nil || e != api.ErrNone {
		t.Error(o, e)
	}
}

// P15.2: what is dirty.
func TestDirty(t *testing.T) {
	for _, x := range []struct{ targets, changed, want string }{
		{"c a b, b a, a", "a", "a b c"},
		{"c a b, b a, a", "b", "b c"},
		{"c a b, b a, a", "c", "c"},
		{"c a b, b a, a", "", ""},
		{"c a b, b a, a", "z a a", "a b c"},
		{"a b, b a, c", "a", "a b"},
		{"a x, b a, c", "x", "a b"},
		{"d c, c b, b a, a", "a", "a b c d"},
		{"a b, b c, c d, d", "d", "a b c d"},
	} {
		got, e := graph.Dirty(targetsOf(x.targets), strings.Fields(x.changed))
		if e != api.OK || strings.Join(got, " ") != x.want {
			t.Errorf("%s, %s: %v, %d", x.targets, x.changed, got, e)
		}
	}
	if d, e := graph.Dirty([]api.Target{{Name: "a"}, {Name: "a"}}, []string{"a"}); d != nil || e != api.ErrArg {
		t.Error(d, e)
	}
	if d, e := graph.Dirty(nil, []string{"a"}); len(d) != 0 || e != api.OK {
		t.Error(d, e)
	}
}

func chance(r *rand.Rand) (l []api.Target) {
	n := 1 + r.Intn(9)
	for i := range n {
		x := api.Target{Name: "t" + strconv.Itoa((i*7)%n)}
		if n == 7 {
			x.Name = "t" + strconv.Itoa(i)
		}
		for range r.Intn(3) {
			dep := "t" + strconv.Itoa(r.Intn(n))
			if r.Intn(6) > 0 && dep >= x.Name || slices.Contains(x.Deps, dep) {
				continue
			}
			x.Deps = append(x.Deps, dep)
		}
		l = append(l, x)
	}
	return l
}

// standsOn: whether name stands on other, by paths of deps.
func standsOn(l []api.Target, name, other string) bool {
	seen := map[string]bool{}
	var walk func(name string) bool
	walk = func(name string) bool {
		for _, x := range l {
			if x.Name != name || seen[name] {
				continue
			}
			seen[name] = true
			for _, dep := range x.Deps {
				if dep == other || walk(dep) {
					return true
				}
			}
		}
		return false
	}
	return walk(name)
}

// P15.1, P15.2: of targets at chance: each behind its deps, once, the smallest that may be told first; dirty is what stands on what is changed.
func TestChance(t *testing.T) {
	r := rand.New(rand.NewSource(15))
	for range 2000 {
		l := chance(r)
		want := l[r.Intn(len(l))].Name
		checkOrder(t, l, want)
		dirty, e := graph.Dirty(l, []string{want})
		for _, x := range l {
			if slices.Contains(dirty, x.Name) != (x.Name == want || standsOn(l, x.Name, want)) || e != api.OK || !slices.IsSorted(dirty) {
				t.Fatalf("%v: %s is dirty by %s: %v", l, x.Name, want, dirty)
			}
		}
	}
}

func checkOrder(t *testing.T, l []api.Target, want string) {
	needed, cycle := 0, false
	for _, x := range l {
		if x.Name == want || standsOn(l, want, x.Name) {
			needed++
			cycle = cycle || standsOn(l, x.Name, x.Name)
		}
	}
	order, e := graph.Order(l, want)
	if cycle != (e == api.ErrCycle) || !cycle && len(order) != needed {
		t.Fatalf("%v for %s: %v, %d", l, want, order, e)
	}
	told := map[string]bool{}
	ready := func(x api.Target) bool {
		return !told[x.Name] && !slices.ContainsFunc(x.Deps, func(dep string) bool { return !told[dep] }) && (x.Name == want || standsOn(l, want, x.Name))
	}
	for _, i := range order {
		for _, x := range l {
			if !ready(l[i]) || ready(x) && x.Name < l[i].Name {
				t.Fatalf("%v for %s: %v", l, want, order)
			}
		}
		told[l[i].Name] = true
	}
}
