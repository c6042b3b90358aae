package member_test

import (
	"math"
	"math/rand"
	"slices"
	"testing"

	"murmuration/api"
	"murmuration/member"
)

// P18.1: New.
func TestNew(t *testing.T) {
	for _, x := range []struct {
		self, nodes int
		inc         uint64
	}{{0, 0, 0}, {0, 17, 0}, {-1, 3, 0}, {3, 3, 0}, {0, 3, api.MaxInc + 1}, {0, -1, 0}, {math.MinInt, 3, 0}, {0, math.MaxInt, 0}, {0, 3, math.MaxUint64}} {
		if member.New(x.self, x.nodes, x.inc) != nil {
			t.Error(x)
		}
	}
	m := member.New(2, 3, api.MaxInc)
	if !slices.Equal(m.All(), []api.Update{{Node: 0, State: 1}, {Node: 1, State: 1}, {Node: 2, State: 1, Inc: api.MaxInc}}) {
		t.Error(m.All())
	}
	if len(member.New(15, 16, 0).All()) != 16 || len(member.New(0, 1, 0).All()) != 1 {
		t.Error("bounds")
	}
}

func hear(t *testing.T, m *member.Members, u api.Update, changed bool, want api.Update) {
	t.Helper()
	got, e := m.Hear(u)
	stands, _ := m.Get(u.Node)
	if got != changed || e != api.OK || stands != want {
		t.Errorf("Hear of %v: %v, %d, %v", u, got, e, stands)
	}
}

// P18.2: what is heard of others.
func TestHearOthers(t *testing.T) {
	m := member.New(0, 3, 2)
	for _, x := range []struct {
		u       api.Update
		changed bool
		want    api.Update
	}{
		{api.Update{Node: 1, State: 1, Inc: 0}, false, api.Update{Node: 1, State: 1}},
		{api.Update{Node: 1, State: 2, Inc: 0}, true, api.Update{Node: 1, State: 2}},
		{api.Update{Node: 1, State: 1, Inc: 0}, false, api.Update{Node: 1, State: 2}},
		{api.Update{Node: 1, State: 1, Inc: 1}, true, api.Update{Node: 1, State: 1, Inc: 1}},
		{api.Update{Node: 1, State: 3, Inc: 0}, false, api.Update{Node: 1, State: 1, Inc: 1}},
		{api.Update{Node: 1, State: 3, Inc: 1}, true, api.Update{Node: 1, State: 3, Inc: 1}},
		{api.Update{Node: 1, State: 2, Inc: 1}, false, api.Update{Node: 1, State: 3, Inc: 1}},
		{api.Update{Node: 1, State: 2, Inc: api.MaxInc}, true, api.Update{Node: 1, State: 2, Inc: api.MaxInc}},
	} {
		hear(t, m, x.u, x.changed, x.want)
	}
	if u, _ := m.Get(2); u != (api.Update{Node: 2, State: 1}) {
		t.Error("another one has changed")
	}
}

// P18.2: what is heard of oneself.
func TestHearSelf(t *testing.T) {
	self := func(inc uint64) api.Update { return api.Update{State: api.Alive, Inc: inc} }
	told := func(state uint8, inc uint64) api.Update { return api.Update{State: state, Inc: inc} }
	m := member.New(0, 3, 2)
	hear(t, m, told(3, 2), true, self(3))
	hear(t, m, told(3, 2), false, self(3))
	hear(t, m, told(2, 3), true, self(4))
	hear(t, m, told(1, 4), false, self(4))
	hear(t, m, told(1, 9), true, self(9))
	hear(t, m, told(1, 8), false, self(9))
	hear(t, m, told(2, 5), false, self(9))
	hear(t, m, told(3, 8), false, self(9))
	hear(t, m, told(2, 20), true, self(21))
	hear(t, m, told(2, api.MaxInc-1), true, self(api.MaxInc))
	hear(t, m, told(3, api.MaxInc), false, self(api.MaxInc))
	if m.Self() != self(api.MaxInc) {
		t.Error(m.Self())
	}
}

// P18.2: updates that may not be.
func TestHearWrong(t *testing.T) {
	m := member.New(0, 3, 2)
	before := m.All()
	for _, u := range []api.Update{{Node: 3, State: 1}, {Node: -1, State: 1}, {Node: 1, State: 0, Inc: 5}, {Node: 1, State: 4, Inc: 5}, {Node: 1, State: 255}, {Node: 1, State: 1, Inc: api.MaxInc + 1}, {Node: math.MinInt, State: 1}, {Node: 0, State: 0, Inc: 7}} {
		if changed, e := m.Hear(u); changed || e != api.ErrArg {
			t.Error(u, changed, e)
		}
	}
	if !slices.Equal(m.All(), before) {
		t.Error("something has changed")
	}
}

// P18.2, P18.3: suspicion.
func TestSuspect(t *testing.T) {
	m := member.New(0, 3, 2)
	m.Hear(api.Update{Node: 1, State: 1, Inc: 5})
	if m.Kill(1) || !m.Suspect(1) || m.Suspect(1) {
		t.Error("Suspect")
	}
	if u, ok := m.Get(1); u != (api.Update{Node: 1, State: 2, Inc: 5}) || !ok || !slices.Equal(m.Alive(), []int{0, 1, 2}) {
		t.Error(u)
	}
	if !m.Kill(1) || m.Kill(1) || m.Suspect(1) {
		t.Error("Kill")
	}
	if u, _ := m.Get(1); u != (api.Update{Node: 1, State: 3, Inc: 5}) || !slices.Equal(m.Alive(), []int{0, 2}) {
		t.Error(u)
	}
	for _, n := range []int{0, 3, -1, math.MaxInt} {
		if m.Suspect(n) || m.Kill(n) {
			t.Error(n)
		}
	}
	for _, n := range []int{3, -1, math.MinInt} {
		if u, ok := m.Get(n); u != (api.Update{}) || ok {
			t.Error(n)
		}
	}
}

// P18.3: a copy goes its own way, and what is told is its own.
func TestCopy(t *testing.T) {
	m := member.New(0, 3, 2)
	c := m.Copy()
	c.Suspect(1)
	m.Suspect(2)
	m.All()[0].Inc = 99
	if !slices.Equal(m.All(), []api.Update{{Node: 0, State: 1, Inc: 2}, {Node: 1, State: 1}, {Node: 2, State: 2}}) || !slices.Equal(c.All(), []api.Update{{Node: 0, State: 1, Inc: 2}, {Node: 1, State: 2}, {Node: 2, State: 1}}) {
		t.Error(m.All(), c.All())
	}
}

// P18.3: members that are not there.
func TestNone(t *testing.T) {
	for _, m := range []*member.Members{nil, {}} {
		if changed, e := m.Hear(api.Update{State: 1}); changed || e != api.ErrNil {
			t.Error(changed, e)
		}
		u, ok := m.Get(0)
		if m.Suspect(0) || m.Kill(0) || u != (api.Update{}) || ok || m.All() != nil || m.Alive() != nil || m.Self() != (api.Update{}) {
			t.Error("answers")
		}
		if m.Copy() != nil {
			t.Error("Copy")
		}
	}
}

// isGreater tells whether u is the greater one of two updates of a member.
func isGreater(u, v api.Update) bool {
	return u.Inc > v.Inc || u.Inc == v.Inc && u.State > v.State
}

// P18.4: the order of what is heard, and how often, does not count; nothing grows less.
func TestOrder(t *testing.T) {
	r := rand.New(rand.NewSource(18))
	for range 2000 {
		var us []api.Update
		for range 1 + r.Intn(8) {
			us = append(us, api.Update{Node: 1 + r.Intn(2), State: uint8(1 + r.Intn(3)), Inc: uint64(r.Intn(4))})
		}
		m, o := member.New(0, 3, 1), member.New(0, 3, 1)
		for _, u := range us {
			before, _ := m.Get(u.Node)
			m.Hear(u)
			if after, _ := m.Get(u.Node); isGreater(before, after) {
				t.Fatal(before, after)
			}
		}
		for range 2 {
			for _, i := range r.Perm(len(us)) {
				o.Hear(us[i])
			}
		}
		if !slices.Equal(m.All(), o.All()) {
			t.Fatal(us, m.All(), o.All())
		}
	}
}

// P18.4: whoever hears that oneself is not alive tells something greater.
func TestAnswer(t *testing.T) {
	r := rand.New(rand.NewSource(4))
	for range 2000 {
		m := member.New(1, 2, uint64(r.Intn(5)))
		u := api.Update{Node: 1, State: uint8(2 + r.Intn(2)), Inc: uint64(r.Intn(8))}
		m.Hear(u)
		if !isGreater(m.Self(), u) || m.Self().State != api.Alive {
			t.Fatal(u, m.Self())
		}
	}
}
