package probe_test

import (
	"math"
	"slices"
	"strconv"
	"strings"
	"testing"

	"murmuration/api"
	"murmuration/member"
	"murmuration/probe"
)

func prober(id, nodes, every, timeout, suspect int) (*probe.Prober, *member.Members) {
	m := member.New(id, nodes, 5)
	return probe.New(id, nodes, every, timeout, suspect, m), m
}

// brief writes probes as "ping 1 #1; ask 2 about 1 #1".
func brief(l []api.Probe) string {
	var out []string
	for _, x := range l {
		s := []string{"", "ping", "ack", "ask"}[x.Kind] + " " + strconv.Itoa(x.To)
		if x.Kind != api.ProbePing {
			s += " about " + strconv.Itoa(x.About)
		}
		out = append(out, s+" #"+strconv.Itoa(int(x.Seq)))
	}
	return strings.Join(out, "; ")
}

func is(t *testing.T, what string, l []api.Probe, want string) {
	t.Helper()
	if got := brief(l); got != want {
		t.Errorf("%s: %q, not %q", what, got, want)
	}
}

func hears(t *testing.T, p *probe.Prober, from int, x api.Probe, now int, want string) {
	t.Helper()
	l, e := p.Hear(from, x, now)
	if e != api.OK {
		t.Errorf("Hear of %v: %d", x, e)
	}
	is(t, "Hear", l, want)
}

func state(m *member.Members, n int) uint8 { u, _ := m.Get(n); return u.State }

// P19.1: New.
func TestNew(t *testing.T) {
	m := member.New(1, 3, 0)
	if probe.New(1, 3, 1, 1, 1, m) == nil || probe.New(1, 3, 1000000, 1000000, 1000000, m) == nil {
		t.Error("right ones")
	}
	for i, p := range []*probe.Prober{
		probe.New(1, 3, 1, 1, 1, nil), probe.New(1, 3, 1, 1, 1, &member.Members{}), probe.New(0, 3, 1, 1, 1, m), probe.New(1, 4, 1, 1, 1, m), probe.New(1, 2, 1, 1, 1, m), probe.New(3, 3, 1, 1, 1, m), probe.New(-1, 3, 1, 1, 1, m), probe.New(1, 17, 1, 1, 1, m),
		probe.New(1, 3, 0, 1, 1, m), probe.New(1, 3, 1, 0, 1, m), probe.New(1, 3, 1, 1, 0, m), probe.New(1, 3, 1000001, 1, 1, m), probe.New(1, 3, 1, 1000001, 1, m), probe.New(1, 3, 1, 1, 1000001, m), probe.New(1, 3, math.MinInt, 1, 1, m), probe.New(0, 0, 1, 1, 1, nil),
	} {
		if p != nil {
			t.Errorf("wrong %d", i)
		}
	}
	p, _ := prober(2, 3, 1, 1, 1)
	is(t, "the member behind id", p.Tick(0), "ping 0 #1")
}

// P19.2: the example, and on.
func TestTick(t *testing.T) {
	p, m := prober(0, 3, 2, 1, 3)
	is(t, "0", p.Tick(0), "ping 1 #1")
	is(t, "1", p.Tick(1), "ask 2 about 1 #1")
	if state(m, 1) != api.Alive {
		t.Error("too early")
	}
	is(t, "2", p.Tick(2), "ping 2 #2")
	if state(m, 1) != api.Suspect {
		t.Error("not suspected")
	}
	hears(t, p, 2, api.Probe{Kind: api.ProbeAck, Seq: 2, About: 2}, 2, "")
	is(t, "3", p.Tick(3), "")
	is(t, "4", p.Tick(4), "ping 1 #3")
	if state(m, 1) != api.Suspect {
		t.Error("dead too early")
	}
	is(t, "5", p.Tick(5), "ask 2 about 1 #3")
	if state(m, 1) != api.Dead {
		t.Error("not dead")
	}
	is(t, "6", p.Tick(6), "ping 2 #4")
	is(t, "7", p.Tick(7), "")
	is(t, "8: whatever stands of it", p.Tick(8), "ping 1 #5")
}

// P19.2: both at once, when nobody ticked for long; the same ping is told again while it is under way.
func TestAgain(t *testing.T) {
	p, m := prober(0, 2, 2, 5, 3)
	is(t, "0", p.Tick(-7), "ping 1 #1")
	is(t, "2", p.Tick(-5), "ping 1 #1")
	is(t, "4", p.Tick(-3), "ping 1 #1")
	is(t, "6: nobody to ask", p.Tick(-1), "ping 1 #1")
	if state(m, 1) != api.Alive {
		t.Error("suspected too early")
	}
	is(t, "10: it stays as it was", p.Tick(3), "ping 1 #2")
	if state(m, 1) != api.Suspect {
		t.Error("not suspected")
	}
	p, m = prober(1, 6, 3, 2, 3)
	is(t, "0", p.Tick(0), "ping 2 #1")
	is(t, "9", p.Tick(9), "ask 0 about 2 #1; ask 3 about 2 #1; ask 4 about 2 #1; ping 3 #2")
	if state(m, 2) != api.Suspect {
		t.Error("not suspected")
	}
}

// P19.2: who is dead is not asked; who is suspect is.
func TestAsked(t *testing.T) {
	p, m := prober(1, 6, 9, 2, 3)
	m.Suspect(0)
	m.Suspect(3)
	m.Kill(3)
	is(t, "0", p.Tick(0), "ping 2 #1")
	is(t, "2", p.Tick(2), "ask 0 about 2 #1; ask 4 about 2 #1; ask 5 about 2 #1")
	is(t, "3: once", p.Tick(3), "")
	alone, _ := prober(0, 1, 1, 1, 1)
	is(t, "alone", alone.Tick(0), "")
	is(t, "alone", alone.Tick(9), "")
}

// P19.2: by turns, oneself and the end passed over.
func TestTurns(t *testing.T) {
	p, _ := prober(1, 4, 1, 100, 1)
	want := []string{"ping 2 #1", "ping 3 #2", "ping 0 #3"}
	for now := range 7 {
		is(t, "turn", p.Tick(now), want[now%3])
	}
	q, _ := prober(1, 4, 1, 100, 1)
	for now := range 7 {
		l := q.Tick(now)
		is(t, "turn", l, []string{"ping 2", "ping 3", "ping 0"}[now%3]+" #"+strconv.Itoa(now+1))
		hears(t, q, l[0].To, api.Probe{To: 1, Kind: api.ProbeAck, Seq: l[0].Seq, About: l[0].To}, now, "")
	}
}

// P19.2: suspicion begins anew with another incarnation.
func TestSuspicion(t *testing.T) {
	p, m := prober(0, 2, 100, 50, 3)
	p.Tick(0)
	m.Suspect(1)
	p.Tick(1)
	p.Tick(3)
	m.Hear(api.Update{Node: 1, State: api.Suspect, Inc: 4})
	p.Tick(4)
	p.Tick(6)
	if state(m, 1) != api.Suspect {
		t.Error("the first tick counts that found it so")
	}
	p.Tick(7)
	if u, _ := m.Get(1); u != (api.Update{Node: 1, State: api.Dead, Inc: 4}) {
		t.Error(u)
	}
}

// P19.3: pings and asks.
func TestHear(t *testing.T) {
	p, m := prober(0, 4, 5, 2, 3)
	hears(t, p, 1, api.Probe{Kind: api.ProbePing, Seq: 77, About: 3}, 0, "ack 1 about 0 #77")
	hears(t, p, 1, api.Probe{Kind: api.ProbeAsk, Seq: 78, About: 0}, 0, "ack 1 about 0 #78")
	hears(t, p, 1, api.Probe{Kind: api.ProbeAsk, Seq: 79, About: 2}, 0, "ping 2 #1")
	hears(t, p, 3, api.Probe{Kind: api.ProbeAsk, Seq: 11, About: 2}, 1, "ping 2 #2")
	hears(t, p, 3, api.Probe{Kind: api.ProbeAck, Seq: 1, About: 2}, 1, "")
	hears(t, p, 2, api.Probe{Kind: api.ProbeAck, Seq: 1, About: 3}, 1, "")
	hears(t, p, 2, api.Probe{Kind: api.ProbeAck, Seq: 1, About: 2}, 1, "ack 1 about 2 #79")
	hears(t, p, 2, api.Probe{Kind: api.ProbeAck, Seq: 1, About: 2}, 1, "")
	hears(t, p, 3, api.Probe{Kind: api.ProbeAsk, Seq: 12, About: 2}, 1, "ping 2 #3")
	hears(t, p, 2, api.Probe{Kind: api.ProbeAck, Seq: 2, About: 2}, 1, "")
	hears(t, p, 2, api.Probe{Kind: api.ProbeAck, Seq: 3, About: 2}, 1, "ack 3 about 2 #12")
	hears(t, p, 3, api.Probe{Kind: api.ProbeAsk, Seq: 13, About: 1}, 1, "ping 1 #4")
	is(t, "another one's ping is given up", p.Tick(5), "ping 1 #5")
	hears(t, p, 1, api.Probe{Kind: api.ProbeAck, Seq: 4, About: 1}, 5, "")
	is(t, "own ping", p.Tick(7), "ask 2 about 1 #5; ask 3 about 1 #5")
	hears(t, p, 3, api.Probe{Kind: api.ProbeAck, Seq: 5, About: 3}, 7, "")
	hears(t, p, 3, api.Probe{Kind: api.ProbeAck, Seq: 5, About: 1}, 7, "")
	p.Tick(9)
	if state(m, 1) != api.Alive {
		t.Error("an answer by another one counts")
	}
}

// P19.2: a ping for another one is under way up to twice timeout ticks; P19.3: an Ack of none is nothing.
func TestForeign(t *testing.T) {
	for last, want := range map[int]string{3: "ack 2 about 0 #9", 4: ""} {
		p, _ := prober(1, 3, 50, 2, 3)
		p.Tick(0)
		hears(t, p, 2, api.Probe{To: 1, Kind: api.ProbeAsk, Seq: 9, About: 0}, 0, "ping 0 #2")
		for now := 1; now <= last; now++ {
			p.Tick(now)
		}
		hears(t, p, 0, api.Probe{To: 1, Kind: api.ProbeAck, Seq: 2, About: 0}, last, want)
		hears(t, p, 0, api.Probe{To: 1, Kind: api.ProbeAck, Seq: 77, About: 0}, last, "")
		hears(t, p, 0, api.Probe{To: 1, Kind: api.ProbeAck, Seq: 0, About: 0}, last, "")
	}
	p, m := prober(0, 2, 50, 2, 3)
	hears(t, p, 1, api.Probe{Kind: api.ProbePing, Seq: 1, Updates: []api.Update{{Node: 1, State: api.Suspect, Inc: api.MaxInc}}}, 0, "ack 1 about 0 #1")
	if u, _ := m.Get(1); u.Inc != api.MaxInc {
		t.Error("the greatest incarnation", u)
	}
}

// P19.3: what is refused changes nothing.
func TestHearWrong(t *testing.T) {
	p, m := prober(0, 3, 5, 2, 3)
	up := []api.Update{{Node: 1, State: api.Dead}}
	nine := make([]api.Update, 9)
	for i := range nine {
		nine[i] = api.Update{Node: 1, State: api.Dead}
	}
	good := api.Probe{Kind: api.ProbePing, Updates: up}
	for i, x := range []struct {
		from int
		x    api.Probe
	}{
		{0, good}, {3, good}, {-1, good}, {math.MaxInt, good}, {1, api.Probe{To: 1, Kind: 1, Updates: up}}, {1, api.Probe{To: -1, Kind: 1, Updates: up}}, {1, api.Probe{Kind: 0, Updates: up}}, {1, api.Probe{Kind: 4, Updates: up}},
		{1, api.Probe{Kind: 1, About: 3, Updates: up}}, {1, api.Probe{Kind: 1, About: -1, Updates: up}}, {1, api.Probe{Kind: 1, Updates: nine}},
		{1, api.Probe{Kind: 1, Updates: append(up, api.Update{Node: 3, State: 1})}}, {1, api.Probe{Kind: 1, Updates: append(up, api.Update{Node: 2, State: 0})}}, {1, api.Probe{Kind: 1, Updates: append(up, api.Update{Node: 2, State: 4})}}, {1, api.Probe{Kind: 1, Updates: append(up, api.Update{Node: 2, State: 1, Inc: api.MaxInc + 1})}},
	} {
		if l, e := p.Hear(x.from, x.x, 0); l != nil || e != api.ErrArg {
			t.Errorf("wrong %d: %v, %d", i, l, e)
		}
	}
	if state(m, 1) != api.Alive {
		t.Error("something was heard")
	}
	if _, e := p.Hear(2, api.Probe{Kind: 1, Updates: nine[:8]}, 0); e != api.OK || state(m, 1) != api.Dead {
		t.Error("eight updates", e)
	}
}

// P19.1: what is told of members.
func TestUpdates(t *testing.T) {
	p, m := prober(2, 4, 1, 9, 9)
	l := p.Tick(0)
	want := []api.Update{m.Self(), {Node: 0, State: 1}, {Node: 1, State: 1}, {Node: 3, State: 1}}
	if !slices.Equal(l[0].Updates, want) {
		t.Error(l[0].Updates)
	}
	m.Suspect(0)
	l = p.Tick(1)
	if u := (api.Update{Node: 0, State: 2}); l[0].To != 0 || !slices.Equal(l[0].Updates, []api.Update{m.Self(), u, {Node: 1, State: 1}, {Node: 3, State: 1}}) {
		t.Error(l[0].Updates)
	}
	p, m = prober(9, 16, 1, 9, 99)
	m.Suspect(14)
	nodes := func(l []api.Probe) (s []int) {
		for _, u := range l[0].Updates {
			s = append(s, u.Node)
		}
		return s
	}
	for i, want := range [][]int{{9, 0, 1, 2, 3, 4, 5, 6}, {9, 7, 8, 10, 11, 12, 13, 14}, {9, 15, 0, 1, 2, 3, 4, 5}, {9, 6, 7, 8, 10, 11, 12, 13}, {9, 14, 15, 0, 1, 2, 3, 4}} {
		if got := nodes(p.Tick(i)); !slices.Equal(got, want) {
			t.Error(i, got)
		}
	}
	m.Suspect(15)
	if got := nodes(p.Tick(5)); !slices.Equal(got, []int{9, 15, 5, 6, 7, 8, 10, 11}) {
		t.Error(got)
	}
}

// P19.3: all updates are heard, ahead of the answer.
func TestHeardFirst(t *testing.T) {
	p, m := prober(0, 2, 5, 2, 3)
	l, e := p.Hear(1, api.Probe{Kind: api.ProbePing, Seq: 1, Updates: []api.Update{{Node: 0, State: api.Suspect, Inc: 5}, {Node: 1, State: api.Alive, Inc: 3}}}, 0)
	if e != api.OK || m.Self().Inc != 6 || !slices.Equal(l[0].Updates, []api.Update{{Node: 0, State: 1, Inc: 6}, {Node: 1, State: 1, Inc: 3}}) {
		t.Error(l, e)
	}
}

// P19.3: a prober that is not there; ticks at the ends of numbers.
func TestNone(t *testing.T) {
	for _, p := range []*probe.Prober{nil, {}} {
		if p.Tick(0) != nil {
			t.Error("Tick")
		}
		if l, e := p.Hear(1, api.Probe{Kind: 1}, 0); l != nil || e != api.ErrNil {
			t.Error(l, e)
		}
	}
	p, m := prober(0, 2, 5, 2, 3)
	p.Tick(math.MinInt)
	p.Tick(math.MaxInt)
	if state(m, 1) != api.Suspect {
		t.Error("all ticks lie between")
	}
}

// round lets all that are up tick, and hands over what is told, till nothing is.
func round(ps []*probe.Prober, up func(int) bool, now int) {
	type packet struct {
		from int
		x    api.Probe
	}
	var way []packet
	for i, p := range ps {
		if up(i) {
			for _, x := range p.Tick(now) {
				way = append(way, packet{i, x})
			}
		}
	}
	for len(way) > 0 {
		w := way[0]
		way = way[1:]
		if up(w.x.To) {
			l, _ := ps[w.x.To].Hear(w.from, w.x, now)
			for _, x := range l {
				way = append(way, packet{w.x.To, x})
			}
		}
	}
}

// P19.4: who never answers is dead in time, who answers never is; who is back is alive again.
func TestBound(t *testing.T) {
	for _, nodes := range []int{2, 3, 9, 16} {
		every, timeout, suspect := 2, 3, 4
		ps, ms := make([]*probe.Prober, nodes), make([]*member.Members, nodes)
		for i := range nodes {
			ps[i], ms[i] = prober(i, nodes, every, timeout, suspect)
		}
		bound := (nodes+1)*every + 2*timeout + suspect + 3
		for now := range bound {
			round(ps, func(i int) bool { return i != 1 }, now)
		}
		for i, m := range ms {
			for n := range nodes {
				if dead := state(m, n) == api.Dead; i != 1 && dead != (n == 1) {
					t.Errorf("%d nodes: for %d the state of %d is %d", nodes, i, n, state(m, n))
				}
			}
		}
		for now := bound; now < 3*bound; now++ {
			round(ps, func(i int) bool { return true }, now)
		}
		for _, m := range ms {
			if len(m.Alive()) != nodes {
				t.Errorf("%d nodes: %v", nodes, m.All())
			}
		}
	}
}
