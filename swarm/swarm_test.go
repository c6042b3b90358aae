package swarm_test

import (
	"bytes"
	"math"
	"math/rand"
	"slices"
	"strings"
	"testing"

	"murmuration/action"
	"murmuration/api"
	"murmuration/clean"
	"murmuration/disk"
	"murmuration/frames"
	"murmuration/node"
	"murmuration/swarm"
	"murmuration/tree"
)

var secret = []byte("hush")

func config(nodes int) api.Config {
	return api.Config{Nodes: nodes, Window: 4, Time: 5, Budget: 90, Lease: 400, Wait: 5, Cap: 600, Every: 2, Timeout: 3, Suspect: 6, Gossip: 3, Quota: 100000}
}

func lines(text string) []byte { return []byte(strings.ReplaceAll(text, "; ", "\n")) }

func one(path, text string) api.Tree { return api.Tree{{Path: path, Bytes: []byte(text)}} }

const copies = "target a; fuel 99; copy src/x out/y; end; target b a; fuel 99; copy in/a/y out/z; end; "

func make3(t *testing.T, c api.Config, holders uint16) *swarm.Swarm {
	t.Helper()
	s, e := swarm.New(c, holders, secret)
	if e != api.OK || s == nil {
		t.Fatal(e)
	}
	return s
}

func do(t *testing.T, s *swarm.Swarm, want api.Errno, l ...api.Event) {
	t.Helper()
	for _, e := range l {
		if got := s.Do(e); got != want {
			t.Errorf("%v: %d, not %d", e, got, want)
		}
	}
}

func tick(n int) api.Event    { return api.Event{Kind: api.EventTick, Node: n} }
func rounds(n int) api.Event  { return api.Event{Kind: api.EventRounds, N: n} }
func crash(n int) api.Event   { return api.Event{Kind: api.EventCrash, Node: n} }
func restart(n int) api.Event { return api.Event{Kind: api.EventRestart, Node: n} }
func request(n int, target string) api.Event {
	return api.Event{Kind: api.EventRequest, Node: n, Target: target}
}
func edit(n int, sources api.Tree, text string) api.Event {
	return api.Event{Kind: api.EventEdit, Node: n, Sources: sources, File: lines(text)}
}

// P28.1, P28.2: New.
func TestNew(t *testing.T) {
	if s, e := swarm.New(api.Config{}, 1, secret); s != nil || e != api.ErrArg {
		t.Error(e)
	}
	c := config(3)
	c.Quota = 0
	if s, e := swarm.New(c, 1, secret); s != nil || e != api.ErrArg {
		t.Error(e)
	}
	own := bytes.Clone(secret)
	s, e := swarm.New(config(3), 0xfffd, own)
	own[0]++
	if e != api.OK || s.Config() != config(3) || len(s.Packets()) != 0 {
		t.Error(e)
	}
	for n, want := range map[int]bool{0: true, 1: false, 2: true, 3: false, 15: false, 16: false, -1: false, math.MaxInt: false, math.MinInt: false} {
		if s.Holder(n) != want || s.Up(n) != want || (s.Node(n) != nil) != want {
			t.Error(n)
		}
	}
	do(t, s, api.OK, tick(0))
	for _, p := range s.Packets() {
		if _, e := frames.Read(secret, p.Bytes); e != api.OK {
			t.Error("the secret", e)
		}
	}
}

// P28.1: what events are answered, when they can't be.
func TestRefused(t *testing.T) {
	s := make3(t, config(3), 3)
	do(t, s, api.ErrArg, api.Event{}, api.Event{Kind: 11}, api.Event{Kind: 255, Node: 99})
	for kind := api.EventTick; kind <= api.EventRestart; kind++ {
		for _, n := range []int{2, 3, -1, 16, math.MaxInt} {
			do(t, s, api.ErrNone, api.Event{Kind: kind, Node: n, N: n})
		}
	}
	for _, n := range []int{-1, 1001, math.MinInt, math.MaxInt} {
		do(t, s, api.ErrNone, rounds(n), api.Event{Kind: api.EventDeliver, N: n}, api.Event{Kind: api.EventCopy, N: n}, api.Event{Kind: api.EventDrop, N: n})
	}
	do(t, s, api.ErrNone, api.Event{Kind: api.EventDeliver}, api.Event{Kind: api.EventCopy}, api.Event{Kind: api.EventDrop})
	do(t, s, api.OK, crash(0))
	do(t, s, api.ErrDown, tick(0), crash(0), request(0, "a"), edit(0, nil, ""), api.Event{Kind: api.EventInject})
	if s.Up(0) || !s.Holder(0) || s.Node(0) != nil {
		t.Error("it is down")
	}
	do(t, s, api.OK, restart(0))
	do(t, s, api.ErrUp, restart(0), restart(1))
	if !s.Up(0) || s.Node(0).Members()[0].Inc != 2 {
		t.Error("it is up")
	}
	do(t, s, api.OK, rounds(0))
	do(t, s, api.ErrForm, api.Event{Kind: api.EventInject, Bytes: []byte("x")})
	do(t, s, api.ErrArg, edit(0, one("X", ""), ""))
	do(t, s, api.OK, request(0, "a"), edit(0, one("x", "1"), copies), request(0, "b"))
	do(t, s, api.ErrBusy, request(0, "b"))
}

// P28.1: packets that are delivered, copied, dropped; and those to nobody.
func TestPackets(t *testing.T) {
	s := make3(t, config(3), 3)
	do(t, s, api.OK, tick(0), tick(0), tick(0), tick(0), tick(0), tick(0))
	l := s.Packets()
	if len(l) < 4 {
		t.Fatal(len(l))
	}
	do(t, s, api.ErrNone, api.Event{Kind: api.EventDrop, N: len(l)})
	do(t, s, api.OK, api.Event{Kind: api.EventDrop, N: 1})
	left := s.Packets()
	if len(left) != len(l)-1 || !bytes.Equal(left[0].Bytes, l[0].Bytes) || !bytes.Equal(left[1].Bytes, l[2].Bytes) {
		t.Error("dropped")
	}
	left[0].Bytes[0]++
	if left[0].To != 1 || !bytes.Equal(s.Packets()[0].Bytes, l[0].Bytes) {
		t.Error("memory is shared")
	}
	do(t, s, api.OK, api.Event{Kind: api.EventCopy})
	again := s.Packets()
	if len(again) != len(l) || !bytes.Equal(again[0].Bytes, l[0].Bytes) || again[len(again)-1].To != 0 {
		t.Error("copied")
	}
	do(t, s, api.OK, api.Event{Kind: api.EventDeliver})
	if got := s.Packets(); len(got) != len(l) || !bytes.Equal(got[0].Bytes, l[2].Bytes) {
		t.Error("delivered")
	}
	toNobody := slices.IndexFunc(s.Packets(), func(p api.Packet) bool { return p.To == 2 })
	n := len(s.Packets())
	do(t, s, api.OK, api.Event{Kind: api.EventDeliver, N: toNobody})
	if len(s.Packets()) != n-1 {
		t.Error("to nobody")
	}
	do(t, s, api.OK, crash(1))
	toDown := slices.IndexFunc(s.Packets(), func(p api.Packet) bool { return p.To == 1 })
	do(t, s, api.OK, api.Event{Kind: api.EventCopy, N: toDown})
	if len(s.Packets()) != n-1 {
		t.Error("to one that is down")
	}
}

// P28.1: what a node is to send is on its way right behind an event at it.
func TestOnItsWay(t *testing.T) {
	s := make3(t, config(3), 7)
	ping, _ := frames.Bytes(secret, api.Frame{Kind: 1, From: 1, To: 0, Probe: api.Probe{Kind: api.ProbePing, Seq: 3}})
	do(t, s, api.OK, api.Event{Kind: api.EventInject, Node: 0, Bytes: ping})
	l := s.Packets()
	if len(l) != 1 || l[0].To != 1 {
		t.Fatal(l)
	}
	if f, e := frames.Read(secret, l[0].Bytes); e != api.OK || f.Probe.Kind != api.ProbeAck || f.Probe.Seq != 3 {
		t.Error(f, e)
	}
	do(t, s, api.OK, tick(1), crash(1))
	if n := len(s.Packets()); n < 2 {
		t.Error("what a node has sent stays on its way when it crashes", n)
	}
	do(t, s, api.OK, edit(0, one("x", "1"), copies), request(0, "a"))
	n := len(s.Packets())
	do(t, s, api.OK, tick(0))
	if len(s.Packets()) <= n {
		t.Error("a tick")
	}
}

// P28.1: more packets than there may be: the first ones are lost.
func TestFull(t *testing.T) {
	c := config(16)
	c.Every, c.Gossip = 1, 1
	s := make3(t, c, 0xffff)
	var sent []api.Packet
	for i := range 4000 {
		n := len(s.Packets())
		do(t, s, api.OK, tick(i%16))
		if l := s.Packets(); n < api.MaxPackets-40 {
			sent = append(sent, l[n:]...)
		} else {
			sent = append(sent, l[len(l)-1])
			if len(l) > api.MaxPackets {
				t.Fatal(len(l))
			}
		}
		if len(s.Packets()) == api.MaxPackets && n == api.MaxPackets {
			break
		}
	}
	l := s.Packets()
	if len(l) != api.MaxPackets || bytes.Equal(l[0].Bytes, sent[0].Bytes) || !bytes.Equal(l[len(l)-1].Bytes, sent[len(sent)-1].Bytes) {
		t.Error("the first ones are lost", len(l))
	}
}

// P28.1: rounds are ticks by numbers, and then all that is on its way, one by one; what is sent meanwhile waits.
func TestRounds(t *testing.T) {
	a, b := make3(t, config(4), 7), make3(t, config(4), 7)
	for _, s := range []*swarm.Swarm{a, b} {
		for n := range 3 {
			do(t, s, api.OK, edit(n, one("x", "1"), copies), request(n, "b"))
		}
	}
	do(t, a, api.OK, rounds(25), rounds(15))
	for range 40 {
		do(t, b, api.OK, tick(0), tick(1), tick(2))
		for range len(b.Packets()) {
			do(t, b, api.OK, api.Event{Kind: api.EventDeliver})
		}
	}
	if !sameSwarms(a, b) {
		t.Error("rounds are not what they are made of")
	}
	for n := range 3 {
		if x := a.Node(n); x.Now() != 40 || x.Build().State != api.BuildDone || !tree.Same(x.Build().Tree, one("z", "1")) {
			t.Error(n, x.Now(), x.Build())
		}
	}
}

func sameSwarms(a, b *swarm.Swarm) bool {
	for n := range api.MaxNodes {
		x, y := a.Node(n), b.Node(n)
		if a.Up(n) != b.Up(n) || x.Now() != y.Now() || !slices.Equal(x.Known(), y.Known()) || !slices.Equal(x.Members(), y.Members()) || !slices.Equal(x.Ran(), y.Ran()) {
			return false
		}
		p, q := x.Build(), y.Build()
		if p.State != q.State || p.Target != q.Target || p.Errno != q.Errno || !tree.Same(p.Tree, q.Tree) || len(x.Took()) != len(y.Took()) {
			return false
		}
	}
	return slices.EqualFunc(a.Packets(), b.Packets(), func(p, q api.Packet) bool { return p.To == q.To && bytes.Equal(p.Bytes, q.Bytes) })
}

// A swarm is its nodes and packets: whoever does the same with nodes has the same.
func TestNodes(t *testing.T) {
	s := make3(t, config(2), 3)
	var l []*node.Node
	for id := range 2 {
		n, _ := node.New(config(2), id, secret, disk.New())
		l = append(l, n)
	}
	do(t, s, api.OK, edit(1, one("x", "1"), copies), request(1, "a"))
	l[1].Edit(one("x", "1"), lines(copies))
	l[1].Request("a")
	for range 30 {
		for id, n := range l {
			do(t, s, api.OK, tick(id))
			n.Tick()
			for _, p := range n.Out() {
				do(t, s, api.OK, api.Event{Kind: api.EventInject, Node: p.To, Bytes: p.Bytes})
				l[p.To].Deliver(p.Bytes)
				for _, q := range l[p.To].Out() {
					l[q.To].Deliver(q.Bytes)
				}
			}
		}
	}
	if a, b := s.Node(1).Build(), l[1].Build(); a.State != api.BuildDone || b.State != api.BuildDone || !slices.Equal(s.Node(0).Known(), l[0].Known()) {
		t.Error(a, b)
	}
}

// P28.2: a swarm that is not there.
func TestNone(t *testing.T) {
	for _, s := range []*swarm.Swarm{nil, {}} {
		do(t, s, api.ErrNil, tick(0), api.Event{}, rounds(1))
		if s.Packets() != nil || s.Up(0) || s.Holder(0) || s.Node(0) != nil || s.Config() != (api.Config{}) {
			t.Error("answers")
		}
	}
}

// chance is an event at chance; some of the injected are frames with another tag.
func chance(r *rand.Rand, s *swarm.Swarm) api.Event {
	n := r.Intn(4)
	packet := max(0, r.Intn(len(s.Packets())+1)-r.Intn(2))
	text := []string{copies, copies + "target c b; fuel 99; sort src/x; copy src/x out/w; end", "target a; fuel 9; fail; end; target b; fuel 99; copy src/x out/q; end"}[r.Intn(3)]
	switch k := r.Intn(40); {
	case k < 8:
		return tick(n)
	case k < 20:
		return api.Event{Kind: api.EventDeliver, N: packet}
	case k < 22:
		return api.Event{Kind: api.EventCopy, N: packet}
	case k < 24:
		return api.Event{Kind: api.EventDrop, N: packet}
	case k < 26:
		return foreign(r, n)
	case k < 28:
		return edit(n, one("x", []string{"1", "2\n1\n", strings.Repeat("long", 50)}[r.Intn(3)]), text)
	case k < 32:
		return request(n, []string{"a", "b", "c"}[r.Intn(3)])
	case k < 33:
		return api.Event{Kind: api.EventCrash, Node: n, Keep: r.Intn(3000)}
	case k < 35:
		return restart(n)
	}
	return rounds(r.Intn(12))
}

// foreign is an inject of a frame by another secret, or of bytes of no frame.
func foreign(r *rand.Rand, n int) api.Event {
	from := (n + 1) % 4
	f := []api.Frame{
		{Kind: 1, From: from, To: n, Probe: api.Probe{To: n, Kind: 1, Updates: []api.Update{{Node: n, State: api.Dead, Inc: 1 << 30}}}},
		{Kind: 2, From: from, To: n, Gossip: api.Gossip{Kind: 1, Count: 7}},
		{Kind: 3, From: from, To: n, Claim: api.Claim{Node: from, Count: 1 << 30}},
		{Kind: 4, From: from, To: n, Attest: api.Attest{Length: 9}},
	}[r.Intn(4)]
	b, _ := frames.Bytes([]byte("other"), f)
	if r.Intn(4) == 0 {
		b = b[:r.Intn(len(b))]
	}
	return api.Event{Kind: api.EventInject, Node: n, Bytes: b}
}

// world remembers what a test has to know of a swarm that changes.
type world struct {
	t      *testing.T
	s      *swarm.Swarm
	ran    map[api.Digest]int
	trees  map[api.Digest]api.Tree
	edits  [api.MaxNodes]api.Event
	begins [api.MaxNodes]int
}

// learn builds cleanly what an edit's targets give, by keys.
func (w *world) learn(e api.Event) {
	w.edits[e.Node] = e
	for _, want := range []string{"a", "b", "c"} {
		all, _ := clean.Outs(e.Sources, e.File, want)
		for _, b := range all {
			k, _ := action.Key(b.Action)
			w.trees[k] = b.Out
		}
	}
}

// check: T1, T2, T4, P28.3 of all nodes that are up.
func (w *world) check() {
	for n := range 4 {
		x := w.s.Node(n)
		for _, k := range x.Ran() {
			w.ran[k]++
		}
	}
	for n := range 4 {
		x := w.s.Node(n)
		for _, a := range x.Known() {
			if w.ran[a.Key] == 0 {
				w.t.Fatal("nobody has run what is known")
			}
		}
		for _, y := range x.Took() {
			if want, ok := w.trees[y.Key]; !ok || !tree.Same(want, y.Tree) || w.ran[y.Key] == 0 {
				w.t.Fatal("what is taken is not what the action gives")
			}
		}
		w.checkBuild(n, x)
	}
}

func (w *world) checkBuild(n int, x *node.Node) {
	b := x.Build()
	want, e := clean.Build(w.edits[n].Sources, w.edits[n].File, b.Target)
	switch b.State {
	case api.BuildDone, api.BuildFailed:
		if (b.State == api.BuildDone) != (e == api.OK) || b.Errno != e || !tree.Same(b.Tree, want) {
			w.t.Fatalf("%v; clean: %v, %d", b, want, e)
		}
	case api.BuildRunning:
		if x.Now()-w.begins[n] >= x.Bound(3) {
			w.t.Fatal("it takes too long")
		}
	}
}

// T1 to T4, T6, P28.3, P28.4: whatever happens.
func TestChance(t *testing.T) {
	for seed := range int64(40) {
		r := rand.New(rand.NewSource(seed))
		c := config(4)
		c.Cap, c.Lease, c.Budget, c.Wait = r.Intn(40), r.Intn(60), 1+r.Intn(30), r.Intn(8)
		c.Quota = []int{30, 400, 100000}[r.Intn(3)]
		w := &world{t: t, s: make3(t, c, 15), ran: map[api.Digest]int{}, trees: map[api.Digest]api.Tree{}}
		twin := make3(t, c, 15)
		for range 300 {
			e := chance(r, w.s)
			before := w.s.Node(e.Node)
			wasDown, inc, known := before == nil, incarnation(before, e.Node), ownKnown(before)
			got := w.s.Do(e)
			if e.Kind == api.EventInject {
				if got == api.OK {
					t.Fatal("another secret's frame is taken")
				}
				continue
			}
			if twin.Do(e) != got {
				t.Fatal("what was injected has changed something")
			}
			if got == api.OK && e.Kind == api.EventEdit {
				w.learn(e)
			}
			if got == api.OK && e.Kind == api.EventRequest {
				w.begins[e.Node] = w.s.Node(e.Node).Now()
			}
			if got == api.OK && e.Kind == api.EventCrash && !wasDown {
				w.edits[e.Node] = api.Event{}
				do(t, w.s, api.OK, restart(e.Node))
				do(t, twin, api.OK, restart(e.Node))
				checkRestart(t, w.s.Node(e.Node), e.Node, inc, known, c)
			}
			w.check()
		}
		if !sameSwarms(w.s, twin) {
			t.Fatal("what was injected has changed something")
		}
	}
}

func incarnation(x *node.Node, n int) uint64 {
	if x == nil {
		return 0
	}
	return x.Members()[n].Inc
}

// ownKnown is the results of what was run here.
func ownKnown(x *node.Node) (l []api.Attest) {
	for _, a := range x.Known() {
		for _, y := range x.Took() {
			if y.Key == a.Key && y.How == api.TookRun {
				l = append(l, a)
			}
		}
	}
	return l
}

// T3: the incarnation is greater, and what was told as its result is known still.
func checkRestart(t *testing.T, x *node.Node, n int, inc uint64, own []api.Attest, c api.Config) {
	if incarnation(x, n) <= inc {
		t.Fatal("the incarnation does not rise")
	}
	for _, a := range own {
		if c.Quota == 100000 && !slices.Contains(x.Known(), a) {
			t.Fatal("what was told is forgotten")
		}
	}
}

// T5: in good times all becomes one, and each action is begun once.
func TestGoodTimes(t *testing.T) {
	for seed := range int64(30) {
		r := rand.New(rand.NewSource(seed))
		nodes := 2 + r.Intn(6)
		c := config(nodes)
		c.Window, c.Time, c.Wait = 1+r.Intn(5), 3+r.Intn(4), 3+r.Intn(5)
		c.Budget = 400
		s := make3(t, c, uint16(r.Intn(1<<nodes))|3)
		for range 100 {
			e := chance(r, s)
			if e.Node < nodes && e.Kind != api.EventCrash {
				s.Do(e)
			}
		}
		for n := 1; n < nodes; n++ {
			if r.Intn(3) == 0 {
				s.Do(crash(n))
			}
		}
		do(t, s, api.OK, rounds(1000))
		checkCalm(t, s)
		var before [api.MaxNodes]int
		for n := range nodes {
			before[n] = len(s.Node(n).Ran())
			if s.Up(n) {
				do(t, s, api.OK, edit(n, one("x", strings.Repeat("new", 1+r.Intn(2)*300)), copies))
			}
		}
		for n := range nodes {
			if s.Up(n) && (n == 0 || r.Intn(3) > 0) {
				do(t, s, api.OK, request(n, []string{"a", "b"}[r.Intn(2)]), rounds(r.Intn(3)*r.Intn(20)))
			}
		}
		do(t, s, api.OK, rounds(1000))
		checkCalm(t, s)
		begun := map[api.Digest]int{}
		for n := range nodes {
			for _, k := range s.Node(n).Ran()[before[n]:] {
				begun[k]++
			}
			if b := s.Node(n).Build(); s.Up(n) && b.State == api.BuildRunning {
				t.Errorf("seed %d: %d is running still", seed, n)
			}
		}
		for _, k := range begun {
			if k != 1 {
				t.Errorf("seed %d, %d nodes: an action was begun %d times", seed, nodes, k)
			}
		}
	}
}

// checkCalm: what all know is one; whoever is up is alive for them, whoever is not is dead.
func checkCalm(t *testing.T, s *swarm.Swarm) {
	t.Helper()
	for n := range s.Config().Nodes {
		if !s.Up(n) {
			continue
		}
		x := s.Node(n)
		for m, u := range x.Members() {
			if s.Up(m) != (u.State == api.Alive) || !s.Up(m) && u.State != api.Dead {
				t.Errorf("for %d the state of %d is %d", n, m, u.State)
			}
		}
		for m := range s.Config().Nodes {
			if s.Up(m) && !slices.Equal(x.Known(), s.Node(m).Known()) {
				t.Errorf("%d and %d don't know the same", n, m)
			}
		}
	}
}
