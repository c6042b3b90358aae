package node_test

import (
	"bytes"
	"math"
	"math/rand"
	"slices"
	"strings"
	"testing"

	"murmuration/action"
	"murmuration/api"
	"murmuration/attest"
	"murmuration/clean"
	"murmuration/disk"
	"murmuration/frames"
	"murmuration/merkle"
	"murmuration/node"
	"murmuration/store"
	"murmuration/tree"
	"murmuration/vm"
)

var secret = []byte("hush")

func config(nodes int) api.Config {
	return api.Config{Nodes: nodes, Window: 4, Time: 5, Budget: 60, Lease: 400, Wait: 5, Cap: 500, Every: 2, Timeout: 3, Suspect: 6, Gossip: 3, Quota: 100000}
}

func lines(text string) []byte { return []byte(strings.ReplaceAll(text, "; ", "\n")) }

func file(path, text string) api.File { return api.File{Path: path, Bytes: []byte(text)} }

func one(path, text string) api.Tree { return api.Tree{file(path, text)} }

const copies = "target a; fuel 99; copy src/x out/y; end; target b a; fuel 99; copy in/a/y out/z; end; "

// net is nodes, of which some may be none, and packets between them.
type net struct {
	t     *testing.T
	c     api.Config
	nodes []*node.Node
	disks []*disk.Disk
	way   []api.Packet
}

func network(t *testing.T, c api.Config) *net {
	g := &net{t: t, c: c}
	for id := range c.Nodes {
		g.disks = append(g.disks, disk.New())
		g.nodes = append(g.nodes, nil)
		g.up(id)
	}
	return g
}

func (g *net) up(id int) *node.Node {
	g.t.Helper()
	n, e := node.New(g.c, id, secret, g.disks[id])
	if e != api.OK || n == nil {
		g.t.Fatal(e)
	}
	g.nodes[id] = n
	return n
}

func (g *net) round() {
	for _, n := range g.nodes {
		n.Tick()
		g.way = append(g.way, n.Out()...)
	}
	way := g.way
	g.way = nil
	for _, p := range way {
		g.nodes[p.To].Deliver(p.Bytes)
		g.way = append(g.way, g.nodes[p.To].Out()...)
	}
}

func (g *net) rounds(n int) {
	for range n {
		g.round()
	}
}

func begin(t *testing.T, n *node.Node, sources api.Tree, text, target string) {
	t.Helper()
	if e := n.Edit(sources, lines(text)); e != api.OK {
		t.Fatal(e)
	}
	if e := n.Request(target); e != api.OK {
		t.Fatal(e)
	}
}

func done(t *testing.T, n *node.Node, target string, want api.Tree) {
	t.Helper()
	b := n.Build()
	if b.State != api.BuildDone || b.Target != target || b.Errno != api.OK || !tree.Same(b.Tree, want) {
		t.Errorf("%s: %v", target, b)
	}
}

func failed(t *testing.T, n *node.Node, target string, want api.Errno) {
	t.Helper()
	b := n.Build()
	if b.State != api.BuildFailed || b.Target != target || b.Errno != want || len(b.Tree) != 0 {
		t.Errorf("%s: %v, not %d", target, b, want)
	}
}

func ways(n *node.Node) (how []uint8) {
	for _, x := range n.Took() {
		how = append(how, x.How)
	}
	return how
}

// P27.1: which configs may be, and what New refuses.
func TestNew(t *testing.T) {
	least := api.Config{Nodes: 1, Window: 1, Time: 1, Budget: 1, Every: 1, Timeout: 1, Suspect: 1, Gossip: 1, Quota: 1}
	const m = 1000000
	most := api.Config{Nodes: 16, Window: 100, Time: m, Budget: m, Lease: m, Wait: m, Cap: m, Every: m, Timeout: m, Suspect: m, Gossip: m, Quota: 200000}
	if !node.May(least) || !node.May(most) || node.May(api.Config{}) {
		t.Error("bounds")
	}
	fields := func(c *api.Config) []*int {
		return []*int{&c.Nodes, &c.Window, &c.Time, &c.Budget, &c.Lease, &c.Wait, &c.Cap, &c.Every, &c.Timeout, &c.Suspect, &c.Gossip, &c.Quota}
	}
	for i := range fields(&least) {
		for _, d := range []int{-1, math.MinInt} {
			c, o := least, most
			*fields(&c)[i] += d
			*fields(&o)[i] -= d
			for _, x := range []api.Config{c, o} {
				if n, e := node.New(x, 0, secret, disk.New()); node.May(x) || n != nil || e != api.ErrArg {
					t.Errorf("field %d: %v", i, x)
				}
			}
		}
	}
	for _, id := range []int{-1, 3, math.MaxInt} {
		if n, e := node.New(config(3), id, secret, nil); n != nil || e != api.ErrArg {
			t.Error(id, e)
		}
	}
	if n, e := node.New(config(3), 0, secret, nil); n != nil || e != api.ErrNil {
		t.Error("no disk", e)
	}
	n, e := node.New(least, 0, nil, disk.New())
	if e != api.OK || n.Now() != 0 || len(n.Out()) != 0 || n.Build().State != api.BuildIdle || len(n.Members()) != 1 || n.Members()[0].Inc != 1 {
		t.Error("a new one", e)
	}
	n, _ = node.New(config(2), 1, secret, disk.New())
	for g, want := range map[int]int{-5: 2, 0: 2, 1: 500 + 60 + 313 + 4 + 2, 3: 3*877 + 2, 20: 20*877 + 2, 21: 20*877 + 2, math.MaxInt: 20*877 + 2, math.MinInt: 2} {
		if n.Bound(g) != want {
			t.Error("Bound", g, n.Bound(g))
		}
	}
}

// P27.2: edits and requests.
func TestRequest(t *testing.T) {
	n := network(t, config(1)).nodes[0]
	if n.Request("a") != api.OK {
		t.Error("Request")
	}
	failed(t, n, "a", api.ErrNone)
	for want, x := range map[api.Errno][2]string{api.ErrForm: {"\"", "a"}, api.ErrShort: {"target a", "a"}, api.ErrNone: {copies, "c"}, api.ErrCycle: {"target a a; fuel 1; end", "a"}} {
		begin(t, n, nil, x[0], x[1])
		failed(t, n, x[1], want)
	}
	begin(t, n, one("x", "1"), copies, "b")
	if n.Build().State != api.BuildRunning || n.Build().Target != "b" || n.Request("a") != api.ErrBusy || n.Request("q") != api.ErrBusy {
		t.Error("running")
	}
	n.Tick()
	if n.Edit(one("X", ""), nil) != api.ErrArg || n.Edit(nil, make([]byte, api.MaxBuild+1)) != api.ErrArg || n.Build().State != api.BuildRunning {
		t.Error("an edit that is refused changes nothing")
	}
	if n.Edit(nil, make([]byte, api.MaxBuild)) != api.OK {
		t.Error("Edit")
	}
	if b := n.Build(); b.State != api.BuildIdle || b.Target != "" || n.Request("") != api.OK {
		t.Error("idle", b)
	}
	failed(t, n, "", api.ErrForm)
	sources, text := one("x", "1"), lines(copies)
	n.Edit(sources, text)
	sources[0].Bytes[0], text[0] = '9', '"'
	n.Request("a")
	for range 20 {
		n.Tick()
	}
	done(t, n, "a", one("y", "1"))
}

// The first example of the whole: a node alone.
func TestAlone(t *testing.T) {
	n := network(t, config(1)).nodes[0]
	begin(t, n, one("x", "1"), copies, "a")
	for range 20 {
		n.Tick()
	}
	done(t, n, "a", one("y", "1"))
	if n.Now() != 20 || len(n.Ran()) != 1 || len(n.Known()) != 1 || !slices.Equal(ways(n), []uint8{api.TookRun}) || len(n.Out()) != 0 {
		t.Error(n.Now(), n.Ran(), n.Known(), n.Took())
	}
	n.Request("b")
	for range 20 {
		n.Tick()
	}
	done(t, n, "b", one("z", "1"))
	if len(n.Ran()) != 2 || !slices.Equal(ways(n), []uint8{api.TookRun, api.TookStored, api.TookRun}) {
		t.Error(n.Ran(), ways(n))
	}
	out := n.Build()
	out.Tree[0].Bytes[0] = 'q'
	n.Took()[0].Tree[0].Bytes[0] = 'q'
	n.Ran()[0][0]++
	done(t, n, "b", one("z", "1"))
	if string(n.Took()[0].Tree[0].Bytes) != "1" {
		t.Error("memory is shared")
	}
}

// ticksOf is how many ticks a request takes.
func ticksOf(n *node.Node) (ticks int) {
	for n.Build().State == api.BuildRunning {
		n.Tick()
		ticks++
	}
	return ticks
}

// P27.3: how long runs last, and how they fail.
func TestRuns(t *testing.T) {
	c := config(1)
	c.Wait = 0
	least := network(t, c).nodes[0]
	begin(t, least, nil, "target a; fuel 9; end", "a")
	ticks := ticksOf(least)
	for _, x := range []struct {
		text string
		more int
		e    api.Errno
	}{
		{"target a; fuel 63; jump 0; end", 0, api.ErrFuel}, {"target a; fuel 64; jump 0; end", 1, api.ErrFuel}, {"target a; fuel 127; jump 0; end", 1, api.ErrFuel}, {"target a; fuel 128; jump 0; end", 2, api.ErrFuel}, {"target a; fuel 20000; jump 0; end", 312, api.ErrFuel},
		{"target a; fuel 9; fail; end", 0, api.ErrFail}, {"target a; fuel 9; sort q; end", 0, api.ErrMissing}, {"target a; fuel 0; end", 0, api.OK}, {"target a; fuel 900; end", 0, api.OK},
	} {
		n := network(t, c).nodes[0]
		begin(t, n, nil, x.text, "a")
		if got := ticksOf(n); got != ticks+x.more || n.Build().Errno != x.e || len(n.Ran()) != 1 || len(n.Took()) != 0 && x.e != api.OK {
			t.Errorf("%s: %d ticks, %v", x.text, got, n.Build())
		}
	}
	n := network(t, c).nodes[0]
	begin(t, n, one(strings.Repeat("s", 37), ""), copies, "b")
	ticksOf(n)
	failed(t, n, "b", api.ErrFull)
	if len(n.Ran()) != 0 {
		t.Error("an action that can't be made is not run")
	}
}

// The second example of the whole: two want a at once; the smaller one runs it, the other one fetches it.
func TestTwo(t *testing.T) {
	g := network(t, config(3))
	for _, n := range g.nodes[1:] {
		begin(t, n, one("x", strings.Repeat("long", 99)), copies, "b")
	}
	g.rounds(200)
	for _, n := range g.nodes[1:] {
		done(t, n, "b", one("z", strings.Repeat("long", 99)))
	}
	if len(g.nodes[1].Ran()) != 2 || len(g.nodes[2].Ran()) != 0 || !slices.Equal(ways(g.nodes[2]), []uint8{api.TookFetched, api.TookFetched}) {
		t.Error(len(g.nodes[1].Ran()), ways(g.nodes[1]), ways(g.nodes[2]))
	}
	out, _ := tree.Bytes(one("y", strings.Repeat("long", 99)))
	g.nodes[2].Out()
	g.nodes[2].Deliver(frame(t, api.Frame{Kind: api.FrameWant, From: 0, To: 2, Root: merkle.Root(out)}))
	if l := told(t, g.nodes[2]); len(l) != 1 || l[0].Kind != api.FrameChunk {
		t.Error("what was fetched is not stored", l)
	}
	g.nodes[2].Request("b")
	g.rounds(20)
	if how := ways(g.nodes[2]); !slices.Equal(how[2:], []uint8{api.TookStored, api.TookStored}) {
		t.Error("what was fetched is not found", how)
	}
	for _, n := range g.nodes {
		if len(n.Known()) != 2 || !slices.Equal(n.Known(), g.nodes[1].Known()) {
			t.Error("known", len(n.Known()))
		}
	}
	begin(t, g.nodes[0], one("x", strings.Repeat("long", 99)), copies, "b")
	g.rounds(200)
	if !slices.Equal(ways(g.nodes[0]), []uint8{api.TookFetched, api.TookFetched}) || len(g.nodes[0].Ran()) != 0 {
		t.Error(ways(g.nodes[0]))
	}
}

// P27.3: what each tick tells, by kinds of frames.
func TestTold(t *testing.T) {
	n := network(t, config(4)).nodes[1]
	var starts, pings []int
	for range 12 {
		n.Tick()
		for _, p := range n.Out() {
			f, e := frames.Read(secret, p.Bytes)
			if e != api.OK || f.To != p.To || f.From != 1 {
				t.Fatal(f, e)
			}
			switch {
			case f.Kind == api.FrameGossip && f.Gossip.Kind == api.GossipSummary && len(f.Gossip.Prefix) == 0:
				starts = append(starts, 100*n.Now()+p.To)
			case f.Kind == api.FrameProbe && f.Probe.Kind == api.ProbePing:
				pings = append(pings, 100*n.Now()+p.To)
			}
		}
	}
	to := map[int]int{}
	for i, x := range starts {
		to[x%100]++
		if i > 0 && x/100-starts[i-1]/100 != 3 {
			t.Error("not each three ticks", starts)
		}
	}
	if len(starts) != 4 || len(to) != 3 || to[1] != 0 {
		t.Error("not by turns", starts)
	}
	if !slices.Equal(pings, []int{102, 303, 500, 702, 903, 1100}) {
		t.Error(pings)
	}
}

// P27.3: each tick, if Gossip is 1.
func TestGossipEachTick(t *testing.T) {
	c := config(2)
	c.Gossip = 1
	n := network(t, c).nodes[1]
	for range 5 {
		n.Tick()
		starts := 0
		for _, f := range told(t, n) {
			if f.Kind == api.FrameGossip && f.To == 0 {
				starts++
			}
		}
		if starts != 1 {
			t.Error("starts", starts)
		}
	}
}

// P27.3: in each tick probes are told first, then gossip, then wants, then what the request's step tells.
func TestOrder(t *testing.T) {
	c := config(3)
	c.Every, c.Gossip, c.Window = 1, 1, 1
	n := network(t, c).nodes[1]
	key, b := keyOf(t, one("x", strings.Repeat("q", 900)), copies, "a")
	out, _ := tree.Bytes(b.Out)
	a, _ := attest.Make(secret, key, merkle.Root(out), len(out))
	n.Deliver(frame(t, api.Frame{Kind: 4, From: 2, To: 1, Attest: a}))
	begin(t, n, one("x", strings.Repeat("q", 900)), copies, "b")
	ranks := map[uint8]int{api.FrameProbe: 1, api.FrameGossip: 2, api.FrameWant: 3, api.FrameClaim: 4, api.FrameResult: 4}
	seen := map[uint8]int{}
	for range 60 {
		n.Tick()
		last := 0
		for _, f := range told(t, n) {
			if ranks[f.Kind] < last {
				t.Error("out of order", n.Now(), f.Kind)
			}
			last = ranks[f.Kind]
			seen[f.Kind]++
			if chunk, e := merkle.Chunk(out, f.Chunk); f.Kind == api.FrameWant && f.To == 2 && e == api.OK {
				proof, _ := merkle.Proof(out, f.Chunk)
				n.Deliver(frame(t, api.Frame{Kind: 6, From: 2, To: 1, Root: f.Root, Chunk: f.Chunk, Bytes: chunk, Proof: proof}))
			}
		}
	}
	for kind := api.FrameProbe; kind <= api.FrameWant; kind++ {
		if seen[kind] == 0 {
			t.Error("nothing of the kind", kind)
		}
	}
}

// P27.3: a fetch that is stuck has failed, long ahead of its budget.
func TestStuck(t *testing.T) {
	c := config(2)
	c.Budget, c.Cap, c.Suspect = 100000, 200000, 100000
	key, b := keyOf(t, one("x", "1"), copies, "a")
	n := network(t, c).nodes[1]
	a, _ := attest.Make(secret, key, api.Digest{5}, 70)
	n.Deliver(frame(t, api.Frame{Kind: 4, From: 0, To: 1, Attest: a}))
	begin(t, n, one("x", "1"), copies, "a")
	for range 100 {
		n.Tick()
	}
	done(t, n, "a", b.Out)
}

// frame is a frame's bytes by the secret.
func frame(t *testing.T, f api.Frame) []byte {
	t.Helper()
	b, e := frames.Bytes(secret, f)
	if e != api.OK {
		t.Fatal(e)
	}
	return b
}

// told is the frames that a node is to send.
func told(t *testing.T, n *node.Node) (l []api.Frame) {
	t.Helper()
	for _, p := range n.Out() {
		f, e := frames.Read(secret, p.Bytes)
		if e != api.OK || f.To != p.To {
			t.Fatal(e)
		}
		l = append(l, f)
	}
	return l
}

// P27.5: what Deliver answers.
func TestDeliver(t *testing.T) {
	n := network(t, config(3)).nodes[1]
	ping := api.Frame{Kind: 1, From: 0, To: 1, Probe: api.Probe{To: 1, Kind: api.ProbePing, Seq: 5}}
	claim := api.Frame{Kind: 3, From: 0, To: 1, Claim: api.Claim{Count: 1}}
	foreign, _ := frames.Bytes([]byte("other"), ping)
	elsewhere := api.Frame{Kind: 5, From: 0, To: 2}
	stranger := api.Frame{Kind: 1, From: 7, To: 1, Probe: api.Probe{To: 1, Kind: api.ProbePing}}
	for i, x := range []struct {
		b    []byte
		want api.Errno
	}{
		{nil, api.ErrForm}, {make([]byte, 2001), api.ErrLong}, {foreign, api.ErrTag}, {frame(t, elsewhere), api.ErrNone}, {frame(t, stranger), api.ErrArg},
		{frame(t, claim), api.OK}, {frame(t, claim), api.ErrOld}, {frame(t, api.Frame{Kind: 5, From: 0, To: 1}), api.OK}, {frame(t, api.Frame{Kind: 6, From: 0, To: 1}), api.OK},
		{frame(t, api.Frame{Kind: 2, From: 0, To: 1, Gossip: api.Gossip{Kind: 2}}), api.OK},
	} {
		if e := n.Deliver(x.b); e != x.want || len(n.Out()) != 0 {
			t.Errorf("%d: %d", i, e)
		}
	}
	if n.Deliver(frame(t, ping)) != api.OK {
		t.Error("a ping")
	}
	l := told(t, n)
	if len(l) != 1 || l[0].Probe.Kind != api.ProbeAck || l[0].Probe.Seq != 5 || l[0].To != 0 {
		t.Error(l)
	}
}

// P27.5: of results and of gossip only those are learned whose tags are right.
func TestLearn(t *testing.T) {
	n := network(t, config(3)).nodes[1]
	right, _ := attest.Make(secret, api.Digest{1}, api.Digest{2}, 9)
	wrong, _ := attest.Make([]byte("other"), api.Digest{3}, api.Digest{2}, 9)
	also, _ := attest.Make(secret, api.Digest{4}, api.Digest{2}, 9)
	for _, a := range []api.Attest{right, wrong} {
		if n.Deliver(frame(t, api.Frame{Kind: 4, From: 0, To: 1, Attest: a})) != api.OK {
			t.Error("a result")
		}
	}
	if !slices.Equal(n.Known(), []api.Attest{right}) {
		t.Error(n.Known())
	}
	items := api.Gossip{Kind: api.GossipItems, Items: []api.Attest{wrong, also}}
	if n.Deliver(frame(t, api.Frame{Kind: 2, From: 2, To: 1, Gossip: items})) != api.OK || !slices.Equal(n.Known(), []api.Attest{right, also}) {
		t.Error(n.Known())
	}
	l := told(t, n)
	if len(l) != 1 || l[0].To != 2 || !l[0].Gossip.Answer || !slices.Equal(l[0].Gossip.Items, []api.Attest{right}) {
		t.Error(l)
	}
}

// P27.5: wants are answered by chunks that are proved.
func TestWants(t *testing.T) {
	g := network(t, config(2))
	n := g.nodes[0]
	begin(t, n, one("x", strings.Repeat("w", 100)), copies, "a")
	g.rounds(20)
	out, _ := tree.Bytes(one("y", strings.Repeat("w", 100)))
	root := merkle.Root(out)
	n.Out()
	for chunk := range 4 {
		n.Deliver(frame(t, api.Frame{Kind: 5, From: 1, To: 0, Root: root, Chunk: chunk}))
		l := told(t, n)
		if chunk >= merkle.Count(len(out)) {
			if len(l) != 0 {
				t.Error("a chunk that is not there")
			}
			continue
		}
		if len(l) != 1 || l[0].Kind != 6 || l[0].To != 1 || l[0].Root != root || l[0].Chunk != chunk || !merkle.Check(root, len(out), chunk, l[0].Bytes, l[0].Proof) {
			t.Error(chunk, l)
		}
	}
	n.Deliver(frame(t, api.Frame{Kind: 5, From: 1, To: 0, Root: api.Digest{1}}))
	if len(n.Out()) != 0 {
		t.Error("a blob that is not there")
	}
}

// P27.5: an incarnation that is raised lasts ahead of its being told.
func TestIncarnation(t *testing.T) {
	g := network(t, config(2))
	n := g.nodes[0]
	dead := api.Probe{Kind: api.ProbePing, Seq: 1, Updates: []api.Update{{Node: 0, State: api.Dead, Inc: 40}}}
	if n.Deliver(frame(t, api.Frame{Kind: 1, From: 1, To: 0, Probe: dead})) != api.OK {
		t.Error("a probe")
	}
	l := told(t, n)
	if n.Members()[0].Inc != 41 || len(l) != 1 || l[0].Probe.Updates[0] != (api.Update{State: api.Alive, Inc: 41}) {
		t.Error(n.Members(), l)
	}
	g.disks[0].Crash([2]int{})
	if inc := g.up(0).Members()[0].Inc; inc != 42 {
		t.Error("behind a crash", inc)
	}
	s, _ := store.Open(g.disks[0], 100)
	s.Raise(api.MaxIncarnation)
	if inc := g.up(0).Members()[0].Inc; inc != api.MaxInc {
		t.Error("the greatest", inc)
	}
}

// keyOf is the key of the first target's action.
func keyOf(t *testing.T, sources api.Tree, text, target string) (api.Digest, api.Built) {
	t.Helper()
	all, e := clean.Outs(sources, lines(text), target)
	if e != api.OK {
		t.Fatal(e)
	}
	b := all[len(all)-1]
	k, _ := action.Key(b.Action)
	return k, b
}

// P27.4: what was run here lasts when it is told, and goes to all; where there is no room it is not told.
func TestResults(t *testing.T) {
	key, b := keyOf(t, one("x", "1"), copies, "a")
	out, _ := tree.Bytes(b.Out)
	want, _ := attest.Make(secret, key, merkle.Root(out), len(out))
	c := config(3)
	for quota, tells := range map[int]bool{len(out): true, len(out) - 1: false} {
		c.Quota = quota
		g := network(t, c)
		n := g.nodes[1]
		begin(t, n, one("x", "1"), copies, "a")
		var to []int
		for range 20 {
			n.Tick()
			for _, f := range told(t, n) {
				if f.Kind != api.FrameResult {
					continue
				}
				to = append(to, f.To)
				torn := g.disks[1].Copy()
				torn.Crash([2]int{})
				again, e := node.New(c, 1, secret, torn)
				if e != api.OK || f.Attest != want || !slices.Equal(again.Known(), []api.Attest{want}) {
					t.Error("what was told does not last", f.Attest)
				}
			}
		}
		done(t, n, "a", b.Out)
		if tells != slices.Equal(to, []int{0, 2}) || !tells && len(to) > 0 {
			t.Error("told to", to)
		}
	}
}

// P27.4: claims and releases go to all others.
func TestClaims(t *testing.T) {
	n := network(t, config(3)).nodes[1]
	key, _ := keyOf(t, one("x", "1"), copies, "a")
	begin(t, n, one("x", "1"), copies, "a")
	claims := func() (l []api.Claim) {
		for _, f := range told(t, n) {
			if f.Kind == api.FrameClaim {
				l = append(l, f.Claim)
			}
		}
		return l
	}
	mine := api.Claim{Key: key, Node: 1, Inc: 1, Count: 1}
	n.Tick()
	if l := claims(); !slices.Equal(l, []api.Claim{mine, mine}) {
		t.Error("a claim", l)
	}
	gone := mine
	gone.Gone = true
	n.Deliver(frame(t, api.Frame{Kind: 3, From: 0, To: 1, Claim: api.Claim{Key: key, Count: 1}}))
	if l := claims(); !slices.Equal(l, []api.Claim{gone, gone}) {
		t.Error("a release", l)
	}
	for range 50 {
		n.Tick()
	}
	if l := claims(); len(l) != 0 || len(n.Ran()) != 0 {
		t.Error("it waits for a lease", l)
	}
	n.Deliver(frame(t, api.Frame{Kind: 3, From: 0, To: 1, Claim: api.Claim{Key: key, Count: 1, Gone: true}}))
	n.Tick()
	mine.Count = 2
	if l := claims(); !slices.Equal(l, []api.Claim{mine, mine}) {
		t.Error("another claim", l)
	}
}

// P27.5, T1: a result whose blob is no tree, or is not to be had, is not taken: the action is run here.
func TestPoison(t *testing.T) {
	key, b := keyOf(t, one("x", "1"), copies, "a")
	junk := []byte("this is no tree")
	for _, given := range []bool{true, false} {
		n := network(t, config(2)).nodes[1]
		bad, _ := attest.Make(secret, key, merkle.Root(junk), len(junk))
		n.Deliver(frame(t, api.Frame{Kind: 4, From: 0, To: 1, Attest: bad}))
		begin(t, n, one("x", "1"), copies, "a")
		for range 200 {
			n.Tick()
			for _, f := range told(t, n) {
				if f.Kind == api.FrameWant && given {
					n.Deliver(frame(t, api.Frame{Kind: 6, From: 0, To: 1, Root: f.Root, Chunk: f.Chunk, Bytes: junk}))
				}
			}
		}
		done(t, n, "a", b.Out)
		if !slices.Equal(ways(n), []uint8{api.TookRun}) {
			t.Error(ways(n))
		}
	}
}

// T1: what the disk has with a wrong tag is not taken.
func TestForeignStore(t *testing.T) {
	key, b := keyOf(t, one("x", "1"), copies, "a")
	d := disk.New()
	s, _ := store.Open(d, 1000)
	lie, _ := tree.Bytes(one("y", "lie"))
	root, _ := s.Put(lie)
	a, _ := attest.Make([]byte("other"), key, root, len(lie))
	s.Keep(a)
	s.Sync()
	n, _ := node.New(config(1), 0, secret, d)
	if len(n.Known()) != 0 {
		t.Error("it is known")
	}
	begin(t, n, one("x", "1"), copies, "a")
	for range 20 {
		n.Tick()
	}
	done(t, n, "a", b.Out)
	a, _ = attest.Make(secret, key, root, len(lie))
	s, _ = store.Open(d, 1000)
	s.Put(lie)
	s.Keep(a)
	n, _ = node.New(config(1), 0, secret, d)
	begin(t, n, one("x", "1"), copies, "a")
	ticksOf(n)
	done(t, n, "a", one("y", "lie"))
	if !slices.Equal(ways(n), []uint8{api.TookStored}) {
		t.Error("what has a right tag is taken")
	}
}

// P27.3: what is asked for: each chunk once, of no peer more than the window.
func TestWindow(t *testing.T) {
	n := network(t, config(3)).nodes[1]
	key, b := keyOf(t, one("x", strings.Repeat("q", 900)), copies, "a")
	out, _ := tree.Bytes(b.Out)
	a, _ := attest.Make(secret, key, merkle.Root(out), len(out))
	n.Deliver(frame(t, api.Frame{Kind: 4, From: 2, To: 1, Attest: a}))
	begin(t, n, one("x", strings.Repeat("q", 900)), copies, "a")
	peers, chunks := map[int]int{}, map[int]int{}
	for range 3 {
		n.Tick()
		for _, f := range told(t, n) {
			if f.Kind == api.FrameWant {
				peers[f.To]++
				chunks[f.Chunk]++
				if f.Root != a.Root || chunks[f.Chunk] > 1 || peers[f.To] > 4 {
					t.Error(f.Chunk, f.To)
				}
			}
		}
	}
	if len(chunks) < 4 || len(n.Ran()) != 0 {
		t.Error("wants", chunks)
	}
}

// P27.4: what does not fit into the store is none the less what the clean build gives.
func TestSmall(t *testing.T) {
	c := config(4)
	g := network(t, c)
	begin(t, g.nodes[3], one("x", strings.Repeat("q", 1500)), copies, "a")
	g.rounds(40)
	c.Quota = 100
	small, _ := node.New(c, 0, secret, disk.New())
	g.nodes[0] = small
	g.rounds(12)
	begin(t, small, one("x", strings.Repeat("q", 1500)), copies, "a")
	g.rounds(200)
	done(t, small, "a", one("y", strings.Repeat("q", 1500)))
}

// P27.9: a new node on a disk that was torn.
func TestCrash(t *testing.T) {
	g := network(t, config(1))
	begin(t, g.nodes[0], one("x", "1"), copies, "b")
	g.rounds(40)
	known := g.nodes[0].Known()
	for i := range 5 {
		g.disks[0].Crash([2]int{i * 100, i * 50})
		n := g.up(0)
		if n.Members()[0].Inc != uint64(i+2) || !slices.Equal(n.Known(), known) || n.Now() != 0 || n.Build().State != api.BuildIdle || len(n.Took()) != 0 || len(n.Ran()) != 0 {
			t.Error("behind a crash", n.Members(), len(n.Known()))
		}
	}
	begin(t, g.nodes[0], one("x", "1"), copies, "b")
	g.rounds(20)
	done(t, g.nodes[0], "b", one("z", "1"))
	if !slices.Equal(ways(g.nodes[0]), []uint8{api.TookStored, api.TookStored}) {
		t.Error(ways(g.nodes[0]))
	}
}

// P27.6: a node that is not there.
func TestNone(t *testing.T) {
	for _, n := range []*node.Node{nil, {}} {
		n.Tick()
		if n.Edit(nil, nil) != api.ErrNil || n.Request("a") != api.ErrNil || n.Deliver(nil) != api.ErrNil {
			t.Error("errors")
		}
		b := n.Build()
		if n.Out() != nil || b.State != 0 || n.Took() != nil || n.Ran() != nil || n.Known() != nil || n.Members() != nil || n.Now() != 0 || n.Bound(3) != 0 {
			t.Error("answers")
		}
	}
}

// noise is a frame that somebody with the secret might send, or bytes of no frame.
func noise(r *rand.Rand, keys []api.Digest, c api.Config) []byte {
	from := 1 + r.Intn(c.Nodes-1)
	f := api.Frame{From: from, To: 0}
	key := keys[r.Intn(len(keys))]
	switch r.Intn(6) {
	case 0:
		f.Kind, f.Probe = 1, api.Probe{Kind: uint8(1 + r.Intn(3)), Seq: uint64(r.Intn(9)), About: r.Intn(c.Nodes), Updates: []api.Update{{Node: r.Intn(c.Nodes), State: uint8(1 + r.Intn(3)), Inc: uint64(r.Intn(5))}}}
	case 1:
		f.Kind, f.Claim = 3, api.Claim{Key: key, Node: from, Count: uint64(r.Intn(1000)), Gone: r.Intn(3) == 0}
	case 2, 3:
		a, _ := attest.Make(secret, key, api.Digest{byte(r.Intn(3))}, 1+r.Intn(200))
		f.Kind, f.Attest = 4, a
	case 4:
		f.Kind, f.Root, f.Chunk, f.Bytes = 6, api.Digest{byte(r.Intn(3))}, r.Intn(4), make([]byte, r.Intn(65))
	default:
		return make([]byte, r.Intn(40))
	}
	b, _ := frames.Bytes(secret, f)
	return b
}

// P27.7, P27.8: whatever is delivered, a request is over in time, and comes to what the clean build does.
func TestBound(t *testing.T) {
	r := rand.New(rand.NewSource(27))
	texts := []string{
		copies, "target a; fuel 900; jump 0; end; target b a; fuel 1; end", "target a; fuel 9; copy src/x out/y; end; target b a; fuel 9; fail; end",
		"target a; fuel 9; copy src/q out/y; end; target b a; fuel 9; end", copies + "target c; fuel 1; fail; end",
	}
	for range 60 {
		c := config(4)
		c.Cap, c.Wait, c.Lease, c.Budget, c.Window, c.Time = r.Intn(30), r.Intn(8), r.Intn(60), 1+r.Intn(20), 1+r.Intn(4), 1+r.Intn(6)
		text := texts[r.Intn(len(texts))]
		sources := one("x", strings.Repeat("s", r.Intn(300)))
		n, _ := node.New(c, 0, secret, disk.New())
		var keys []api.Digest
		if all, e := clean.Outs(sources, lines(text), "b"); e == api.OK {
			for _, b := range all {
				k, _ := action.Key(b.Action)
				keys = append(keys, k)
			}
		}
		keys = append(keys, api.Digest{1})
		begin(t, n, sources, text, "b")
		for range n.Bound(2) {
			for range r.Intn(4) {
				n.Deliver(noise(r, keys, c))
			}
			n.Out()
			n.Tick()
		}
		want, e := clean.Build(sources, lines(text), "b")
		b := n.Build()
		if b.State == api.BuildRunning || b.Errno != e || !tree.Same(b.Tree, want) {
			t.Fatalf("%s: %v; want %v, %d", text, b, want, e)
		}
		for _, x := range n.Took() {
			if e == api.OK && !slices.Contains(keys, x.Key) {
				t.Fatal("a key that is no action's")
			}
		}
	}
}

// T1: what is taken for a key is what its action gives, in a swarm that loses packets.
func TestLosses(t *testing.T) {
	r := rand.New(rand.NewSource(28))
	for range 15 {
		c := config(4)
		c.Lease, c.Cap = 30, 50
		g := network(t, c)
		sources := one("x", strings.Repeat("s", r.Intn(900)))
		for _, n := range g.nodes {
			begin(t, n, sources, copies, []string{"a", "b"}[r.Intn(2)])
		}
		for range 400 {
			g.round()
			g.way = slices.DeleteFunc(g.way, func(api.Packet) bool { return r.Intn(3) == 0 })
			r.Shuffle(len(g.way), func(i, j int) { g.way[i], g.way[j] = g.way[j], g.way[i] })
		}
		all, _ := clean.Outs(sources, lines(copies), "b")
		for _, n := range g.nodes {
			want, _ := clean.Build(sources, lines(copies), n.Build().Target)
			done(t, n, n.Build().Target, want)
			for _, x := range n.Took() {
				if !slices.ContainsFunc(all, func(b api.Built) bool {
					k, _ := action.Key(b.Action)
					out, _, _ := vm.Exec(b.Action.Program, b.Action.Inputs, b.Action.Fuel)
					return k == x.Key && tree.Same(out, x.Tree)
				}) {
					t.Fatal("another tree")
				}
			}
		}
	}
}

// R2: what is handed in stays, and is not kept.
func TestMemory(t *testing.T) {
	own := bytes.Clone(secret)
	n, _ := node.New(config(2), 0, own, disk.New())
	own[0]++
	ping := frame(t, api.Frame{Kind: 1, From: 1, To: 0, Probe: api.Probe{Kind: api.ProbePing}})
	again := bytes.Clone(ping)
	if n.Deliver(ping) != api.OK || !bytes.Equal(ping, again) {
		t.Error("Deliver")
	}
	if l := told(t, n); len(l) != 1 || len(n.Out()) != 0 {
		t.Error("Out", l)
	}
}
