package node

import (
	"murmuration/action"
	"murmuration/api"
	"murmuration/attest"
	"murmuration/builder"
	"murmuration/fetch"
	"murmuration/graph"
	"murmuration/parser"
	"murmuration/plan"
	"murmuration/ticks"
	"murmuration/tree"
	"murmuration/vm"
)

// request is the request of a target.
type request struct {
	state   api.BuildState
	target  string
	tree    api.Tree
	errno   api.Errno
	targets []api.Target
	order   []int // places of the targets that are not taken yet
	outs    map[string]api.Tree
	task    *task
}

// task is the turn of one target's action.
type task struct {
	name   string
	action api.Action
	key    api.Digest
	turn   *builder.Turn
	fetch  *fetch.Fetch
	result api.Attest // that is fetched
	wrong  bool       // what was fetched is no tree
	run    *run
	got    bool // whether a tree came that may be taken
	tree   api.Tree
	how    uint8
}

// run is a run that goes on from the tick begin on; what it will give is known at once.
type run struct {
	begin, used int
	out         api.Tree
	errno       api.Errno
	isEnded     bool
}

// Request begins a request of the target.
func (n *Node) Request(target string) api.Errno {
	if n.isNone() {
		return api.ErrNil
	}
	if n.request.state == api.BuildRunning {
		return api.ErrBusy
	}
	n.request = request{target: target}
	targets, _, e := parser.Parse(n.file)
	if e != api.OK {
		n.fail(e)
		return api.OK
	}
	order, e := graph.Order(targets, target)
	if e != api.OK {
		n.fail(e)
		return api.OK
	}
	n.request = request{state: api.BuildRunning, target: target, targets: targets, order: order, outs: map[string]api.Tree{}}
	return api.OK
}

// fail ends the request with an error.
func (n *Node) fail(e api.Errno) {
	n.endTask()
	n.request = request{state: api.BuildFailed, target: n.request.target, errno: e}
}

// endTask gives the claim of the action up whose turn it is.
func (n *Node) endTask() {
	if t := n.request.task; t != nil {
		n.sendClaims(n.book.Drop(t.key))
		n.request.task = nil
	}
}

// step goes on with the request.
func (n *Node) step() {
	if n.request.task == nil {
		t, e := n.nextTask()
		if e != api.OK {
			n.fail(e)
			return
		}
		n.request.task = t
	}
	t := n.request.task
	n.endRun(t)
	want := t.turn.Step(n.now, n.facts(t))
	if want != api.WantFetch {
		t.fetch = nil
	}
	switch want {
	case api.WantClaim:
		told, _ := n.book.Try(t.key, n.now)
		n.sendClaims(told)
	case api.WantFetch:
		n.beginFetch(t)
	case api.WantRun:
		n.beginRun(t)
	case api.WantDone:
		n.take(t)
	case api.WantWrong:
		n.fail(t.run.errno)
	}
}

// nextTask is the turn of the next target that is not taken.
func (n *Node) nextTask() (*task, api.Errno) {
	r := &n.request
	x := r.targets[r.order[0]]
	var outs []api.Tree
	for _, dep := range x.Deps {
		outs = append(outs, r.outs[dep])
	}
	a, e := plan.Action(x, n.sources, outs)
	if e != api.OK {
		return nil, e
	}
	key, e := action.Key(a)
	if e != api.OK {
		return nil, e
	}
	return &task{name: x.Name, action: a, key: key, turn: builder.New(n.config.Cap, n.config.Budget)}, api.OK
}

// facts is what is known of the action whose turn it is.
func (n *Node) facts(t *task) api.Facts {
	if !t.got {
		n.findStored(t)
	}
	f := api.Facts{Stored: t.got && t.how != api.TookRun, Fetched: t.got && t.how == api.TookFetched}
	f.Heard = len(n.known.Of(t.key)) > 0
	f.Failed = t.wrong || t.fetch != nil && t.fetch.Over(n.now)
	_, f.Lease = n.book.Live(t.key, n.now)
	if n.book.Mine(t.key) {
		_, f.Ready = n.book.Try(t.key, n.now)
	}
	if t.run != nil && t.run.isEnded {
		f.Ran, f.Wrong = t.run.errno == api.OK, t.run.errno != api.OK
	}
	return f
}

// findStored looks whether the store has a tree of the action, with a result whose tag is right.
func (n *Node) findStored(t *task) {
	a, ok := n.store.Find(t.key)
	if !ok || !attest.Right(n.secret, a) {
		return
	}
	b, ok := n.store.Get(a.Root)
	if !ok {
		return
	}
	if out, e := tree.Read(b); e == api.OK {
		t.got, t.tree, t.how = true, out, api.TookStored
	}
}

// beginFetch begins to fetch the result that was heard, from those who live.
func (n *Node) beginFetch(t *task) {
	heard := n.known.Of(t.key)
	if t.fetch != nil || len(heard) == 0 {
		return
	}
	n.sendClaims(n.book.Drop(t.key))
	t.result = heard[0]
	t.fetch, _ = fetch.New(t.result.Root, t.result.Length, n.peers(t.key), n.config.Window, n.config.Time, n.config.Budget, n.now)
}

// peers is the others that live; whoever told the key's result is asked first, since it has run the action.
func (n *Node) peers(key api.Digest) []int {
	teller, isKnown := n.tellers[key]
	var first, rest []int
	for _, m := range n.members.Alive() {
		switch {
		case m == n.id:
		case isKnown && m == teller:
			first = append(first, m)
		default:
			rest = append(rest, m)
		}
	}
	return append(first, rest...)
}

// endFetch takes the blob that was fetched, if all of it came.
func (n *Node) endFetch(t *task) {
	b, ok := t.fetch.Blob()
	if !ok {
		return
	}
	out, e := tree.Read(b)
	if e != api.OK {
		t.wrong = true
		return
	}
	t.got, t.tree, t.how = true, out, api.TookFetched
	if _, e := n.store.Put(b); e == api.OK {
		n.store.Keep(t.result)
	}
}

// beginRun begins to run the action, if that is not begun.
func (n *Node) beginRun(t *task) {
	if t.run != nil {
		return
	}
	out, used, e := vm.Exec(t.action.Program, t.action.Inputs, t.action.Fuel)
	t.run = &run{begin: n.now, used: used, out: out, errno: e}
	n.ran = append(n.ran, t.key)
}

// endRun takes what the run gave, when it has lasted long enough.
func (n *Node) endRun(t *task) {
	r := t.run
	if r == nil || r.isEnded || !ticks.Past(n.now, r.begin, r.used/fuelATick+1) {
		return
	}
	r.isEnded = true
	if r.errno == api.OK {
		t.got, t.tree, t.how = true, r.out, api.TookRun
		n.keepResult(t)
	}
}

// keepResult stores what was run here, and tells it when it lasts.
func (n *Node) keepResult(t *task) {
	b, _ := tree.Bytes(t.tree)
	root, e := n.store.Put(b)
	if e != api.OK {
		return
	}
	a, _ := attest.Make(n.secret, t.key, root, len(b))
	if n.store.Keep(a) != api.OK || n.store.Sync() != api.OK {
		return
	}
	n.known.Add(a)
	n.sendAll(api.Frame{Kind: api.FrameResult, Attest: a})
}

// take ends the turn with its tree, and with the last one the request.
func (n *Node) take(t *task) {
	n.endTask()
	n.took = append(n.took, api.Took{Key: t.key, Tree: copied(t.tree), How: t.how})
	r := &n.request
	r.outs[t.name] = t.tree
	r.order = r.order[1:]
	if len(r.order) == 0 {
		n.request = request{state: api.BuildDone, target: r.target, tree: t.tree}
	}
}
