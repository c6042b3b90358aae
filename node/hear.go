package node

import (
	"murmuration/api"
	"murmuration/frames"
	"murmuration/gossip"
	"murmuration/merkle"
)

// Deliver hands the node bytes that came for it.
func (n *Node) Deliver(b []byte) api.Errno {
	if n.isNone() {
		return api.ErrNil
	}
	f, e := frames.Read(n.secret, b)
	if e != api.OK {
		return e
	}
	if f.To != n.id {
		return api.ErrNone
	}
	return n.hear(f)
}

func (n *Node) hear(f api.Frame) api.Errno {
	hearers := []func(*Node, api.Frame) api.Errno{
		(*Node).hearProbe,
		(*Node).hearGossip,
		(*Node).hearClaim,
		(*Node).hearResult,
		(*Node).hearWant,
		(*Node).hearChunk,
	}
	return hearers[f.Kind-api.FrameProbe](n, f)
}

func (n *Node) hearProbe(f api.Frame) api.Errno {
	told, e := n.prober.Hear(f.From, f.Probe, n.now)
	if e != api.OK {
		return e
	}
	n.keepIncarnation()
	n.sendProbes(told)
	return api.OK
}

// keepIncarnation writes an incarnation that was raised to the store; one that is told must not be forgotten.
func (n *Node) keepIncarnation() {
	if inc := n.members.Self().Inc; inc > n.store.Incarnation() {
		n.store.Raise(inc)
	}
}

func (n *Node) hearGossip(f api.Frame) api.Errno {
	replies, news := gossip.Hear(n.known, f.Gossip)
	for _, a := range news {
		n.learn(a)
	}
	n.sendGossip(f.From, replies)
	return api.OK
}

func (n *Node) hearClaim(f api.Frame) api.Errno {
	told, e := n.book.Hear(f.Claim, n.now)
	n.sendClaims(told)
	return e
}

func (n *Node) hearResult(f api.Frame) api.Errno {
	n.learn(f.Attest)
	if n.known.Has(f.Attest) {
		n.tellers[f.Attest.Key] = f.From
	}
	if len(n.tellers) > api.MaxAdverts {
		n.forgetTellers()
	}
	return api.OK
}

// forgetTellers forgets who told results that are known no more.
func (n *Node) forgetTellers() {
	for key := range n.tellers {
		if len(n.known.Of(key)) == 0 {
			delete(n.tellers, key)
		}
	}
}

// hearWant answers by the chunk that is asked for, if it is there.
func (n *Node) hearWant(f api.Frame) api.Errno {
	b, ok := n.store.Get(f.Root)
	if !ok {
		return api.OK
	}
	chunk, e := merkle.Chunk(b, f.Chunk)
	if e != api.OK {
		return api.OK
	}
	proof, _ := merkle.Proof(b, f.Chunk)
	n.send(f.From, api.Frame{Kind: api.FrameChunk, Root: f.Root, Chunk: f.Chunk, Bytes: chunk, Proof: proof})
	return api.OK
}

func (n *Node) hearChunk(f api.Frame) api.Errno {
	t := n.request.task
	if t == nil || t.fetch == nil || t.fetch.Root() != f.Root {
		return api.OK
	}
	if t.fetch.Hear(f.From, f.Chunk, f.Bytes, f.Proof) == api.OK {
		n.endFetch(t)
	}
	return api.OK
}
