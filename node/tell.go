package node

import (
	"murmuration/api"
	"murmuration/frames"
	"murmuration/gossip"
)

// send puts a frame to another node among what is to be sent.
func (n *Node) send(to int, f api.Frame) {
	f.From, f.To = n.id, to
	if b, e := frames.Bytes(n.secret, f); e == api.OK {
		n.out = append(n.out, api.Packet{To: to, Bytes: b})
	}
}

// sendAll sends a frame to all others.
func (n *Node) sendAll(f api.Frame) {
	for to := range n.config.Nodes {
		if to != n.id {
			n.send(to, f)
		}
	}
}

func (n *Node) sendProbes(told []api.Probe) {
	for _, x := range told {
		n.send(x.To, api.Frame{Kind: api.FrameProbe, Probe: x})
	}
}

func (n *Node) sendGossip(to int, told []api.Gossip) {
	for _, m := range told {
		n.send(to, api.Frame{Kind: api.FrameGossip, Gossip: m})
	}
}

func (n *Node) sendClaims(told []api.Claim) {
	for _, c := range told {
		n.sendAll(api.Frame{Kind: api.FrameClaim, Claim: c})
	}
}

// startGossip begins to make the known results one with those of the next other node.
func (n *Node) startGossip() {
	if n.config.Nodes == 1 {
		return
	}
	n.gossiped = (n.gossiped + 1) % n.config.Nodes
	if n.gossiped == n.id {
		n.gossiped = (n.gossiped + 1) % n.config.Nodes
	}
	n.sendGossip(n.gossiped, gossip.Start(n.known))
}

// sendWants asks for the chunks of the fetch, as many as may be asked now.
func (n *Node) sendWants() {
	t := n.request.task
	if t == nil || t.fetch == nil {
		return
	}
	for {
		chunk, peer, ok := t.fetch.Next(n.now)
		if !ok {
			return
		}
		n.send(peer, api.Frame{Kind: api.FrameWant, Root: t.fetch.Root(), Chunk: chunk})
	}
}
