package frames

import (
	"bytes"
	"math"

	"murmuration/api"
	"murmuration/attest"
	"murmuration/wire"
)

const attestSize = 104

// writer puts a body together.
type writer struct {
	out []byte
}

func (w *writer) numbers(all ...uint64) {
	for _, n := range all {
		w.out = wire.AppendUint(w.out, n)
	}
}

func (w *writer) flag(is bool) {
	if is {
		w.numbers(1)
	} else {
		w.numbers(0)
	}
}

func (w *writer) row(b []byte) {
	w.out = wire.AppendBytes(w.out, b)
}

func (w *writer) digest(d api.Digest) {
	w.out = append(w.out, d[:]...)
}

func (w *writer) attest(a api.Attest) {
	b, _ := attest.Bytes(a)
	w.out = append(w.out, b...)
}

func (w *writer) update(u api.Update) {
	w.numbers(uint64(u.Node), uint64(u.State), u.Inc)
}

func writeList[T any](w *writer, l []T, one func(T)) {
	w.numbers(uint64(len(l)))
	for _, x := range l {
		one(x)
	}
}

func (w *writer) frame(f api.Frame) {
	w.numbers(uint64(f.Kind), uint64(f.From), uint64(f.To))
	switch f.Kind {
	case api.FrameProbe:
		w.numbers(uint64(f.Probe.Kind), f.Probe.Seq, uint64(f.Probe.About))
		writeList(w, f.Probe.Updates, w.update)
	case api.FrameGossip:
		w.gossip(f.Gossip)
	case api.FrameClaim:
		w.digest(f.Claim.Key)
		w.numbers(f.Claim.Inc, f.Claim.Count)
		w.flag(f.Claim.Gone)
	case api.FrameResult:
		w.attest(f.Attest)
	case api.FrameWant:
		w.digest(f.Root)
		w.numbers(uint64(f.Chunk))
	case api.FrameChunk:
		w.digest(f.Root)
		w.numbers(uint64(f.Chunk))
		w.row(f.Bytes)
		writeList(w, f.Proof, w.digest)
	}
}

func (w *writer) gossip(m api.Gossip) {
	w.numbers(uint64(m.Kind))
	w.row(m.Prefix)
	if m.Kind == api.GossipSummary {
		w.digest(m.Sum)
		w.numbers(uint64(m.Count))
		return
	}
	writeList(w, m.Items, w.attest)
	w.flag(m.Answer)
}

// reader goes over a body; from the first fault on it tells zeros.
type reader struct {
	in    []byte
	at    int
	wrong bool
}

func (r *reader) number(most uint64) uint64 {
	if r.wrong {
		return 0
	}
	n, next, e := wire.Uint(r.in, r.at)
	if e != api.OK || n > most {
		r.wrong = true
		return 0
	}
	r.at = next
	return n
}

func (r *reader) flag() bool {
	return r.number(1) == 1
}

func (r *reader) row(most int) []byte {
	if r.wrong {
		return nil
	}
	b, next, e := wire.Bytes(r.in, r.at, most)
	if e != api.OK {
		r.wrong = true
		return nil
	}
	r.at = next
	return b
}

// fixed is the next n bytes.
func (r *reader) fixed(n int) []byte {
	if r.wrong || len(r.in)-r.at < n {
		r.wrong = true
		return make([]byte, n)
	}
	b := bytes.Clone(r.in[r.at : r.at+n])
	r.at += n
	return b
}

func (r *reader) digest() api.Digest {
	return api.Digest(r.fixed(tagSize))
}

func (r *reader) attest() api.Attest {
	a, e := attest.Read(r.fixed(attestSize))
	if e != api.OK {
		r.wrong = true
	}
	return a
}

func (r *reader) update() api.Update {
	node := r.number(api.MaxNodes - 1)
	state := r.number(uint64(api.Dead))
	return api.Update{Node: int(node), State: uint8(state), Inc: r.number(api.MaxInc)}
}

func readList[T any](r *reader, most uint64, one func() T) []T {
	var l []T
	for range r.number(most) {
		l = append(l, one())
	}
	return l
}

func (r *reader) frame() api.Frame {
	f := api.Frame{Kind: uint8(r.number(uint64(api.FrameChunk)))}
	f.From = int(r.number(api.MaxNodes - 1))
	f.To = int(r.number(api.MaxNodes - 1))
	switch f.Kind {
	case api.FrameProbe:
		f.Probe = r.probe()
		f.Probe.To = f.To
	case api.FrameGossip:
		f.Gossip = r.gossip()
	case api.FrameClaim:
		f.Claim = r.claim()
		f.Claim.Node = f.From
	case api.FrameResult:
		f.Attest = r.attest()
	case api.FrameWant:
		f.Root = r.digest()
		f.Chunk = int(r.number(api.MaxChunks - 1))
	case api.FrameChunk:
		f.Root = r.digest()
		f.Chunk = int(r.number(api.MaxChunks - 1))
		f.Bytes = r.row(api.ChunkSize)
		f.Proof = readList(r, api.MaxProof, r.digest)
	default:
		r.wrong = true
	}
	return f
}

func (r *reader) probe() api.Probe {
	x := api.Probe{Kind: uint8(r.number(uint64(api.ProbeAsk)))}
	x.Seq = r.number(math.MaxUint64)
	x.About = int(r.number(api.MaxNodes - 1))
	x.Updates = readList(r, api.MaxUpdates, r.update)
	return x
}

func (r *reader) gossip() api.Gossip {
	m := api.Gossip{Kind: uint8(r.number(uint64(api.GossipItems)))}
	m.Prefix = r.row(api.MaxDepth)
	if m.Kind == api.GossipSummary {
		m.Sum = r.digest()
		m.Count = int(r.number(api.MaxAdverts))
		return m
	}
	m.Items = readList(r, api.MaxItems, r.attest)
	m.Answer = r.flag()
	return m
}

func (r *reader) claim() api.Claim {
	c := api.Claim{Key: r.digest()}
	c.Inc = r.number(api.MaxInc)
	c.Count = r.number(api.MaxInc)
	c.Gone = r.flag()
	return c
}
