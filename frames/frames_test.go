package frames_test

import (
	"bytes"
	"math"
	"math/rand"
	"slices"
	"testing"

	"murmuration/api"
	"murmuration/attest"
	"murmuration/frames"
	"murmuration/hmac"
)

var secret = []byte("hush")

func items(n int) (l []api.Attest) {
	for i := range n {
		a, _ := attest.Make(secret, api.Digest{31: byte(i + 1)}, api.Digest{}, i+1)
		l = append(l, a)
	}
	return l
}

func updates(n int) (l []api.Update) {
	for i := range n {
		l = append(l, api.Update{Node: i, State: uint8(1 + i%3), Inc: uint64(i) << 30})
	}
	return l
}

func all() []api.Frame {
	return []api.Frame{
		{Kind: 1, From: 1, To: 2, Probe: api.Probe{To: 2, Kind: 3, Seq: math.MaxUint64, About: 15, Updates: updates(8)}},
		{Kind: 1, From: 15, To: 0, Probe: api.Probe{Kind: 1}},
		{Kind: 1, From: 0, To: 15, Probe: api.Probe{To: 15, Kind: 2, Updates: []api.Update{{Node: 15, State: 3, Inc: api.MaxInc}}}},
		{Kind: 2, From: 1, To: 2, Gossip: api.Gossip{Kind: 1, Prefix: []byte{1, 15}, Sum: api.Digest{9}, Count: 200}},
		{Kind: 2, From: 1, To: 2, Gossip: api.Gossip{Kind: 2, Items: items(8), Answer: true}},
		{Kind: 2, From: 1, To: 2, Gossip: api.Gossip{Kind: 2, Prefix: []byte{0, 0, 0, 0, 0, 0, 0, 0}, Items: items(1)}},
		{Kind: 2, From: 1, To: 2, Gossip: api.Gossip{Kind: 2}},
		{Kind: 3, From: 1, To: 2, Claim: api.Claim{Key: api.Digest{7}, Node: 1, Inc: api.MaxInc, Count: api.MaxInc, Gone: true}},
		{Kind: 3, From: 1, To: 2, Claim: api.Claim{Node: 1}},
		{Kind: 4, From: 1, To: 2, Attest: items(5)[4]},
		{Kind: 5, From: 1, To: 2, Root: api.Digest{3}, Chunk: 99},
		{Kind: 5, From: 1, To: 2},
		{Kind: 6, From: 1, To: 2, Root: api.Digest{3}, Chunk: 99, Bytes: make([]byte, 64), Proof: make([]api.Digest, 10)},
		{Kind: 6, From: 1, To: 2},
	}
}

// P25.1, P25.2: what is written is read, with that secret only.
func TestRight(t *testing.T) {
	for i, f := range all() {
		b, e := frames.Bytes(secret, f)
		if !frames.May(f) || e != api.OK || len(b) > api.MaxFrame {
			t.Errorf("right %d: %d", i, e)
		}
		again := bytes.Clone(b)
		g, e := frames.Read(secret, b)
		if e != api.OK || !frames.Same(f, g) || !bytes.Equal(b, again) {
			t.Errorf("Read of right %d: %d, %v", i, e, g)
		}
		want := api.OK
		if f.Kind <= 4 {
			want = api.ErrTag
		}
		if g, e := frames.Read([]byte("hust"), b); e != want || (e == api.OK) != frames.Same(f, g) || e != api.OK && !frames.Same(g, api.Frame{}) {
			t.Errorf("another secret, right %d: %d", i, e)
		}
	}
}

// P25.1: bodies, byte by byte.
func TestBytes(t *testing.T) {
	key := api.Digest{1, 2}
	item := items(1)[0]
	itemBytes, _ := attest.Bytes(item)
	for i, x := range []struct {
		f    api.Frame
		body [][]byte
	}{
		{api.Frame{Kind: 5, From: 1, To: 2, Chunk: 3}, [][]byte{{1, 5, 1, 1, 1, 2}, make([]byte, 32), {1, 3}}},
		{api.Frame{Kind: 6, From: 1, To: 0, Root: key, Bytes: []byte("ab"), Proof: []api.Digest{key, {}}}, [][]byte{{1, 6, 1, 1, 0}, key[:], {0, 1, 2, 'a', 'b', 1, 2}, key[:], make([]byte, 32)}},
		{api.Frame{Kind: 1, From: 1, To: 2, Probe: api.Probe{To: 2, Kind: 3, Seq: 300, About: 4, Updates: []api.Update{{Node: 5, State: 2, Inc: 256}}}}, [][]byte{{1, 1, 1, 1, 1, 2, 1, 3, 2, 1, 44, 1, 4, 1, 1, 1, 5, 1, 2, 2, 1, 0}}},
		{api.Frame{Kind: 2, From: 1, To: 2, Gossip: api.Gossip{Kind: 1, Prefix: []byte{0, 9}, Sum: key, Count: 7}}, [][]byte{{1, 2, 1, 1, 1, 2, 1, 1, 1, 2, 0, 9}, key[:], {1, 7}}},
		{api.Frame{Kind: 2, From: 1, To: 2, Gossip: api.Gossip{Kind: 2, Items: []api.Attest{item}, Answer: true}}, [][]byte{{1, 2, 1, 1, 1, 2, 1, 2, 0, 1, 1}, itemBytes, {1, 1}}},
		{api.Frame{Kind: 3, From: 1, To: 2, Claim: api.Claim{Key: key, Node: 1, Inc: 5, Count: 6}}, [][]byte{{1, 3, 1, 1, 1, 2}, key[:], {1, 5, 1, 6, 0}}},
		{api.Frame{Kind: 4, From: 1, To: 2, Attest: item}, [][]byte{{1, 4, 1, 1, 1, 2}, itemBytes}},
	} {
		want := bytes.Join(x.body, nil)
		if x.f.Kind <= 4 {
			tag := hmac.Tag(secret, []byte{18}, want)
			want = append(want, tag[:]...)
		}
		if b, e := frames.Bytes(secret, x.f); e != api.OK || !bytes.Equal(b, want) {
			t.Errorf("%d: %v, %d, want %v", i, b, e, want)
		}
	}
}

// P25.1: frames that may not be.
func TestWrong(t *testing.T) {
	for i, f := range all() {
		for j, change := range []func(f *api.Frame){
			func(f *api.Frame) { f.Kind = 0 }, func(f *api.Frame) { f.Kind = 7 }, func(f *api.Frame) { f.From = f.To }, func(f *api.Frame) { f.From = -1 }, func(f *api.Frame) { f.From = 16 },
			func(f *api.Frame) { f.To = 16; f.Probe.To = 16 }, func(f *api.Frame) { f.To = -1; f.Probe.To = -1 }, func(f *api.Frame) { f.To = math.MaxInt },
		} {
			g := f
			change(&g)
			refused(t, i, j, g)
		}
		for j, other := range all() {
			g := f
			switch other.Kind {
			case f.Kind:
				continue
			case 1:
				g.Probe = other.Probe
			case 2:
				g.Gossip = other.Gossip
			case 3:
				g.Claim = other.Claim
			case 4:
				g.Attest = other.Attest
			case 5:
				g.Root = api.Digest{9}
				if f.Kind == 6 {
					continue
				}
			case 6:
				g.Bytes = []byte{0}
			}
			refused(t, i, 100+j, g)
		}
		if f.Kind < 5 {
			g := f
			g.Chunk = 1
			refused(t, i, 200, g)
		}
		if f.Kind < 6 {
			g := f
			g.Proof = make([]api.Digest, 1)
			refused(t, i, 201, g)
		}
	}
	for i, f := range []api.Frame{
		{Kind: 1, From: 1, To: 2, Probe: api.Probe{To: 1, Kind: 1}}, {Kind: 1, From: 1, To: 2, Probe: api.Probe{To: 2}}, {Kind: 1, From: 1, To: 2, Probe: api.Probe{To: 2, Kind: 4}},
		{Kind: 1, From: 1, To: 2, Probe: api.Probe{To: 2, Kind: 1, About: 16}}, {Kind: 1, From: 1, To: 2, Probe: api.Probe{To: 2, Kind: 1, About: -1}}, {Kind: 1, From: 1, To: 2, Probe: api.Probe{To: 2, Kind: 1, Updates: updates(9)}},
		{Kind: 1, From: 1, To: 2, Probe: api.Probe{To: 2, Kind: 1, Updates: []api.Update{{Node: 16, State: 1}}}}, {Kind: 1, From: 1, To: 2, Probe: api.Probe{To: 2, Kind: 1, Updates: []api.Update{{Node: -1, State: 1}}}},
		{Kind: 1, From: 1, To: 2, Probe: api.Probe{To: 2, Kind: 1, Updates: []api.Update{{State: 0}}}}, {Kind: 1, From: 1, To: 2, Probe: api.Probe{To: 2, Kind: 1, Updates: []api.Update{{State: 4}}}}, {Kind: 1, From: 1, To: 2, Probe: api.Probe{To: 2, Kind: 1, Updates: []api.Update{{State: 1, Inc: api.MaxInc + 1}}}},
		{Kind: 2, From: 1, To: 2}, {Kind: 2, From: 1, To: 2, Gossip: api.Gossip{Kind: 1, Prefix: []byte{16}}}, {Kind: 2, From: 1, To: 2, Gossip: api.Gossip{Kind: 1, Answer: true}}, {Kind: 2, From: 1, To: 2, Gossip: api.Gossip{Kind: 2, Items: items(9)}}, {Kind: 2, From: 1, To: 2, Gossip: api.Gossip{Kind: 2, Count: 1}},
		{Kind: 3, From: 1, To: 2, Claim: api.Claim{Node: 2}}, {Kind: 3, From: 1, To: 2, Claim: api.Claim{Node: 1, Inc: api.MaxInc + 1}}, {Kind: 3, From: 1, To: 2, Claim: api.Claim{Node: 1, Count: api.MaxInc + 1}},
		{Kind: 4, From: 1, To: 2}, {Kind: 4, From: 1, To: 2, Attest: api.Attest{Length: 5001}},
		{Kind: 5, From: 1, To: 2, Chunk: 100}, {Kind: 5, From: 1, To: 2, Chunk: -1}, {Kind: 6, From: 1, To: 2, Chunk: 100}, {Kind: 6, From: 1, To: 2, Bytes: make([]byte, 65)}, {Kind: 6, From: 1, To: 2, Proof: make([]api.Digest, 11)},
	} {
		refused(t, i, 300, f)
	}
}

func refused(t *testing.T, i, j int, f api.Frame) {
	t.Helper()
	b, e := frames.Bytes(secret, f)
	if frames.May(f) || b != nil || e != api.ErrArg {
		t.Errorf("%d, %d: %v, %d", i, j, f, e)
	}
}

// tagged is a body with its tag.
func tagged(body []byte) []byte {
	tag := hmac.Tag(secret, []byte{18}, body)
	return append(bytes.Clone(body), tag[:]...)
}

// P25.2: bytes that are those of no frame.
func TestReadWrong(t *testing.T) {
	fails := func(what string, b []byte, want api.Errno) {
		t.Helper()
		if f, e := frames.Read(secret, b); e != want || !frames.Same(f, api.Frame{}) {
			t.Errorf("%s: %v, %d", what, f, e)
		}
	}
	fails("nothing", nil, api.ErrForm)
	fails("2001 bytes", make([]byte, 2001), api.ErrLong)
	fails("2000 bytes", make([]byte, 2000), api.ErrForm)
	for _, f := range all() {
		b, _ := frames.Bytes(secret, f)
		fails("a byte less", b[:len(b)-1], api.ErrForm)
		fails("a byte more", append(bytes.Clone(b), 0), api.ErrForm)
		if f.Kind > 4 {
			fails("a tag more", tagged(b), api.ErrForm)
			continue
		}
		fails("no tag", b[:len(b)-32], api.ErrForm)
		for j := len(b) - 32; j < len(b); j++ {
			c := bytes.Clone(b)
			c[j] ^= 1
			fails("another tag", c, api.ErrTag)
		}
		fails("two tags", tagged(b), api.ErrForm)
		fails("a body that is cut", tagged(b[:len(b)-33]), api.ErrForm)
	}
	for i, body := range [][]byte{
		{1, 7, 1, 1, 1, 2}, {0, 1, 1, 1, 2}, {1, 3, 1, 1, 1, 1}, {1, 1, 1, 16, 1, 2, 1, 1, 0, 0, 0}, {1, 1, 1, 1, 1, 2, 0, 0, 0, 0}, {1, 1, 1, 1, 1, 2, 1, 4, 0, 0, 0}, {1, 1, 1, 1, 1, 2, 1, 1, 0, 1, 16, 0}, {1, 1, 1, 1, 1, 2, 1, 1, 0, 0, 1, 9},
		{2, 0, 1, 1, 1, 1, 2, 1, 1, 0, 0, 0}, {1, 1, 1, 1, 1, 2, 1, 1, 0, 0, 1, 1, 0, 0, 0}, {1, 2, 1, 1, 1, 2, 0, 0, 0, 0}, {1, 2, 1, 1, 1, 2, 1, 2, 0, 0, 1, 2}, {1, 2, 1, 1, 1, 2, 1, 2, 1, 1, 16, 0, 0}, {1, 2, 1, 1, 1, 2, 1, 2, 1, 9, 0, 0, 0, 0, 0, 0, 0, 0, 0, 0, 0},
		slices.Concat([]byte{1, 3, 1, 1, 1, 2}, make([]byte, 32), []byte{0, 0, 1, 2}), slices.Concat([]byte{1, 4, 1, 1, 1, 2}, make([]byte, 104)), slices.Concat([]byte{1, 2, 1, 1, 1, 2, 1, 1, 0}, make([]byte, 32), []byte{1, 201}),
	} {
		if f, e := frames.Read(secret, tagged(body)); e != api.ErrForm || !frames.Same(f, api.Frame{}) {
			t.Errorf("body %d: %v, %d", i, f, e)
		}
	}
	fails("a want of a chunk too high", slices.Concat([]byte{1, 5, 1, 1, 1, 2}, make([]byte, 32), []byte{1, 100}), api.ErrForm)
}

// P25.2: a frame has one row of bytes.
func TestOneForm(t *testing.T) {
	r := rand.New(rand.NewSource(25))
	for _, f := range all() {
		b, _ := frames.Bytes(secret, f)
		body := b
		if f.Kind <= 4 {
			body = b[:len(b)-32]
		}
		for range 3000 {
			c := bytes.Clone(body)
			for range 1 + r.Intn(2) {
				c[r.Intn(len(c))] = byte(r.Intn(18))
			}
			if f.Kind <= 4 {
				c = tagged(c)
			}
			if g, e := frames.Read(secret, c); e == api.OK {
				if again, _ := frames.Bytes(secret, g); !bytes.Equal(again, c) {
					t.Fatalf("%v is read as %v", c, g)
				}
			}
		}
	}
}

// P25.1: Same looks at all fields; P25.2: what is read is its own.
func TestSame(t *testing.T) {
	if !frames.Same(api.Frame{Proof: []api.Digest{}, Bytes: []byte{}, Gossip: api.Gossip{Items: []api.Attest{}, Prefix: []byte{}}, Probe: api.Probe{Updates: []api.Update{}}}, api.Frame{}) {
		t.Error("no list and an empty one")
	}
	for i, change := range []func(f *api.Frame){
		func(f *api.Frame) { f.Kind = 1 }, func(f *api.Frame) { f.From = 1 }, func(f *api.Frame) { f.To = 1 }, func(f *api.Frame) { f.Probe.To = 1 }, func(f *api.Frame) { f.Probe.Kind = 1 }, func(f *api.Frame) { f.Probe.Seq = 1 }, func(f *api.Frame) { f.Probe.About = 1 },
		func(f *api.Frame) { f.Probe.Updates = updates(1) }, func(f *api.Frame) { f.Gossip.Kind = 1 }, func(f *api.Frame) { f.Gossip.Prefix = []byte{1} }, func(f *api.Frame) { f.Gossip.Sum[3] = 1 }, func(f *api.Frame) { f.Gossip.Count = 1 }, func(f *api.Frame) { f.Gossip.Items = items(1) }, func(f *api.Frame) { f.Gossip.Answer = true },
		func(f *api.Frame) { f.Claim.Key[3] = 1 }, func(f *api.Frame) { f.Claim.Gone = true }, func(f *api.Frame) { f.Attest.Tag[3] = 1 }, func(f *api.Frame) { f.Root[3] = 1 }, func(f *api.Frame) { f.Chunk = 1 }, func(f *api.Frame) { f.Bytes = []byte{0} }, func(f *api.Frame) { f.Proof = make([]api.Digest, 1) },
	} {
		var f api.Frame
		change(&f)
		if frames.Same(f, api.Frame{}) || frames.Same(api.Frame{}, f) || !frames.Same(f, f) {
			t.Errorf("change %d", i)
		}
	}
	f := api.Frame{Kind: 6, From: 1, To: 2, Bytes: []byte("ab")}
	b, _ := frames.Bytes(secret, f)
	g, _ := frames.Read(secret, b)
	g.Bytes[0] = 'z'
	if h, _ := frames.Read(secret, b); !frames.Same(f, h) {
		t.Error("memory is shared")
	}
}
