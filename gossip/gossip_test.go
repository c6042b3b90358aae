package gossip_test

import (
	"math/rand"
	"slices"
	"testing"

	"murmuration/adverts"
	"murmuration/api"
	"murmuration/gossip"
)

func result(key ...byte) api.Attest {
	a := api.Attest{Length: 1}
	copy(a.Key[:], key)
	return a
}

func set(l ...api.Attest) *adverts.Set {
	s := adverts.New()
	for _, a := range l {
		s.Add(a)
	}
	return s
}

func some(n int) (l []api.Attest) {
	for i := range n {
		l = append(l, result(1, 2, 3, 4, byte(i)))
	}
	return l
}

func same(a, b api.Gossip) bool {
	return a.Kind == b.Kind && slices.Equal(a.Prefix, b.Prefix) && a.Sum == b.Sum && a.Count == b.Count && slices.Equal(a.Items, b.Items) && a.Answer == b.Answer
}

func summaryOf(s *adverts.Set, prefix ...byte) api.Gossip {
	sum, n := s.Sum(prefix)
	return api.Gossip{Kind: api.GossipSummary, Prefix: prefix, Sum: sum, Count: n}
}

func itemsOf(answer bool, prefix []byte, l ...api.Attest) api.Gossip {
	return api.Gossip{Kind: api.GossipItems, Prefix: prefix, Items: l, Answer: answer}
}

// P21.1: which messages may be.
func TestMay(t *testing.T) {
	nine := some(9)
	for i, m := range []api.Gossip{
		{Kind: 1}, {Kind: 1, Count: 200, Sum: api.Digest{1}, Prefix: make([]byte, 8)}, {Kind: 2}, {Kind: 2, Answer: true, Prefix: []byte{15}},
		itemsOf(false, nil, nine[:8]...), itemsOf(true, []byte{0, 1, 0, 2}, nine[1:4]...), {Kind: 1, Items: []api.Attest{}},
	} {
		if !gossip.May(m) {
			t.Errorf("right %d", i)
		}
	}
	for i, m := range []api.Gossip{
		{}, {Kind: 3}, {Kind: 1, Prefix: []byte{16}}, {Kind: 2, Prefix: make([]byte, 9)}, {Kind: 1, Count: -1}, {Kind: 1, Count: 201}, {Kind: 1, Items: nine[:1]}, {Kind: 1, Answer: true},
		{Kind: 2, Count: 1}, {Kind: 2, Sum: api.Digest{1}}, itemsOf(false, nil, nine...), itemsOf(false, nil, nine[1], nine[0]), itemsOf(false, nil, nine[0], nine[0]), itemsOf(false, []byte{0, 2}, nine[0]), itemsOf(false, nil, api.Attest{}),
		itemsOf(false, []byte{1}, nine[0]), itemsOf(false, nil, api.Attest{Length: 5001}),
	} {
		if gossip.May(m) {
			t.Errorf("wrong %d", i)
		}
		s := set(nine...)
		if replies, learn := gossip.Hear(s, m); replies != nil || learn != nil || s.Len() != 9 {
			t.Errorf("Hear of wrong %d", i)
		}
	}
}

// P21.1: Start.
func TestStart(t *testing.T) {
	for _, s := range []*adverts.Set{adverts.New(), {}, set(some(20)...)} {
		if l := gossip.Start(s); len(l) != 1 || !same(l[0], summaryOf(s)) {
			t.Error(l)
		}
	}
	if r, l := gossip.Hear(nil, summaryOf(set())); r != nil || l != nil {
		t.Error("no set")
	}
}

func hears(t *testing.T, s *adverts.Set, m api.Gossip, replies []api.Gossip, learn ...api.Attest) {
	t.Helper()
	n := s.Len()
	r, l := gossip.Hear(s, m)
	if !slices.EqualFunc(r, replies, same) || !slices.Equal(l, learn) || s.Len() != n {
		t.Errorf("%v: %v, %v", m, r, l)
	}
	for _, x := range r {
		if !gossip.May(x) {
			t.Errorf("%v may not be", x)
		}
	}
}

// P21.2: summaries.
func TestSummaries(t *testing.T) {
	empty, l := set(), some(20)
	one := set(l[0])
	hears(t, empty, summaryOf(empty), nil)
	hears(t, one, summaryOf(empty), []api.Gossip{itemsOf(false, nil, l[0])})
	hears(t, empty, summaryOf(one), []api.Gossip{itemsOf(false, nil)})
	hears(t, one, summaryOf(one), nil)
	hears(t, one, summaryOf(one, 0), nil)
	hears(t, one, summaryOf(empty, 0, 1), []api.Gossip{itemsOf(false, []byte{0, 1}, l[0])})
	hears(t, set(l[:8]...), summaryOf(empty), []api.Gossip{itemsOf(false, nil, l[:8]...)})
	hears(t, set(l[:4]...), summaryOf(set(l[4:8]...)), []api.Gossip{itemsOf(false, nil, l[:4]...)})
	nine := set(l[:9]...)
	var sixteen []api.Gossip
	for n := range 16 {
		sixteen = append(sixteen, summaryOf(nine, byte(n)))
	}
	hears(t, nine, summaryOf(empty), sixteen)
	other := summaryOf(nine)
	other.Count = 8
	hears(t, nine, other, sixteen)
	other = summaryOf(nine)
	other.Sum[0]++
	hears(t, nine, other, sixteen)
	deep := []byte{0, 1, 0, 2, 0, 3, 0, 4}
	twenty := set(l...)
	hears(t, twenty, summaryOf(empty, deep...), []api.Gossip{itemsOf(false, deep, l[:8]...), itemsOf(false, deep, l[8:16]...), itemsOf(false, deep, l[16:]...)})
	hears(t, empty, summaryOf(twenty, deep...), []api.Gossip{itemsOf(false, deep)})
}

// P21.2: items.
func TestItems(t *testing.T) {
	l := some(20)
	empty := set()
	hears(t, empty, itemsOf(false, nil, l[0]), nil, l[0])
	hears(t, empty, itemsOf(true, nil, l[:3]...), nil, l[:3]...)
	hears(t, set(l[1], l[5]), itemsOf(false, nil, l[0], l[1]), []api.Gossip{itemsOf(true, nil, l[5])}, l[0])
	hears(t, set(l[1], l[5]), itemsOf(true, nil, l[0], l[1]), nil, l[0])
	hears(t, set(l[1], result(0x90)), itemsOf(false, []byte{0}), []api.Gossip{itemsOf(true, []byte{0}, l[1])})
	hears(t, set(l...), itemsOf(false, nil, l[3]), []api.Gossip{itemsOf(true, nil, slices.Concat(l[:3], l[4:9])...), itemsOf(true, nil, l[9:17]...), itemsOf(true, nil, l[17:]...)})
}

// talk hands over what both tell, from a Start of the first one on, till nobody tells anything.
func talk(t *testing.T, a, b *adverts.Set) (told int) {
	sets := [2]*adverts.Set{a, b}
	type message struct {
		to int
		m  api.Gossip
	}
	var way []message
	for _, m := range gossip.Start(a) {
		way = append(way, message{1, m})
	}
	for len(way) > 0 {
		x := way[0]
		way = way[1:]
		told++
		if told > 100000 {
			t.Fatal("they never end")
		}
		replies, learn := gossip.Hear(sets[x.to], x.m)
		for _, y := range learn {
			sets[x.to].Add(y)
		}
		for _, m := range replies {
			way = append(way, message{1 - x.to, m})
		}
	}
	return told
}

// P21.3: both sets are both together.
func TestTalk(t *testing.T) {
	r := rand.New(rand.NewSource(21))
	for range 60 {
		a, b, both := set(), set(), set()
		for range 1 + r.Intn(190) {
			x := result(byte(r.Intn(1+r.Intn(40))), byte(r.Intn(256)))
			x.Length = 1 + r.Intn(2)
			k := r.Intn(3)
			if k != 0 {
				a.Add(x)
			}
			if k != 1 {
				b.Add(x)
			}
			both.Add(x)
		}
		talk(t, a, b)
		if !slices.Equal(a.Below(nil), both.Below(nil)) || !slices.Equal(b.Below(nil), both.Below(nil)) {
			t.Fatal("they are not one")
		}
	}
	deepA, deepB := set(some(120)[:60]...), set(some(120)[60:]...)
	talk(t, deepA, deepB)
	if deepA.Len() != 120 || !slices.Equal(deepA.Below(nil), deepB.Below(nil)) {
		t.Error("keys that begin alike")
	}
}

// The example of the whole: no and twenty results: sixteen summaries, and then items.
func TestTwenty(t *testing.T) {
	var l []api.Attest
	for i := range 20 {
		l = append(l, result(byte(i*13)))
	}
	a, b := set(), set(l...)
	replies, _ := gossip.Hear(b, gossip.Start(a)[0])
	if len(replies) != 16 || replies[0].Kind != api.GossipSummary {
		t.Error(replies)
	}
	talk(t, a, b)
	if a.Len() != 20 || b.Len() != 20 {
		t.Error(a.Len(), b.Len())
	}
}

// P21.2: what is told is its own.
func TestMemory(t *testing.T) {
	s := set(some(9)...)
	prefix := []byte{0, 1}
	replies, _ := gossip.Hear(s, api.Gossip{Kind: 1, Prefix: prefix})
	replies[0].Prefix[0] = 9
	if prefix[0] != 0 || replies[1].Prefix[0] != 0 {
		t.Error("prefixes are shared")
	}
	items := some(3)
	_, learn := gossip.Hear(set(), itemsOf(false, nil, items...))
	learn[0].Length = 7
	if items[0].Length != 1 {
		t.Error("items are shared")
	}
}
