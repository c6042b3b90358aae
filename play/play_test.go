package play_test

import (
	"bytes"
	"math"
	"math/rand"
	"slices"
	"strconv"
	"strings"
	"testing"

	"murmuration/api"
	"murmuration/clean"
	"murmuration/play"
	"murmuration/swarm"
	"murmuration/tree"
)

const head = "config 1 4 5 40 60 5 90 2 3 6 3 100000\nholders 1\nsecret \"hush\"\n"

func config() api.Config {
	return api.Config{Nodes: 3, Window: 4, Time: 5, Budget: 40, Lease: 60, Wait: 5, Cap: 90, Every: 2, Timeout: 3, Suspect: 6, Gossip: 3, Quota: 100000}
}

func file(path, text string) api.File { return api.File{Path: path, Bytes: []byte(text)} }

const copies = "target a\nfuel 99\ncopy src/x out/y\nend\n"

func some() api.Script {
	return api.Script{Config: config(), Holders: 0xffff, Secret: "a \"b\"\n\\ é", Events: []api.Event{
		{Kind: api.EventEdit, Node: 0, Sources: api.Tree{file("x", "1\n\"2\""), file("z/y", "")}, File: []byte(copies)},
		{Kind: api.EventRequest, Node: 0, Target: "a"}, {Kind: api.EventRequest, Node: 999999, Target: " \n"},
		{Kind: api.EventTick, Node: 1}, {Kind: api.EventDeliver, N: 0}, {Kind: api.EventCopy, N: 3}, {Kind: api.EventDrop, N: 999999},
		{Kind: api.EventInject, Node: 2, Bytes: []byte{0, 255, 0x1a}}, {Kind: api.EventInject, Node: 2}, {Kind: api.EventCrash, Node: 1, Keep: 77}, {Kind: api.EventRestart, Node: 1}, {Kind: api.EventRounds, N: 30}, {Kind: api.EventEdit, Node: 7},
	}}
}

const form = `config 3 4 5 40 60 5 90 2 3 6 3 100000
holders 65535
secret "a \"b\"\n\\ é"
edit 0 "target a\nfuel 99\ncopy src/x out/y\nend\n" x "1\n\"2\"" z/y ""
request 0 "a"
request 999999 " \n"
tick 1
deliver 0
copy 3
drop 999999
inject 2 "00ff1a"
inject 2 ""
crash 1 77
restart 1
rounds 30
edit 7 ""
`

// P29.1: the form, line by line; it is read again.
func TestForm(t *testing.T) {
	b, e := play.Write(some())
	if !play.May(some()) || e != api.OK || string(b) != form {
		t.Errorf("%s, %d", b, e)
	}
	s, at, e := play.Read(b)
	if e != api.OK || at != 0 || !play.Same(s, some()) {
		t.Error(s, at, e)
	}
	loose := "# a script\n\n  config 3 4 5 40 60 5 90 2 3 6 3 \"100000\"\nholders 0\n\"secret\" x # y\n request\t0 a\ninject 1 0a\nedit 2 x"
	s, at, e = play.Read([]byte(loose))
	want := api.Script{Config: config(), Secret: "x", Events: []api.Event{{Kind: api.EventRequest, Target: "a"}, {Kind: api.EventInject, Node: 1, Bytes: []byte{10}}, {Kind: api.EventEdit, Node: 2, File: []byte("x")}}}
	if e != api.OK || at != 0 || !play.Same(s, want) {
		t.Error(s, at, e)
	}
}

// P29.1: faults, each with its line.
func TestReadWrong(t *testing.T) {
	many := strings.Repeat("tick 0\n", 100)
	for text, want := range map[string]struct {
		e  api.Errno
		at int
	}{
		"": {api.ErrShort, 0}, "config 1 4 5 40 60 5 90 2 3 6 3 100000": {api.ErrShort, 0}, strings.TrimSuffix(head, "secret \"hush\"\n"): {api.ErrShort, 0},
		head: {api.OK, 0}, "\"": {api.ErrForm, 1}, head + "tick 0\n\xff": {api.ErrForm, 5}, "x\n\"": {api.ErrForm, 2},
		"holders 1": {api.ErrForm, 1}, "config 1 4 5 40 60 5 90 2 3 6 3": {api.ErrForm, 1}, "config 1 4 5 40 60 5 90 2 3 6 3 100000 1": {api.ErrForm, 1}, "config 1 4 5 40 60 5 90 2 3 6 03 100000": {api.ErrForm, 1}, "config 1 4 5 40 60 5 90 2 3 6 3 1000000": {api.ErrForm, 1}, "tick 0": {api.ErrForm, 1},
		strings.Replace(head, "holders 1", "holders 65536", 1): {api.ErrForm, 2}, strings.Replace(head, "holders 1", "holders 65535", 1): {api.OK, 0}, strings.Replace(head, "holders 1", "holders", 1): {api.ErrForm, 2}, strings.Replace(head, "holders 1", "holders 1 1", 1): {api.ErrForm, 2}, strings.Replace(head, "holders 1", "tick 1", 1): {api.ErrForm, 2},
		strings.Replace(head, "secret", "holders", 1): {api.ErrForm, 3}, strings.Replace(head, "secret", "secret x", 1): {api.ErrForm, 3}, strings.Replace(head, "\"hush\"", "", 1): {api.ErrForm, 3}, strings.Replace(head, "hush", strings.Repeat("é", 50), 1): {api.OK, 0}, strings.Replace(head, "hush", strings.Repeat("é", 50)+"x", 1): {api.ErrArg, 0},
		strings.Replace(head, "config 1", "config 0", 1): {api.ErrArg, 0}, strings.Replace(head, "config 1", "config 17", 1): {api.ErrArg, 0}, strings.Replace(head, "100000", "200001", 1): {api.ErrArg, 0}, strings.Replace(head, " 90 ", " 999999 ", 1): {api.OK, 0},
		head + "config 1 4 5 40 60 5 90 2 3 6 3 100000": {api.ErrForm, 4}, head + "\"\"": {api.ErrForm, 4}, head + "Tick 0": {api.ErrForm, 4}, head + "tick": {api.ErrForm, 4}, head + "tick 0 0": {api.ErrForm, 4}, head + "tick x": {api.ErrForm, 4}, head + "tick -1": {api.ErrForm, 4},
		head + "rounds": {api.ErrForm, 4}, head + "rounds 1001": {api.OK, 0}, head + "deliver 1 1": {api.ErrForm, 4}, head + "crash 1": {api.ErrForm, 4}, head + "crash 1 2 3": {api.ErrForm, 4}, head + "restart 00": {api.ErrForm, 4},
		head + "request 1": {api.ErrForm, 4}, head + "request a 1": {api.ErrForm, 4}, head + "request 1 a b": {api.ErrForm, 4}, head + "request": {api.ErrForm, 4}, head + "request 1 " + strings.Repeat("x", 50): {api.OK, 0}, head + "request 1 " + strings.Repeat("x", 51): {api.ErrArg, 0},
		head + "inject 1": {api.ErrForm, 4}, head + "inject 1 0": {api.ErrForm, 4}, head + "inject 1 0A": {api.ErrForm, 4}, head + "inject 1 0g": {api.ErrForm, 4}, head + "inject 1 00 00": {api.ErrForm, 4}, head + "inject 1 é": {api.ErrForm, 4}, head + "inject 1 " + strings.Repeat("00", 2000): {api.OK, 0}, head + "inject 1 " + strings.Repeat("00", 2001): {api.ErrArg, 0},
		head + "edit 1": {api.ErrForm, 4}, head + "edit 1 f x": {api.ErrForm, 4}, head + "edit x f": {api.ErrForm, 4}, head + "edit 1 f X 1": {api.ErrArg, 0}, head + "edit 1 f b 1 a 2": {api.ErrArg, 0}, head + "edit 1 f a 1 b 2": {api.OK, 0}, head + "edit 1 " + strings.Repeat("x", 3000): {api.OK, 0}, head + "edit 1 " + strings.Repeat("x", 3001): {api.ErrArg, 0}, head + "edit 1 f x " + strings.Repeat("x", 2001): {api.ErrArg, 0},
		head + many: {api.OK, 0}, head + many + "tick 0": {api.ErrForm, 104}, head + many + "x": {api.ErrForm, 104}, head + many + "\n#\n\ntick 0": {api.ErrForm, 107}, head + "edit 1 f X 1\nx": {api.ErrForm, 5},
		strings.Repeat("#", 20001): {api.ErrLong, 0},
	} {
		s, at, e := play.Read([]byte(text))
		if e != want.e || at != want.at || e != api.OK && !play.Same(s, api.Script{}) {
			t.Errorf("%.200q: %d, %d; want %d, %d", text, at, e, want.at, want.e)
		}
		if _, played := play.Play([]byte(text)); played != want.e {
			t.Errorf("Play of %.200q: %d", text, played)
		}
	}
}

// P29.1: scripts that may not be.
func TestMay(t *testing.T) {
	for i, change := range []func(s *api.Script){
		func(s *api.Script) { s.Config.Nodes = 0 }, func(s *api.Script) { s.Config.Cap = 1000000 }, func(s *api.Script) { s.Config.Time = 1000000 }, func(s *api.Script) { s.Config.Quota = 200001 },
		func(s *api.Script) { s.Secret = strings.Repeat("x", 101) }, func(s *api.Script) { s.Secret = "\xff" }, func(s *api.Script) { s.Secret = "\t" }, func(s *api.Script) { s.Secret = "\x7f" }, func(s *api.Script) { s.Secret = "\x00" },
		func(s *api.Script) { s.Events = make([]api.Event, 1) }, func(s *api.Script) { s.Events = []api.Event{{Kind: 11}} },
		func(s *api.Script) { s.Events = slices.Repeat([]api.Event{{Kind: 1}}, 101) },
	} {
		s := some()
		change(&s)
		refused(t, i, s)
	}
	for i, e := range []api.Event{
		{Kind: api.EventTick, Node: -1}, {Kind: api.EventTick, Node: 1000000}, {Kind: api.EventTick, N: 1}, {Kind: api.EventTick, Keep: 1}, {Kind: api.EventTick, Bytes: []byte{0}}, {Kind: api.EventTick, Sources: api.Tree{file("a", "")}}, {Kind: api.EventTick, File: []byte("x")}, {Kind: api.EventTick, Target: "x"},
		{Kind: api.EventRestart, N: 1}, {Kind: api.EventDeliver, Node: 1}, {Kind: api.EventCopy, Node: 1}, {Kind: api.EventDrop, Node: 1}, {Kind: api.EventRounds, Node: 1}, {Kind: api.EventRounds, N: -1}, {Kind: api.EventRounds, N: 1000000}, {Kind: api.EventDrop, Keep: 1},
		{Kind: api.EventCrash, Keep: -1}, {Kind: api.EventCrash, Keep: math.MaxInt}, {Kind: api.EventCrash, N: 1}, {Kind: api.EventInject, Bytes: make([]byte, 2001)}, {Kind: api.EventInject, Target: "x"}, {Kind: api.EventInject, File: []byte("x")},
		{Kind: api.EventEdit, File: bytes.Repeat([]byte("x"), 3001)}, {Kind: api.EventEdit, File: []byte("\xff")}, {Kind: api.EventEdit, File: []byte("\t")}, {Kind: api.EventEdit, Sources: api.Tree{file("A", "")}}, {Kind: api.EventEdit, Sources: api.Tree{file("a", "\x01")}}, {Kind: api.EventEdit, Sources: api.Tree{file("a", "\x80")}}, {Kind: api.EventEdit, Target: "x"},
		{Kind: api.EventRequest, Target: strings.Repeat("x", 51)}, {Kind: api.EventRequest, Target: "\x7f"}, {Kind: api.EventRequest, File: []byte("x")}, {Kind: 0}, {Kind: 255, Node: 1},
	} {
		s := some()
		s.Events = []api.Event{e}
		refused(t, 100+i, s)
	}
	s := some()
	s.Events = []api.Event{{Kind: api.EventInject, Bytes: make([]byte, 2000)}, {Kind: api.EventEdit, File: bytes.Repeat([]byte("x"), 3000)}, {Kind: api.EventRequest, Target: strings.Repeat("é", 25)}}
	if b, e := play.Write(s); !play.May(s) || e != api.OK || len(b) < 7000 {
		t.Error("the greatest", e)
	}
	long := api.Event{Kind: api.EventEdit, File: bytes.Repeat([]byte("x"), 3000), Sources: api.Tree{file("a", strings.Repeat("y", 1800))}}
	s = api.Script{Config: config(), Events: []api.Event{long, long, long, long}}
	if b, e := play.Write(s); e != api.OK || len(b) > api.MaxBuild {
		t.Error("a long one", e)
	}
	s.Events = append(s.Events, long)
	if b, e := play.Write(s); !play.May(s) || b != nil || e != api.ErrLong {
		t.Error("too long a one", e)
	}
}

func refused(t *testing.T, i int, s api.Script) {
	t.Helper()
	b, e := play.Write(s)
	r, fault := play.Run(s)
	if play.May(s) || b != nil || e != api.ErrArg || fault != api.ErrArg || r.Codes != nil || r.Ends != nil {
		t.Errorf("wrong %d: %d, %d", i, e, fault)
	}
}

// P29.1: Same looks at all fields.
func TestSame(t *testing.T) {
	if !play.Same(api.Script{}, api.Script{Events: []api.Event{}}) || !play.Same(some(), some()) {
		t.Error("alike")
	}
	empty := api.Script{Events: []api.Event{{Bytes: []byte{}, File: []byte{}, Sources: api.Tree{}}}}
	if !play.Same(empty, api.Script{Events: make([]api.Event, 1)}) {
		t.Error("no list and an empty one")
	}
	for i, change := range []func(s *api.Script){
		func(s *api.Script) { s.Config.Gossip++ }, func(s *api.Script) { s.Holders++ }, func(s *api.Script) { s.Secret += "x" }, func(s *api.Script) { s.Events = s.Events[1:] }, func(s *api.Script) { slices.Reverse(s.Events) },
		func(s *api.Script) { s.Events[3].Kind++ }, func(s *api.Script) { s.Events[3].Node++ }, func(s *api.Script) { s.Events[3].N++ }, func(s *api.Script) { s.Events[3].Keep++ }, func(s *api.Script) { s.Events[3].Bytes = []byte{0} }, func(s *api.Script) { s.Events[0].Sources[0].Path = "q" }, func(s *api.Script) { s.Events[3].File = []byte{0} }, func(s *api.Script) { s.Events[3].Target = "q" },
	} {
		s := some()
		change(&s)
		if play.Same(s, some()) || play.Same(some(), s) {
			t.Errorf("change %d", i)
		}
	}
}

// P29.2: the examples of the documents, played.
func TestPlay(t *testing.T) {
	two := strings.Replace(head, "config 1", "config 2", 1)
	for text, want := range map[string]string{
		"tick 0\ntick 9":                    "0\n6\n0 up 1 0 0 \"\"\n",
		"request 0 a\nrequest 0 \"b \\\"\"": "0\n0\n0 up 0 3 6 \"b \\\"\"\n",
		"tick 0\ndeliver 0\nrestart 0\ncrash 0 5\ntick 0\nrequest 0 a":                                                                     "0\n6\n281\n0\n280\n280\n0 down\n",
		"edit 0 \"target a\\nfuel 99\\ncopy src/x out/y\\nend\" x \"1\\n\"\nrequest 0 a\nrequest 0 a\nrounds 20\nrounds 1001\ninject 0 00": "0\n0\n270\n0\n6\n5\n0 up 20 2 0 \"a\" y \"310a\"\n",
		"edit 0 \"target a a\\nfuel 99\\nend\"\nrequest 0 a":                                                                               "0\n0\n0 up 0 3 150 \"a\"\n",
		"edit 0 \"target a\\nfuel 99\\ncopy src/q out/y\\nend\"\nrequest 0 a\nrounds 20":                                                   "0\n0\n0\n0 up 20 3 70 \"a\"\n",
		"edit 0 \"target a\\nfuel 9000\\njump 0\\nend\"\nrequest 0 a\nrounds 100":                                                          "0\n0\n0\n0 up 100 1 0 \"a\"\n",
		"edit 0 \"target a\\nfuel 900\\njump 0\\nend\"\nrequest 0 a\nrounds 100":                                                           "0\n0\n0\n0 up 100 3 71 \"a\"\n",
		"": "0 up 0 0 0 \"\"\n",
	} {
		if b, e := play.Play([]byte(head + text)); e != api.OK || string(b) != want {
			t.Errorf("%s:\n%s%d", text, b, e)
		}
	}
	if b, e := play.Play([]byte(strings.Replace(two, "holders 1", "holders 6", 1) + "tick 0\ntick 1\nrounds 2")); e != api.OK || string(b) != "6\n0\n0\n1 up 3 0 0 \"\"\n" {
		t.Errorf("%s%d", b, e)
	}
}

// P29.2: any report has a text.
func TestText(t *testing.T) {
	r := api.Report{Codes: []api.Errno{0, -3, 250}, Ends: []api.End{{Node: 4, Now: 9}, {Node: -1, Up: true, Now: 7, Build: api.Build{State: 2, Target: "a\n\"\\", Errno: 5, Tree: api.Tree{file("b", ""), file("a", "\xff\x00")}}}}}
	if got := string(play.Text(r)); got != "0\n-3\n250\n4 down\n-1 up 7 2 5 \"a\\n\\\"\\\\\" b \"\" a \"ff00\"\n" {
		t.Error(got)
	}
	if len(play.Text(api.Report{})) != 0 {
		t.Error("no report")
	}
}

// keepOwn makes all fields zero that the event's kind has not.
func keepOwn(e *api.Event) {
	old := *e
	*e = api.Event{Kind: old.Kind}
	switch old.Kind {
	case api.EventDeliver, api.EventCopy, api.EventDrop, api.EventRounds:
		e.N = old.N
		return
	case api.EventInject:
		e.Bytes = old.Bytes
	case api.EventEdit:
		e.Sources, e.File = old.Sources, old.File
	case api.EventRequest:
		e.Target = old.Target
	case api.EventCrash:
		e.Keep = old.Keep
	}
	e.Node = old.Node
}

// chance is a script at chance.
func chance(r *rand.Rand) api.Script {
	s := api.Script{Config: config(), Holders: uint16(1 + r.Intn(7)), Secret: []string{"", "x", "a\nb"}[r.Intn(3)]}
	for range r.Intn(30) {
		kind := uint8(1 + r.Intn(10))
		e := api.Event{Kind: kind, Node: r.Intn(4), N: r.Intn(20), Keep: r.Intn(2000), Bytes: make([]byte, r.Intn(60)), Target: []string{"a", "b\"", ""}[r.Intn(3)], File: []byte([]string{copies, "", "target a\nfuel 9\nfail\nend"}[r.Intn(3)]), Sources: api.Tree{file("x", strings.Repeat("1", r.Intn(4)))}}
		r.Read(e.Bytes)
		keepOwn(&e)
		s.Events = append(s.Events, e)
	}
	return s
}

// T7, P29.1, P29.2: what is written is read again, and is what happens; first events are answered the same without the others.
func TestChance(t *testing.T) {
	r := rand.New(rand.NewSource(29))
	for range 150 {
		s := chance(r)
		b, e := play.Write(s)
		o, _, fault := play.Read(b)
		if e != api.OK || fault != api.OK || !play.Same(s, o) {
			t.Fatal(e, fault, s)
		}
		report, _ := play.Run(s)
		text, _ := play.Play(b)
		if !bytes.Equal(text, play.Text(report)) {
			t.Fatal("a text is not what happens")
		}
		cut := r.Intn(len(s.Events) + 1)
		s.Events = s.Events[:cut]
		if first, _ := play.Run(s); !slices.Equal(first.Codes, report.Codes[:cut]) {
			t.Fatal("first events are answered otherwise")
		}
		checkEnds(t, o, report)
	}
}

// checkEnds: a report is how the holders of a swarm stand.
func checkEnds(t *testing.T, s api.Script, r api.Report) {
	w, _ := swarm.New(s.Config, s.Holders, []byte(s.Secret))
	for i, e := range s.Events {
		if got := w.Do(e); got != r.Codes[i] {
			t.Fatal("event", i, got, r.Codes[i])
		}
	}
	i := 0
	for n := range api.MaxNodes {
		if !w.Holder(n) {
			continue
		}
		x, b := r.Ends[i], w.Node(n).Build()
		if x.Node != n || x.Up != w.Up(n) || x.Now != w.Node(n).Now() || x.Build.State != b.State || x.Build.Target != b.Target || x.Build.Errno != b.Errno || !tree.Same(x.Build.Tree, b.Tree) {
			t.Fatal(x)
		}
		i++
	}
	if i != len(r.Ends) {
		t.Fatal("ends", len(r.Ends))
	}
}

// The examples of the whole that are scripts: all packets are lost; two want one target; a crash without a sync.
func TestWhole(t *testing.T) {
	s := api.Script{Config: config(), Holders: 7, Secret: "s"}
	sources := api.Tree{file("x", "1")}
	for n := range 3 {
		s.Events = append(s.Events, api.Event{Kind: api.EventEdit, Node: n, Sources: sources, File: []byte(copies)}, api.Event{Kind: api.EventRequest, Node: n, Target: "a"})
	}
	together := s
	together.Events = append(slices.Clone(s.Events), api.Event{Kind: api.EventRounds, N: 50})
	want, _ := clean.Build(sources, []byte(copies), "a")
	for i, x := range []api.Script{s, together} {
		if i == 0 { // only ticks: nothing arrives
			for n := range 3 {
				x.Events = append(x.Events, slices.Repeat([]api.Event{{Kind: api.EventTick, Node: n}}, 30)...)
			}
		}
		r, e := play.Run(x)
		if e != api.OK || len(r.Ends) != 3 {
			t.Fatal(e)
		}
		for _, end := range r.Ends {
			if end.Build.State != api.BuildDone || !tree.Same(end.Build.Tree, want) {
				t.Error(strconv.Itoa(i), end)
			}
		}
	}
}
