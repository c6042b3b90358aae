package builder_test

import (
	"math"
	"math/rand"
	"testing"

	"murmuration/api"
	"murmuration/builder"
)

type step struct {
	now   int
	facts api.Facts
	want  api.Want
}

func steps(t *testing.T, name string, cap, budget int, l ...step) *builder.Turn {
	t.Helper()
	turn := builder.New(cap, budget)
	for i, s := range l {
		if got := turn.Step(s.now, s.facts); got != s.want {
			t.Errorf("%s, step %d: %d, not %d", name, i, got, s.want)
		}
		if isEnd := s.want == api.WantDone || s.want == api.WantWrong; turn.Over() != isEnd {
			t.Errorf("%s, step %d: Over is %v", name, i, turn.Over())
		}
	}
	return turn
}

// P26.1: New.
func TestNew(t *testing.T) {
	for _, x := range [][2]int{{-1, 0}, {0, -1}, {1000001, 0}, {0, 1000001}, {math.MinInt, 0}, {0, math.MaxInt}} {
		if builder.New(x[0], x[1]) != nil {
			t.Error(x)
		}
	}
	if builder.New(0, 0) == nil || builder.New(1000000, 1000000) == nil || builder.New(1, 1).Over() {
		t.Error("right ones")
	}
}

// P26.2: what is wanted.
func TestStep(t *testing.T) {
	none, heard, lease, ready := api.Facts{}, api.Facts{Heard: true}, api.Facts{Lease: true}, api.Facts{Ready: true}
	stored, failed, ran, wrong := api.Facts{Stored: true}, api.Facts{Failed: true}, api.Facts{Ran: true}, api.Facts{Wrong: true}
	every := api.Facts{Stored: true, Heard: true, Lease: true, Ready: true, Fetched: true, Failed: true, Ran: true, Wrong: true}
	steps(t, "the example", 9, 4, step{0, none, api.WantClaim}, step{3, heard, api.WantFetch}, step{7, heard, api.WantClaim}, step{9, heard, api.WantRun})
	steps(t, "stored", 9, 4, step{0, every, api.WantDone}, step{1, none, api.WantDone}, step{9, wrong, api.WantDone})
	steps(t, "a lease", 9, 4, step{0, lease, api.WantNothing}, step{8, lease, api.WantNothing}, step{9, lease, api.WantRun}, step{10, lease, api.WantRun}, step{11, ran, api.WantDone}, step{12, wrong, api.WantDone})
	steps(t, "ready", 9, 4, step{0, none, api.WantClaim}, step{1, api.Facts{Ready: true, Lease: true}, api.WantRun}, step{2, heard, api.WantRun}, step{3, failed, api.WantRun}, step{4, wrong, api.WantWrong}, step{5, stored, api.WantWrong}, step{6, ran, api.WantWrong})
	steps(t, "ran and wrong", 9, 4, step{0, ready, api.WantRun}, step{1, api.Facts{Ran: true, Wrong: true}, api.WantDone})
	steps(t, "stored while running", 9, 4, step{0, ready, api.WantRun}, step{1, api.Facts{Stored: true, Wrong: true}, api.WantDone})
	steps(t, "heard is ahead of ready", 9, 4, step{0, api.Facts{Heard: true, Ready: true}, api.WantFetch})
	steps(t, "heard is ahead of the cap", 0, 4, step{5, heard, api.WantFetch}, step{8, none, api.WantFetch}, step{9, none, api.WantRun})
	steps(t, "fetched alone", 9, 4, step{0, heard, api.WantFetch}, step{1, api.Facts{Fetched: true, Heard: true}, api.WantFetch}, step{2, stored, api.WantDone})
	steps(t, "failed", 9, 4, step{0, heard, api.WantFetch}, step{1, api.Facts{Failed: true, Heard: true, Lease: true}, api.WantNothing}, step{2, heard, api.WantClaim}, step{3, api.Facts{Heard: true, Ready: true}, api.WantRun})
	steps(t, "failed, but stored", 9, 4, step{0, heard, api.WantFetch}, step{1, api.Facts{Failed: true, Stored: true}, api.WantDone})
	steps(t, "ran or wrong while looking", 9, 4, step{0, api.Facts{Ran: true, Wrong: true, Failed: true, Fetched: true}, api.WantClaim})
	steps(t, "no cap", 0, 4, step{-3, none, api.WantRun})
	steps(t, "no budget", 9, 0, step{0, heard, api.WantFetch}, step{0, heard, api.WantClaim}, step{1, heard, api.WantClaim})
	steps(t, "the ends of numbers", 1000000, 1000000, step{math.MinInt, heard, api.WantFetch}, step{math.MaxInt, heard, api.WantRun})
	steps(t, "the cap counts from the first step", 3, 4, step{100, lease, api.WantNothing}, step{102, lease, api.WantNothing}, step{103, lease, api.WantRun})
}

// P26.2: a turn that is not there.
func TestNone(t *testing.T) {
	for _, turn := range []*builder.Turn{nil, {}} {
		if turn.Step(0, api.Facts{Stored: true}) != api.WantNothing || turn.Over() {
			t.Error("answers")
		}
	}
}

// P26.3, P26.4: whatever facts are told, a turn comes to run in time, and fetches once.
func TestBound(t *testing.T) {
	r := rand.New(rand.NewSource(26))
	flip := func(n int) bool { return r.Intn(n) == 0 }
	for range 3000 {
		cap, budget := r.Intn(12), r.Intn(12)
		turn := builder.New(cap, budget)
		fetches, last := 0, api.WantNothing
		for now := range 40 {
			f := api.Facts{Stored: flip(60), Heard: flip(3), Lease: flip(2), Ready: flip(40), Fetched: flip(2), Failed: flip(6), Ran: flip(20), Wrong: flip(20)}
			want := turn.Step(now, f)
			if want == api.WantFetch && last != api.WantFetch {
				fetches++
			}
			if want == api.WantRun && last != api.WantRun && !f.Ready && now < cap {
				t.Fatal("it runs too early")
			}
			if now >= cap+budget+2 && want != api.WantRun && want != api.WantDone && want != api.WantWrong {
				t.Fatalf("cap %d, budget %d: %d at %d", cap, budget, want, now)
			}
			if last == api.WantRun && (f.Ran || f.Wrong || f.Stored) && !turn.Over() {
				t.Fatal("it is not over")
			}
			last = want
		}
		if fetches > 1 {
			t.Fatal("it fetches again")
		}
	}
}
