package ticks_test

import (
	"math"
	"murmuration/ticks"
	"testing"
)

func TestPast(t *testing.T) {
	for _, x := range []struct {
		now, since, span int
		want             bool
	}{
		{5, 3, 2, true}, {5, 3, 3, false}, {5, 5, 0, true}, {4, 5, 0, false}, {-1, -3, 2, true}, {-1, -3, 3, false},
		{math.MaxInt, math.MinInt, math.MaxInt, true}, {math.MinInt, math.MaxInt, 0, false}, {math.MaxInt, 0, math.MaxInt, true}, {math.MaxInt - 1, 0, math.MaxInt, false}, {3, 2, -1, true},
	} {
		if got := ticks.Past(x.now, x.since, x.span); got != x.want {
			t.Error(x)
		}
	}
}
