package stroke_test

import (
	"math"
	"testing"

	"slatewall/api"
	"slatewall/stroke"
)

// P5.1: Moved by as much as there is, to the bounds of the board, and beyond them.
func TestMoved(t *testing.T) {
	s := of(1000, 2000, 1100, 2300, 1050, 2100)
	for _, x := range [][2]int{{0, 0}, {1, -1}, {-1000, -2000}, {2995, 1795}, {-1000, 1795}, {2995, -2000}} {
		want := copied(s)
		for i := range want.Dots {
			want.Dots[i].X += x[0]
			want.Dots[i].Y += x[1]
		}
		m, e := stroke.Moved(s, x[0], x[1])
		wantStroke(t, "Moved", m, e, want)
	}
	for _, x := range [][2]int{{-1001, 0}, {2996, 0}, {0, -2001}, {0, 1796}, {-1001, -2001}, {4095, 0}, {-4095, 0}, {0, 4095}, {0, -4095}, {4096, 0}, {-4096, 0}, {0, 4096}, {0, -4096}, {math.MinInt, 0}, {math.MaxInt, 0}, {0, math.MinInt}, {0, math.MaxInt}} {
		m, e := stroke.Moved(s, x[0], x[1])
		wantRefused(t, "Moved beyond the board", m, e)
	}
	// From one side of the board to the other one, and a place less or more.
	for _, x := range []struct {
		from, by int
		valid    bool
	}{{0, 4095, true}, {0, 4094, true}, {0, 4096, false}, {0, -1, false}, {4095, -4095, true}, {4095, -4094, true}, {4095, -4096, false}, {4095, 1, false}, {1, 4095, false}, {4094, -4095, false}} {
		m, e := stroke.Moved(of(x.from, 77), x.by, 0)
		u, f := stroke.Moved(of(77, x.from), 0, x.by)
		if x.valid {
			wantStroke(t, "Moved along X", m, e, of(x.from+x.by, 77))
			wantStroke(t, "Moved along Y", u, f, of(77, x.from+x.by))
		} else {
			wantRefused(t, "Moved along X", m, e)
			wantRefused(t, "Moved along Y", u, f)
		}
	}
}

// P5.1: Turned by quarters, by negative ones, and by many.
func TestTurned(t *testing.T) {
	s := of(1000, 2000, 1100, 2300)
	one, two, three := of(2095, 1000, 1795, 1100), of(3095, 2095, 2995, 1795), of(2000, 3095, 2300, 2995)
	for i, want := range []api.Stroke{s, one, two, three} {
		for _, whole := range []int{0, 4, -4, 8, -8, 4000, -4000, math.MaxInt - 3, math.MinInt, math.MaxInt/2 - 3} {
			u, e := stroke.Turned(s, whole+i)
			wantStroke(t, "Turned", u, e, want)
		}
	}
	for quarters, want := range map[int]api.Stroke{-1: three, -2: two, -3: one, -4: s, -5: three, 5: one, 401: one, math.MaxInt: three, math.MaxInt - 1: two, math.MinInt: s, math.MinInt + 1: one} {
		u, e := stroke.Turned(s, quarters)
		wantStroke(t, "Turned", u, e, want)
	}
	// The corners of the board follow each other.
	corners := of(0, 0, 4095, 0, 4095, 4095, 0, 4095)
	for quarters := range 4 {
		u, e := stroke.Turned(corners, quarters)
		l := places(u)
		if e != api.OK || len(l) != 4 || l[0] != places(corners)[quarters] {
			t.Errorf("the corners turned by %d: %v, %d", quarters, l, e)
		}
	}
}
