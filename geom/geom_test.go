package geom

import (
	"math"
	"slices"
	"testing"

	"footpath/api"
)

const side = 1 << 20

func at(x, z int) api.Point { return api.Point{X: x, Z: z} }

// odd holds numbers at and beside the bounds of the chapter, between them, and far beyond them.
var odd = []int{
	math.MinInt, math.MinInt + 1, -1 << 40, -side - 1, -side, -side + 1, -3, -1,
	0, 1, 2, side - 1, side, side + 1, 1 << 40, math.MaxInt - 1, math.MaxInt,
}

// oddPoints are all pairs of odd's numbers.
func oddPoints() []api.Point {
	var l []api.Point
	for _, x := range odd {
		for _, z := range odd {
			l = append(l, at(x, z))
		}
	}
	return l
}

// edges are the few of oddPoints of which all threes and fours can be gone over.
func edges() []api.Point {
	var l []api.Point
	for _, x := range []int{math.MinInt, -side - 1, -side, 0, side - 1, side, math.MaxInt} {
		for _, z := range []int{-1 << 40, -side, 1, side} {
			l = append(l, at(x, z))
		}
	}
	return l
}

// square holds the lattice points from lo, lo to hi, hi.
func square(lo, hi int) []api.Point {
	var l []api.Point
	for x := lo; x <= hi; x++ {
		for z := lo; z <= hi; z++ {
			l = append(l, at(x, z))
		}
	}
	return l
}

func brought(n int) int {
	switch {
	case n < -side:
		return -side
	case n > side:
		return side
	}
	return n
}

func broughtPoint(p api.Point) api.Point { return at(brought(p.X), brought(p.Z)) }

// way is the step from one point to another one, as they are brought in.
func way(a, b api.Point) api.Point {
	a, b = broughtPoint(a), broughtPoint(b)
	return at(b.X-a.X, b.Z-a.Z)
}

func cross(p, q api.Point) int { return p.X*q.Z - p.Z*q.X }
func dot(p, q api.Point) int   { return p.X*q.X + p.Z*q.Z }

func signOf(n int) int {
	switch {
	case n < 0:
		return -1
	case n > 0:
		return 1
	}
	return 0
}

// lies tells On by how far along the way p is, not by its bounds.
func lies(a, b, p api.Point) bool {
	along, out := way(a, b), way(a, p)
	d := dot(along, out)
	if along == at(0, 0) {
		return out == at(0, 0)
	}
	return cross(along, out) == 0 && d >= 0 && d <= dot(along, along)
}

// share tells Meet by the shares of both ways at which their lines cross.
func share(a, b, c, d api.Point) bool {
	p, q, out := way(a, b), way(c, d), way(a, c)
	den := cross(p, q)
	if den == 0 {
		return lies(a, b, c) || lies(a, b, d) || lies(c, d, a) || lies(c, d, b)
	}
	t, u := cross(out, q), cross(out, p)
	if den < 0 {
		den, t, u = -den, -t, -u
	}
	return t >= 0 && t <= den && u >= 0 && u <= den
}

// reaches tells Touch by cutting off of the way what lies beyond each of the square's four lines, in shares num / den.
func reaches(a, b api.Point, x0, z0, x1, z1 int) bool {
	x0, z0, x1, z1 = brought(x0), brought(z0), brought(x1), brought(z1)
	if x0 > x1 || z0 > z1 {
		return false
	}
	from, step := broughtPoint(a), way(a, b)
	first, last := [2]int{0, 1}, [2]int{1, 1}
	for _, cut := range [][2]int{{step.X, x0 - from.X}, {-step.X, from.X - x1}, {step.Z, z0 - from.Z}, {-step.Z, from.Z - z1}} {
		rise, want := cut[0], cut[1] // the share t is kept just if rise * t is at least want
		switch {
		case rise == 0 && want > 0:
			return false
		case rise > 0 && want*first[1] > first[0]*rise:
			first = [2]int{want, rise}
		case rise < 0 && -want*last[1] < last[0]*-rise:
			last = [2]int{-want, -rise}
		}
	}
	return first[0]*last[1] <= last[0]*first[1]
}

func TestTurnTable(t *testing.T) {
	for _, c := range []struct {
		a, b, c api.Point
		want    int
	}{
		{at(0, 0), at(2, 0), at(1, 1), 1},
		{at(0, 0), at(2, 0), at(1, -1), -1},
		{at(0, 0), at(2, 0), at(1, 0), 0},
		{at(0, 0), at(2, 0), at(9, 0), 0},
		{at(0, 0), at(0, 2), at(1, 1), -1},
		{at(0, 0), at(0, 2), at(-1, 1), 1},
		{at(3, 3), at(3, 3), at(8, 1), 0},
		{at(3, 3), at(8, 1), at(3, 3), 0},
		{at(3, 3), at(3, 3), at(3, 3), 0},
		{at(-4, -6), at(4, 6), at(2, 3), 0},
		{at(-4, -6), at(4, 6), at(2, 4), 1},
		{at(-side, -side), at(side, side), at(-side, side), 1},
		{at(-side, -side), at(side, side), at(side, -side), -1},
		{at(-side, -side), at(side, side), at(side-1, side), 1},
		{at(-side, -side), at(side, side), at(side, side-1), -1},
		{at(-side, 0), at(side, 0), at(side+5, 1), 1},
		// Beyond the bound all is the bound, so that these are on one line, or one point.
		{at(-1<<40, -1<<50), at(1<<41, 1<<60), at(7, 7), 0},
		{at(side, 0), at(side+9, 0), at(0, 5), 0},
		{at(math.MinInt, math.MinInt), at(math.MaxInt, math.MinInt), at(math.MaxInt, math.MaxInt), 1},
		{at(math.MinInt, math.MinInt), at(math.MinInt, math.MaxInt), at(math.MaxInt, math.MaxInt), -1},
	} {
		if got := Turn(c.a, c.b, c.c); got != c.want {
			t.Errorf("Turn(%v, %v, %v) = %d; want %d", c.a, c.b, c.c, got, c.want)
		}
	}
}

func TestTurnIsTheSignOfItsNumber(t *testing.T) {
	for _, l := range [][]api.Point{square(-2, 2), edges()} {
		for _, a := range l {
			for _, b := range l {
				for _, c := range l {
					if got, want := Turn(a, b, c), signOf(cross(way(a, b), way(a, c))); got != want {
						t.Errorf("Turn(%v, %v, %v) = %d; want %d", a, b, c, got, want)
					}
				}
			}
		}
	}
}

// TestTurnChangesAndStays holds P2.4's first sentence.
func TestTurnChangesAndStays(t *testing.T) {
	for _, l := range [][]api.Point{square(-1, 2), edges()} {
		for _, a := range l {
			for _, b := range l {
				for _, c := range l {
					n := Turn(a, b, c)
					if Turn(b, a, c) != -n || Turn(a, c, b) != -n || Turn(c, b, a) != -n {
						t.Errorf("Turn(%v, %v, %v) = %d, but two places changed tell otherwise", a, b, c, n)
					}
				}
			}
		}
	}
	l := square(-1, 2)
	for _, by := range []api.Point{at(1, 0), at(-5, 8), at(1-side, 1-side), at(side-2, 1-side), at(side-2, side-2)} {
		moved := func(p api.Point) api.Point { return at(p.X+by.X, p.Z+by.Z) }
		for _, a := range l {
			for _, b := range l {
				for _, c := range l {
					if got, want := Turn(moved(a), moved(b), moved(c)), Turn(a, b, c); got != want {
						t.Errorf("Turn(%v, %v, %v) moved by %v = %d; want %d", a, b, c, by, got, want)
					}
				}
			}
		}
	}
}

func TestOnTable(t *testing.T) {
	for _, c := range []struct {
		a, b, p api.Point
		want    bool
	}{
		{at(0, 0), at(2, 0), at(1, 0), true},
		{at(0, 0), at(2, 0), at(0, 0), true},
		{at(0, 0), at(2, 0), at(2, 0), true},
		{at(0, 0), at(2, 0), at(3, 0), false},
		{at(0, 0), at(2, 0), at(-1, 0), false},
		{at(0, 0), at(2, 0), at(1, 1), false},
		{at(0, 0), at(0, 2), at(0, 1), true},
		{at(0, 0), at(0, 2), at(0, 3), false},
		{at(0, 0), at(0, 2), at(0, -1), false},
		{at(4, 6), at(0, 0), at(2, 3), true},
		{at(4, 6), at(0, 0), at(2, 2), false},
		{at(4, 6), at(0, 0), at(6, 9), false},
		{at(1, 1), at(1, 1), at(1, 1), true},
		{at(1, 1), at(1, 1), at(2, 1), false},
		{at(1, 1), at(1, 1), at(1, 0), false},
		{at(-side, -side), at(side, side), at(side, side), true},
		{at(-side, -side), at(side, side), at(math.MaxInt, math.MaxInt), true},
		{at(-side, -side), at(side, side), at(side, side-1), false},
		{at(0, 0), at(side-1, 0), at(side, 0), false},
		{at(0, 0), at(1<<40, 0), at(1<<50, 0), true},
		{at(side+1, 3), at(side+9, 3), at(side, 3), true},
		{at(side+1, 3), at(side+9, 3), at(side-1, 3), false},
	} {
		if got := On(c.a, c.b, c.p); got != c.want {
			t.Errorf("On(%v, %v, %v) = %v", c.a, c.b, c.p, got)
		}
	}
}

func TestOnByShares(t *testing.T) {
	for _, l := range [][]api.Point{square(-2, 3), edges()} {
		for _, a := range l {
			for _, b := range l {
				for _, p := range l {
					want := lies(a, b, p)
					if On(a, b, p) != want || On(b, a, p) != want {
						t.Errorf("On(%v, %v, %v) = %v, %v; want %v", a, b, p, On(a, b, p), On(b, a, p), want)
					}
				}
			}
		}
	}
}

func TestFar(t *testing.T) {
	for _, c := range []struct {
		a, b api.Point
		want int
	}{
		{at(1, 2), at(4, 6), 25},
		{at(4, 6), at(1, 2), 25},
		{at(3, 3), at(3, 3), 0},
		{at(-1, 0), at(1, 0), 4},
		{at(0, -1), at(0, 1), 4},
		{at(-side, -side), at(side, side), 1 << 43},
		{at(0, 0), at(side-1, 0), (side - 1) * (side - 1)},
		{at(0, 0), at(0, side+1), side * side},
		{at(math.MinInt, math.MaxInt), at(math.MaxInt, math.MinInt), 1 << 43},
		{at(math.MaxInt, 0), at(side, 0), 0},
	} {
		if got := Far(c.a, c.b); got != c.want {
			t.Errorf("Far(%v, %v) = %d; want %d", c.a, c.b, got, c.want)
		}
	}
	for _, a := range edges() {
		for _, b := range edges() {
			if got, want := Far(a, b), dot(way(a, b), way(a, b)); got != want {
				t.Errorf("Far(%v, %v) = %d; want %d", a, b, got, want)
			}
		}
	}
}

func TestBounds(t *testing.T) {
	for _, c := range []struct {
		l              []api.Point
		x0, z0, x1, z1 int
	}{
		{[]api.Point{at(3, 4), at(-1, 9), at(2, 1)}, -1, 1, 3, 9},
		{[]api.Point{at(5, -7)}, 5, -7, 5, -7},
		{[]api.Point{at(5, -7), at(5, -7), at(5, -7)}, 5, -7, 5, -7},
		{[]api.Point{at(-9, -8), at(-3, -2)}, -9, -8, -3, -2},
		{[]api.Point{at(side, -side)}, side, -side, side, -side},
		{[]api.Point{at(side+1, -side-1)}, side, -side, side, -side},
		{[]api.Point{at(math.MaxInt, math.MaxInt)}, side, side, side, side},
		{[]api.Point{at(math.MinInt, math.MinInt)}, -side, -side, -side, -side},
		{[]api.Point{at(math.MinInt, 0), at(0, math.MaxInt)}, -side, 0, 0, side},
		{[]api.Point{at(side-1, 1-side), at(2, 3)}, 2, 1 - side, side - 1, 3},
	} {
		own := slices.Clone(c.l)
		x0, z0, x1, z1, ok := Bounds(own)
		if x0 != c.x0 || z0 != c.z0 || x1 != c.x1 || z1 != c.z1 || !ok {
			t.Errorf("Bounds(%v) = %d, %d, %d, %d, %v", c.l, x0, z0, x1, z1, ok)
		}
		if !slices.Equal(own, c.l) {
			t.Errorf("Bounds changed %v to %v", c.l, own)
		}
	}
}

func TestBoundsOfNoPoint(t *testing.T) {
	for _, l := range [][]api.Point{nil, {}, make([]api.Point, 0, 4)} {
		if x0, z0, x1, z1, ok := Bounds(l); x0 != 0 || z0 != 0 || x1 != 0 || z1 != 0 || ok {
			t.Errorf("Bounds of none = %d, %d, %d, %d, %v", x0, z0, x1, z1, ok)
		}
	}
}

func TestMeetTable(t *testing.T) {
	for _, c := range []struct {
		a, b, c, d api.Point
		want       bool
	}{
		{at(0, 0), at(2, 2), at(1, 1), at(5, 0), true},
		{at(0, 0), at(2, 2), at(0, 2), at(2, 0), true},
		{at(0, 0), at(3, 3), at(0, 1), at(1, 0), true},
		{at(0, 0), at(2, 2), at(3, 3), at(5, 5), false},
		{at(0, 0), at(2, 2), at(2, 2), at(5, 5), true},
		{at(0, 0), at(4, 4), at(3, 3), at(5, 5), true},
		{at(0, 0), at(9, 9), at(3, 3), at(5, 5), true},
		{at(0, 0), at(4, 0), at(2, 1), at(2, 5), false},
		{at(0, 0), at(4, 0), at(2, 0), at(2, 5), true},
		{at(0, 0), at(4, 0), at(0, 1), at(4, 1), false},
		{at(0, 0), at(4, 0), at(5, -1), at(5, 1), false},
		{at(1, 1), at(1, 1), at(0, 0), at(3, 3), true},
		{at(1, 1), at(1, 1), at(2, 2), at(3, 3), false},
		{at(1, 1), at(1, 1), at(1, 1), at(1, 1), true},
		{at(1, 1), at(1, 1), at(2, 2), at(2, 2), false},
		{at(-side, -side), at(side, side), at(-side, side), at(side, -side), true},
		{at(-side, -side), at(side, side), at(side-1, side), at(side, side), true},
		{at(-side, -side), at(side-1, side-1), at(side-1, side), at(side, side-1), false},
		{at(-side, -side), at(side, side), at(side-1, side), at(side, side-1), true},
		{at(math.MaxInt, 0), at(1<<40, 5), at(side, 3), at(0, 3), true},
		{at(math.MaxInt, 0), at(1<<40, 5), at(side-1, 3), at(0, 3), false},
	} {
		if got := Meet(c.a, c.b, c.c, c.d); got != c.want {
			t.Errorf("Meet(%v, %v, %v, %v) = %v", c.a, c.b, c.c, c.d, got)
		}
	}
}

// TestMeetByShares holds P2.2's first half and, as each four is gone over in all orders, P2.4's second sentence.
func TestMeetByShares(t *testing.T) {
	check := func(a, b, c, d api.Point) {
		want := share(a, b, c, d)
		if Meet(a, b, c, d) != want || Meet(c, d, a, b) != want || Meet(b, a, c, d) != want || Meet(a, b, d, c) != want {
			t.Errorf("Meet(%v, %v, %v, %v), or turned, isn't %v", a, b, c, d, want)
		}
	}
	small := square(0, 3)
	for _, l := range [][]api.Point{small, edges()[:14], edges()[14:]} {
		for _, a := range l {
			for _, b := range l {
				for _, c := range l {
					for _, d := range l {
						check(a, b, c, d)
					}
				}
			}
		}
	}
}

func TestTouchTable(t *testing.T) {
	for _, c := range []struct {
		a, b           api.Point
		x0, z0, x1, z1 int
		want           bool
	}{
		{at(0, 0), at(4, 4), 3, 1, 5, 3, true},
		{at(0, 0), at(4, 4), 4, 1, 6, 3, false},
		// Wholly within, one end within, through and through.
		{at(1, 1), at(2, 2), 0, 0, 5, 5, true},
		{at(1, 1), at(9, 2), 0, 0, 5, 5, true},
		{at(9, 2), at(1, 1), 0, 0, 5, 5, true},
		{at(-1, 2), at(9, 2), 0, 0, 5, 5, true},
		{at(2, -1), at(2, 9), 0, 0, 5, 5, true},
		// Along a side, up to one, beside one.
		{at(-1, 5), at(9, 5), 0, 0, 5, 5, true},
		{at(-1, 0), at(9, 0), 0, 0, 5, 5, true},
		{at(0, 6), at(0, 9), 0, 0, 5, 5, false},
		{at(7, 3), at(5, 3), 0, 0, 5, 5, true},
		{at(7, 3), at(6, 3), 0, 0, 5, 5, false},
		{at(6, 0), at(6, 5), 0, 0, 5, 5, false},
		// Each corner, by a segment that goes by it aslant, and by one that misses it.
		{at(-1, 1), at(1, -1), 0, 0, 5, 5, true},
		{at(-2, 1), at(1, -2), 0, 0, 5, 5, false},
		{at(4, -1), at(6, 1), 0, 0, 5, 5, true},
		{at(4, -2), at(7, 1), 0, 0, 5, 5, false},
		{at(6, 4), at(4, 6), 0, 0, 5, 5, true},
		{at(7, 4), at(4, 7), 0, 0, 5, 5, false},
		{at(-1, 4), at(1, 6), 0, 0, 5, 5, true},
		{at(-2, 4), at(1, 7), 0, 0, 5, 5, false},
		// Segments that are points.
		{at(3, 3), at(3, 3), 0, 0, 5, 5, true},
		{at(5, 5), at(5, 5), 0, 0, 5, 5, true},
		{at(0, 3), at(0, 3), 0, 0, 5, 5, true},
		{at(6, 3), at(6, 3), 0, 0, 5, 5, false},
		// Squares that are a point, a line, or none.
		{at(2, 2), at(2, 2), 2, 2, 2, 2, true},
		{at(0, 0), at(4, 4), 2, 2, 2, 2, true},
		{at(0, 0), at(4, 5), 2, 2, 2, 2, false},
		{at(0, 0), at(4, 4), 2, 0, 2, 9, true},
		{at(0, 0), at(4, 4), 2, 3, 2, 9, false},
		{at(0, 0), at(4, 4), 0, 2, 9, 2, true},
		{at(2, 2), at(2, 2), 3, 2, 2, 2, false},
		{at(2, 2), at(2, 2), 2, 3, 2, 2, false},
		{at(0, 0), at(9, 9), 5, 5, 2, 2, false},
		// At the bound and beyond it, where what was none may be one.
		{at(-side, -side), at(side, side), side, side, side, side, true},
		{at(-side, -side), at(side, side-1), side, side, side, side, false},
		{at(0, 0), at(math.MaxInt, math.MaxInt), 1 << 50, 1 << 60, 1 << 40, 1 << 50, true},
		{at(0, 0), at(math.MinInt, math.MinInt), -side, math.MaxInt, math.MinInt, math.MaxInt, false},
		{at(3, 3), at(3, 3), math.MinInt, math.MinInt, math.MaxInt, math.MaxInt, true},
		{at(3, 3), at(3, 3), math.MaxInt, math.MinInt, math.MinInt, math.MaxInt, false},
		{at(side+1, 0), at(side+9, 9), side, 3, side, 3, true},
	} {
		if got := Touch(c.a, c.b, c.x0, c.z0, c.x1, c.z1); got != c.want {
			t.Errorf("Touch(%v, %v, %d, %d, %d, %d) = %v", c.a, c.b, c.x0, c.z0, c.x1, c.z1, got)
		}
	}
}

func TestTouchByShares(t *testing.T) {
	check := func(a, b api.Point, lo, hi api.Point) {
		if got, want := Touch(a, b, lo.X, lo.Z, hi.X, hi.Z), reaches(a, b, lo.X, lo.Z, hi.X, hi.Z); got != want {
			t.Errorf("Touch(%v, %v, %v to %v) = %v", a, b, lo, hi, got)
		}
	}
	l := square(0, 4)
	for _, a := range l {
		for _, b := range l {
			for _, lo := range square(1, 3) {
				for _, hi := range square(0, 3) {
					check(a, b, lo, hi)
				}
			}
		}
	}
	some := edges()
	for _, a := range some {
		for _, b := range some {
			for _, lo := range some {
				for _, hi := range some {
					check(a, b, lo, hi)
				}
			}
		}
	}
}

func TestStraightTable(t *testing.T) {
	for _, c := range []struct{ l, want []api.Point }{
		{nil, nil},
		{[]api.Point{}, nil},
		{[]api.Point{at(1, 1)}, []api.Point{at(1, 1)}},
		{[]api.Point{at(5, 5), at(5, 5)}, []api.Point{at(5, 5)}},
		{[]api.Point{at(5, 5), at(5, 5), at(5, 5), at(5, 5)}, []api.Point{at(5, 5)}},
		{[]api.Point{at(0, 0), at(2, 2)}, []api.Point{at(0, 0), at(2, 2)}},
		{[]api.Point{at(0, 0), at(1, 0), at(2, 0), at(2, 2)}, []api.Point{at(0, 0), at(2, 0), at(2, 2)}},
		{[]api.Point{at(0, 0), at(1, 2), at(2, 4), at(3, 6), at(4, 8)}, []api.Point{at(0, 0), at(4, 8)}},
		{[]api.Point{at(0, 0), at(0, 0), at(2, 0)}, []api.Point{at(0, 0), at(2, 0)}},
		{[]api.Point{at(0, 0), at(2, 2), at(4, 4), at(4, 4)}, []api.Point{at(0, 0), at(4, 4)}},
		// A way that turns back keeps the place where it turns, though it comes over it, or home, again.
		{[]api.Point{at(0, 0), at(3, 0), at(2, 0)}, []api.Point{at(0, 0), at(3, 0), at(2, 0)}},
		{[]api.Point{at(0, 0), at(1, 0), at(0, 0)}, []api.Point{at(0, 0), at(1, 0), at(0, 0)}},
		{[]api.Point{at(0, 0), at(1, 0), at(1, 0), at(0, 0)}, []api.Point{at(0, 0), at(1, 0), at(0, 0)}},
		{[]api.Point{at(0, 0), at(1, 0), at(2, 0), at(1, 0), at(0, 0)}, []api.Point{at(0, 0), at(2, 0), at(0, 0)}},
		{[]api.Point{at(0, 0), at(0, 0), at(1, 1), at(1, 1), at(0, 0), at(0, 0)}, []api.Point{at(0, 0), at(1, 1), at(0, 0)}},
		{[]api.Point{at(0, 0), at(1, 0), at(1, 1), at(1, 0), at(2, 0)}, []api.Point{at(0, 0), at(1, 0), at(1, 1), at(1, 0), at(2, 0)}},
		// At the bound and beyond it, where points become the same, or fall on a line.
		{[]api.Point{at(-side, -side), at(0, 0), at(side, side)}, []api.Point{at(-side, -side), at(side, side)}},
		{[]api.Point{at(-side, -side), at(0, 1), at(side, side)}, []api.Point{at(-side, -side), at(0, 1), at(side, side)}},
		{[]api.Point{at(side, 0), at(side+1, 0), at(1<<40, 0)}, []api.Point{at(side, 0)}},
		{[]api.Point{at(0, 0), at(1<<40, 0), at(1<<50, 4)}, []api.Point{at(0, 0), at(side, 0), at(side, 4)}},
		{[]api.Point{at(1<<40, 0), at(1<<50, 4), at(side, 9)}, []api.Point{at(side, 0), at(side, 9)}},
		{[]api.Point{at(math.MinInt, math.MaxInt)}, []api.Point{at(-side, side)}},
	} {
		if got := Straight(c.l); !slices.Equal(got, c.want) {
			t.Errorf("Straight(%v) = %v; want %v", c.l, got, c.want)
		}
	}
}

// bends tells Straight by the ways' directions: what goes on as it came is no bend.
func bends(l []api.Point) []api.Point {
	var row, out []api.Point
	for _, p := range l {
		if p = broughtPoint(p); len(row) == 0 || row[len(row)-1] != p {
			row = append(row, p)
		}
	}
	for i, p := range row {
		if i > 0 && i < len(row)-1 {
			came, goes := way(row[i-1], p), way(p, row[i+1])
			if cross(came, goes) == 0 && dot(came, goes) > 0 {
				continue
			}
		}
		out = append(out, p)
	}
	return out
}

// rows calls see with each row of n of those points.
func rows(points []api.Point, n int, see func(l []api.Point)) {
	l := make([]api.Point, 0, n)
	var more func()
	more = func() {
		if len(l) == n {
			see(l)
			return
		}
		for _, p := range points {
			l = append(l, p)
			more()
			l = l[:len(l)-1]
		}
	}
	more()
}

// checkStraight holds P2.3 by directions, and P2.4's last sentence.
func checkStraight(t *testing.T, l []api.Point) {
	got := Straight(l)
	if !slices.Equal(got, bends(l)) {
		t.Errorf("Straight(%v) = %v; want %v", l, got, bends(l))
		return
	}
	if len(l) > 0 && (got[0] != broughtPoint(l[0]) || got[len(got)-1] != broughtPoint(l[len(l)-1])) {
		t.Errorf("Straight(%v) = %v has other ends", l, got)
	}
	for i := 1; i+1 < len(got); i++ {
		if lies(got[i-1], got[i+1], got[i]) {
			t.Errorf("Straight(%v) = %v: %v lies on the way", l, got, got[i])
		}
	}
	if again := Straight(got); !slices.Equal(again, got) {
		t.Errorf("Straight(%v) = %v, done again %v", l, got, again)
	}
}

func TestStraightOfAllSmallRows(t *testing.T) {
	line := []api.Point{at(0, 0), at(1, 0), at(2, 0), at(3, 0)}
	plane := []api.Point{at(0, 0), at(1, 0), at(2, 0), at(0, 1), at(1, 1), at(2, 2)}
	far := []api.Point{at(math.MinInt, 0), at(-side, 0), at(0, 0), at(side-1, 0), at(side+1, 0), at(1<<40, 1<<40)}
	for n := range 6 {
		for _, points := range [][]api.Point{line, plane, far} {
			rows(points, n, func(l []api.Point) { checkStraight(t, l) })
		}
	}
	rows(line, 7, func(l []api.Point) { checkStraight(t, l) })
}

func TestStraightOfALongRow(t *testing.T) {
	var l, want []api.Point
	for i := range 50000 {
		l = append(l, at(i, 0))
	}
	if got := Straight(l); !slices.Equal(got, []api.Point{at(0, 0), at(49999, 0)}) {
		t.Errorf("of a straight one %d are left", len(got))
	}
	for i := range 50000 {
		want = append(want, at(i, i*i%7))
	}
	if got := Straight(want); !slices.Equal(got, bends(want)) {
		t.Errorf("of one that bends %d are left; want %d", len(got), len(bends(want)))
	}
}

// TestStraightKeepsToItself holds R4: what is handed in stays, its spare room too, and the answer is new memory.
func TestStraightKeepsToItself(t *testing.T) {
	for _, n := range []int{0, 1, 2, 3, 6} {
		own := []api.Point{at(0, 0), at(1, 0), at(1<<40, 0), at(2, 0), at(2, 0), at(2, 5), at(7, 7), at(8, 8)}
		was := slices.Clone(own)
		got := Straight(own[:n])
		if !slices.Equal(own, was) {
			t.Errorf("Straight of %v made it %v", was[:n], own)
		}
		left := slices.Clone(got)
		clear(own)
		if !slices.Equal(got, left) {
			t.Errorf("an answer of %v changed with what was handed in", was[:n])
		}
		if cap(got) != len(got) {
			t.Errorf("an answer of %v has spare room for %d", was[:n], cap(got)-len(got))
		}
	}
}

// TestAtAllNumbers holds R1: that each call ends without a panic, and that numbers beyond the bound count as the bound.
func TestAtAllNumbers(t *testing.T) {
	for _, p := range oddPoints() {
		b := broughtPoint(p)
		a, c, d := at(-5, 3), at(4, -9), at(1, 0)
		if Turn(p, a, c) != Turn(b, a, c) || Turn(a, p, c) != Turn(a, b, c) || Turn(a, c, p) != Turn(a, c, b) {
			t.Errorf("Turn tells %v from %v", p, b)
		}
		if On(p, a, d) != On(b, a, d) || On(a, p, d) != On(a, b, d) || On(a, d, p) != On(a, d, b) || !On(a, p, b) || !On(p, a, b) || !On(b, a, p) {
			t.Errorf("On tells %v from %v", p, b)
		}
		if Meet(p, a, c, d) != Meet(b, a, c, d) || Meet(a, p, c, d) != Meet(a, b, c, d) || Meet(c, d, p, a) != Meet(c, d, b, a) || Meet(c, d, a, p) != Meet(c, d, a, b) || !Meet(a, p, b, c) {
			t.Errorf("Meet tells %v from %v", p, b)
		}
		if Far(p, a) != Far(b, a) || Far(a, p) != Far(a, b) || Far(p, b) != 0 {
			t.Errorf("Far tells %v from %v", p, b)
		}
		if Touch(a, c, p.X, p.Z, 2, 2) != Touch(a, c, b.X, b.Z, 2, 2) || Touch(a, c, 0, -5, p.X, p.Z) != Touch(a, c, 0, -5, b.X, b.Z) || Touch(p, a, -1, -1, 1, 1) != Touch(b, a, -1, -1, 1, 1) || !Touch(a, p, b.X, b.Z, p.X, p.Z) || !Touch(p, a, b.X, b.Z, p.X, p.Z) {
			t.Errorf("Touch tells %v from %v", p, b)
		}
	}
}
