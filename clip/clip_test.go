package clip

import (
	"math"
	"math/big"
	"slices"
	"testing"

	"footpath/api"
)

const (
	edge = 32   // the greatest X and Z, and the greatest number of a column
	high = 2048 // the greatest height
)

// orders are the ways to lay three corners.
var orders = [6][3]int{{0, 1, 2}, {0, 2, 1}, {1, 0, 2}, {1, 2, 0}, {2, 0, 1}, {2, 1, 0}}

// extremes are such as run over if one adds to them, doubles them or turns them round.
var extremes = []int{math.MinInt, math.MinInt + 1, math.MinInt / 2, -1 << 40, -1 << 32, 1 << 32, 1<<32 + 1, 1 << 40, 1 << 62, math.MaxInt - 1, math.MaxInt}

func v(x, y, z int) api.Vertex { return api.Vertex{X: x, Y: y, Z: z} }

func of(a, b, c api.Vertex) api.Tri { return api.Tri{Id: 1, V: [3]api.Vertex{a, b, c}} }

// laid has the corners in another order.
func laid(t api.Tri, order [3]int) api.Tri {
	return api.Tri{Id: t.Id, V: [3]api.Vertex{t.V[order[0]], t.V[order[1]], t.V[order[2]]}}
}

func moved(t api.Tri, by api.Vertex) api.Tri {
	for i, p := range t.V {
		t.V[i] = v(p.X+by.X, p.Y+by.Y, p.Z+by.Z)
	}
	return t
}

// doubled is twice the area that the triangle has, seen from above: below 0 for one way round, 0 for a line.
func doubled(t api.Tri) int {
	a, b, c := t.V[0], t.V[1], t.V[2]
	return (a.X-c.X)*(b.Z-c.Z) - (b.X-c.X)*(a.Z-c.Z)
}

// chapter is the chapter's own triangle, of height X.
func chapter() api.Tri { return of(v(0, 0, 0), v(2, 2, 0), v(0, 0, 2)) }

// place is a point of space in wide fractions.
type place struct{ x, z, y *big.Rat }

func number(n int) *big.Rat { return big.NewRat(int64(n), 1) }

// toward is the point of the way from p to q at which so much of it is gone.
func (p place) toward(q place, share *big.Rat) place {
	some := func(m, n *big.Rat) *big.Rat {
		way := new(big.Rat).Sub(n, m)
		return way.Add(m, way.Mul(way, share))
	}
	return place{some(p.x, q.x), some(p.z, q.z), some(p.y, q.y)}
}

// cut leaves of a flat piece what lies where off is not below 0: its corners, gone round one by one, and where its rim goes over.
func cut(piece []place, off func(place) *big.Rat) []place {
	var left []place
	for i, p := range piece {
		q := piece[(i+1)%len(piece)]
		m, n := off(p), off(q)
		if m.Sign() >= 0 {
			left = append(left, p)
		}
		if m.Sign()*n.Sign() < 0 {
			way := new(big.Rat).Sub(m, n)
			left = append(left, p.toward(q, way.Quo(m, way)))
		}
	}
	return left
}

// cutTo leaves of a piece what lies from x0, z0 to x1, z1, each corner once, by rising x, then z.
func cutTo(piece []place, x0, z0, x1, z1 int) []place {
	piece = cut(piece, func(p place) *big.Rat { return new(big.Rat).Sub(p.x, number(x0)) })
	piece = cut(piece, func(p place) *big.Rat { return new(big.Rat).Sub(number(x1), p.x) })
	piece = cut(piece, func(p place) *big.Rat { return new(big.Rat).Sub(p.z, number(z0)) })
	piece = cut(piece, func(p place) *big.Rat { return new(big.Rat).Sub(number(z1), p.z) })
	order := func(p, q place) int {
		if d := p.x.Cmp(q.x); d != 0 {
			return d
		}
		return p.z.Cmp(q.z)
	}
	slices.SortFunc(piece, order)
	return slices.CompactFunc(piece, func(p, q place) bool { return order(p, q) == 0 })
}

func surface(t api.Tri) []place {
	var l []place
	for _, p := range t.V {
		l = append(l, place{number(p.X), number(p.Z), number(p.Y)})
	}
	return l
}

func floorOf(r *big.Rat) int {
	return int(new(big.Int).Div(r.Num(), r.Denom()).Int64()) // big's Div leaves 0 or more
}

func ceilOf(r *big.Rat) int { return -floorOf(new(big.Rat).Neg(r)) }

// heights are those of a piece; false, if it is none.
func heights(piece []place) (lo, hi int, ok bool) {
	if len(piece) == 0 {
		return 0, 0, false
	}
	least, most := piece[0].y, piece[0].y
	for _, p := range piece {
		if p.y.Cmp(least) < 0 {
			least = p.y
		}
		if p.y.Cmp(most) > 0 {
			most = p.y
		}
	}
	return floorOf(least), ceilOf(most), true
}

// divides tells the greatest number that divides all of a corner.
func divides(c api.Corner) int {
	d := new(big.Int)
	for _, n := range []int{c.X, c.Z, c.Y, c.Den} {
		d.GCD(nil, nil, d, new(big.Int).Abs(big.NewInt(int64(n))))
	}
	return int(d.Int64())
}

func isCorner(c api.Corner, p place) bool {
	if c.Den < 1 || divides(c) != 1 {
		return false
	}
	den := int64(c.Den)
	return big.NewRat(int64(c.X), den).Cmp(p.x) == 0 && big.NewRat(int64(c.Z), den).Cmp(p.z) == 0 && big.NewRat(int64(c.Y), den).Cmp(p.y) == 0
}

// checkColumn holds Over and Corners against what the triangle is cut down to, its corners laid in each order.
func checkColumn(t *testing.T, x api.Tri, cx, cz int) {
	t.Helper()
	piece := cutTo(surface(x), cx, cz, cx+1, cz+1)
	lo, hi, ok := heights(piece)
	for _, order := range orders {
		y := laid(x, order)
		if gotLo, gotHi, gotOk, e := Over(y, cx, cz); gotLo != lo || gotHi != hi || gotOk != ok || e != api.OK {
			t.Fatalf("Over(%v, %d, %d) = %d, %d, %v, %v; want %d, %d, %v", y, cx, cz, gotLo, gotHi, gotOk, e, lo, hi, ok)
		}
		l, e := Corners(y, cx, cz)
		if e != api.OK || !slices.EqualFunc(l, piece, isCorner) {
			t.Fatalf("Corners(%v, %d, %d) = %v, %v; want %v", y, cx, cz, l, e, piece)
		}
	}
}

// checkColumns holds a triangle over all columns from x0, z0 to x1, z1.
func checkColumns(t *testing.T, x api.Tri, x0, z0, x1, z1 int) {
	t.Helper()
	for cz := z0; cz <= z1; cz++ {
		for cx := x0; cx <= x1; cx++ {
			checkColumn(t, x, cx, cz)
		}
	}
}

// small are the triangles of three corners within 3 by 3 columns, each at heights of its own, those below 0 among them.
func small(visit func(api.Tri)) {
	corner := func(n int) api.Vertex { return v(n%4, n*n*7%23-11, n/4) }
	for i := range 16 {
		for j := range i {
			for k := range j {
				if x := of(corner(i), corner(j), corner(k)); doubled(x) != 0 {
					visit(x)
				}
			}
		}
	}
}

// wide are triangles that take up much of what may be: flat ones, steep ones, long and thin ones, with heights of great divisors.
func wide() []api.Tri {
	return []api.Tri{
		of(v(0, 0, 0), v(edge, 0, 0), v(0, 0, edge)),
		of(v(0, -5, 0), v(edge, -5, 0), v(edge, -5, edge)),
		of(v(0, -high, 0), v(edge, high, 0), v(0, high, edge)),
		of(v(0, high, edge), v(edge, -high, 0), v(edge, high, edge)),
		of(v(0, -high, 0), v(edge, -high, edge), v(0, high, edge)),
		of(v(0, high, 0), v(edge, -high, edge), v(edge-1, high, edge)),
		of(v(0, -high, 0), v(edge, high, 1), v(edge-1, -high, 1)),
		of(v(0, 0, edge), v(edge, 1, 0), v(edge-1, 0, 0)),
		of(v(0, 0, 0), v(edge, 1, 1), v(edge-1, 0, edge)),
		of(v(0, -1, 1), v(1, -2, edge), v(edge, -3, 0)),
		of(v(3, -17, 29), v(30, 5, 2), v(11, 1000, 13)),
		of(v(5, 7, 5), v(12, -9, 6), v(6, 3, 19)),
		of(v(0, 4, 16), v(edge, -3, 16), v(17, 1, 17)),
		of(v(31, high, 32), v(32, -high, 31), v(32, -high, 32)),
	}
}

// P7.1: the examples of the chapter, and the columns round them.
func TestOverTable(t *testing.T) {
	inner := of(v(5, 1, 5), v(6, 2, 5), v(5, -3, 6))
	thirds := of(v(0, -1, 0), v(3, -2, 0), v(0, -1, 3))
	vast := of(v(0, 0, 0), v(edge, 2*edge, 0), v(0, 0, edge))
	for _, c := range []struct {
		name         string
		t            api.Tri
		x, z, lo, hi int
		ok           bool
	}{
		{"the chapter's first", chapter(), 0, 0, 0, 1, true},
		{"the chapter's second", chapter(), 1, 0, 1, 2, true},
		{"the chapter's third: a point of a side alone", chapter(), 1, 1, 1, 1, true},
		{"a corner alone", chapter(), -1, -1, 0, 0, true},
		{"a corner alone", chapter(), 2, 0, 2, 2, true},
		{"a corner alone", chapter(), 2, -1, 2, 2, true},
		{"a corner alone", chapter(), 0, 2, 0, 0, true},
		{"a corner alone", chapter(), -1, 2, 0, 0, true},
		{"a piece of a side", chapter(), -1, 0, 0, 0, true},
		{"a piece of a side", chapter(), -1, 1, 0, 0, true},
		{"a piece of a side", chapter(), 0, -1, 0, 1, true},
		{"a piece of a side", chapter(), 1, -1, 1, 2, true},
		{"half a column", chapter(), 0, 1, 0, 1, true},
		{"just beside a side", chapter(), 2, 1, 0, 0, false},
		{"just beside a side", chapter(), 1, 2, 0, 0, false},
		{"just beside a corner", chapter(), 3, 0, 0, 0, false},
		{"just beside a corner", chapter(), 0, 3, 0, 0, false},
		{"between its bounds, and none of it there", chapter(), 2, 2, 0, 0, false},
		{"all of it", inner, 5, 5, -3, 2, true},
		{"a whole side", inner, 4, 5, -3, 1, true},
		{"a whole side", inner, 5, 4, 1, 2, true},
		{"its slanting side's ends alone: the upper", inner, 6, 5, 2, 2, true},
		{"its slanting side's ends alone: the lower", inner, 5, 6, -3, -3, true},
		{"beside the slanting side", inner, 6, 6, 0, 0, false},
		{"beside it", inner, 7, 5, 0, 0, false},
		{"beside it", inner, 3, 5, 0, 0, false},
		{"from -4/3 to -1", thirds, 0, 0, -2, -1, true},
		{"from -5/3 to -4/3", thirds, 1, 0, -2, -1, true},
		{"from -2 to -5/3", thirds, 2, 0, -2, -1, true},
		{"-4/3 and -5/3 alone, at a slanting side's points", thirds, 1, 1, -2, -1, true},
		{"-4/3 alone", thirds, 1, 2, -2, -1, true},
		{"-5/3 alone", thirds, 2, 1, -2, -1, true},
		{"-4/3, above it", moved(thirds, v(0, 3, 0)), 1, 2, 1, 2, true},
		{"wholly within", vast, 3, 4, 6, 8, true},
		{"wholly within, with a corner on a side", vast, 15, 15, 30, 32, true},
		{"the world's far corner, off it", vast, edge, edge, 0, 0, false},
		{"beyond the world, a corner", vast, edge, 0, 2 * edge, 2 * edge, true},
		{"beyond the world, a corner", vast, 0, edge, 0, 0, true},
		{"beyond the world, a corner", vast, -1, edge, 0, 0, true},
		{"the greatest height", of(v(0, high, 0), v(1, high, 0), v(0, high, 1)), 0, 0, high, high, true},
		{"the least height", of(v(0, -high, 0), v(1, -high, 0), v(0, -high, 1)), -1, 0, -high, -high, true},
		{"the steepest", of(v(0, -high, 0), v(1, high, 0), v(0, high, 1)), 0, 0, -high, high, true},
		{"the steepest, one side of it", of(v(0, -high, 0), v(1, high, 0), v(0, high, 1)), 0, -1, -high, high, true},
		{"in the far corner of the world", of(v(31, 1, 32), v(32, 2, 31), v(32, 3, 32)), 32, 32, 3, 3, true},
	} {
		for _, order := range orders {
			lo, hi, ok, e := Over(laid(c.t, order), c.x, c.z)
			if lo != c.lo || hi != c.hi || ok != c.ok || e != api.OK {
				t.Errorf("%s: Over(%v, %d, %d) = %d, %d, %v, %v; want %d, %d, %v", c.name, laid(c.t, order), c.x, c.z, lo, hi, ok, e, c.lo, c.hi, c.ok)
			}
		}
	}
}

// numbers are the corners' X, Z, Y and Den.
func numbers(l []api.Corner) [][4]int {
	var rows [][4]int
	for _, p := range l {
		rows = append(rows, [4]int{p.X, p.Z, p.Y, p.Den})
	}
	return rows
}

// P7.2: corners of each kind, such as come up more than once, fractions of unlike divisors, heights below 0.
func TestCornersTable(t *testing.T) {
	slope := of(v(0, 0, 0), v(3, 2, 0), v(0, 0, 3))
	deep := of(v(0, -1, 0), v(7, -1, 0), v(0, -2, 5))
	kite := of(v(0, 0, 0), v(3, 0, 1), v(2, 0, 2))
	even := of(v(0, -6, 0), v(4, -4, 0), v(0, -6, 4))
	for _, c := range []struct {
		name string
		t    api.Tri
		x, z int
		want [][4]int // X, Z, Y, Den
	}{
		{"a corner of both", chapter(), 0, 0, [][4]int{{0, 0, 0, 1}, {0, 1, 0, 1}, {1, 0, 1, 1}, {1, 1, 1, 1}}},
		{"a side through two of the column's corners", chapter(), 1, 0, [][4]int{{1, 0, 1, 1}, {1, 1, 1, 1}, {2, 0, 2, 1}}},
		{"a side's point at the column's corner", chapter(), 1, 1, [][4]int{{1, 1, 1, 1}}},
		{"one of its corners", chapter(), 2, 0, [][4]int{{2, 0, 2, 1}}},
		{"a piece of a side that lies in the column's", chapter(), 0, -1, [][4]int{{0, 0, 0, 1}, {1, 0, 1, 1}}},
		{"a side at the end of the column's", chapter(), 2, -1, [][4]int{{2, 0, 2, 1}}},
		{"none", chapter(), 2, 1, nil},
		{"none, between its bounds", chapter(), 2, 2, nil},
		{"heights by thirds", slope, 1, 1, [][4]int{{3, 3, 2, 3}, {3, 6, 2, 3}, {6, 3, 4, 3}}},
		{"wholly within", slope, 0, 0, [][4]int{{0, 0, 0, 1}, {0, 1, 0, 1}, {3, 0, 2, 3}, {3, 3, 2, 3}}},
		{"all of it", of(v(5, 1, 5), v(6, 2, 5), v(5, -3, 6)), 5, 5, [][4]int{{5, 5, 1, 1}, {5, 6, -3, 1}, {6, 5, 2, 1}}},
		{"two crossings, and an order that isn't that of what stands above the line", deep, 5, 0, [][4]int{{5, 0, -1, 1}, {25, 5, -6, 5}, {28, 5, -6, 5}, {6, 0, -1, 1}, {42, 5, -8, 7}}},
		{"a crossing ahead of a corner", deep, 6, 0, [][4]int{{6, 0, -1, 1}, {42, 5, -8, 7}, {7, 0, -1, 1}}},
		{"by rising Z, too", kite, 1, 0, [][4]int{{3, 1, 0, 3}, {1, 1, 0, 1}, {6, 2, 0, 3}, {2, 1, 0, 1}}},
		{"a corner that is a side's way through the column's", kite, 0, 0, [][4]int{{0, 0, 0, 1}, {3, 1, 0, 3}, {1, 1, 0, 1}}},
		{"divisors that go down to 2, and to 1", even, 1, 0, [][4]int{{2, 0, -11, 2}, {2, 2, -11, 2}, {2, 0, -5, 1}, {2, 1, -5, 1}}},
		{"a height of 0 between others", moved(even, v(0, 5, 0)), 1, 2, [][4]int{{2, 4, -1, 2}, {2, 6, -1, 2}, {2, 2, 0, 1}}},
		{"beyond the world", of(v(32, -high, 32), v(31, 0, 32), v(32, 0, 31)), 32, 32, [][4]int{{32, 32, -high, 1}}},
		{"beyond the world, a whole side", of(v(32, -high, 32), v(31, 0, 32), v(32, high, 31)), 32, 31, [][4]int{{32, 31, high, 1}, {32, 32, -high, 1}}},
		{"ahead of the world", of(v(0, high, 0), v(1, 0, 0), v(0, 0, 1)), -1, -1, [][4]int{{0, 0, high, 1}}},
	} {
		for _, order := range orders {
			l, e := Corners(laid(c.t, order), c.x, c.z)
			if !slices.Equal(numbers(l), c.want) || e != api.OK {
				t.Errorf("%s: Corners(%v, %d, %d) = %v, %v; want %v", c.name, laid(c.t, order), c.x, c.z, l, e, c.want)
			}
		}
	}
}

// P7.1, P7.2: all triangles of three corners within 3 by 3 columns, over all columns there and round them, at each end of the world.
func TestSmallTriangles(t *testing.T) {
	small(func(x api.Tri) {
		checkColumns(t, x, -1, -1, 4, 4)
	})
	n := 0
	small(func(x api.Tri) {
		if n++; n%5 == 0 {
			checkColumns(t, moved(x, v(edge-3, high-12, edge-3)), edge-4, edge-4, edge, edge)
		}
	})
}

// P7.1, P7.2: triangles that take up much of what may be, over all columns.
func TestWideTriangles(t *testing.T) {
	for _, x := range wide() {
		checkColumns(t, x, -1, -1, edge, edge)
	}
}

// P7.1: heights at inner points of great divisors: over each column they are the nearest whole ones that hold them.
func TestHeightsAreAsNearAsTheyMayBe(t *testing.T) {
	for _, x := range wide() {
		for cz := range edge {
			for cx := range edge {
				l, _ := Corners(x, cx, cz)
				lo, hi, ok, e := Over(x, cx, cz)
				if e != api.OK || ok != (len(l) > 0) {
					t.Fatalf("Over(%v, %d, %d): %v, %v; Corners: %v", x, cx, cz, ok, e, l)
				}
				if !ok {
					continue
				}
				least, most := false, false
				for _, p := range l {
					if p.Y < lo*p.Den || p.Y > hi*p.Den {
						t.Fatalf("Over(%v, %d, %d) = %d, %d: %v is beyond", x, cx, cz, lo, hi, p)
					}
					least, most = least || p.Y < (lo+1)*p.Den, most || p.Y > (hi-1)*p.Den
				}
				if !least || !most {
					t.Fatalf("Over(%v, %d, %d) = %d, %d is wider than %v", x, cx, cz, lo, hi, l)
				}
			}
		}
	}
}

func TestColumnsTable(t *testing.T) {
	for _, c := range []struct {
		t    api.Tri
		want [4]int
	}{
		{chapter(), [4]int{-1, -1, 2, 2}},
		{of(v(5, 0, 9), v(6, 0, 9), v(6, 0, 10)), [4]int{4, 8, 6, 10}},
		{of(v(3, 9, 20), v(11, -9, 17), v(7, 0, 30)), [4]int{2, 16, 11, 30}},
		{of(v(0, high, 0), v(edge, -high, 0), v(edge, 0, edge)), [4]int{-1, -1, edge, edge}},
		{of(v(31, 0, 0), v(32, 0, 0), v(32, 0, 32)), [4]int{30, -1, 32, 32}},
		{of(v(0, 0, 31), v(32, 0, 31), v(1, 0, 32)), [4]int{-1, 30, 32, 32}},
	} {
		for _, order := range orders {
			x0, z0, x1, z1, e := Columns(laid(c.t, order))
			if got := [4]int{x0, z0, x1, z1}; got != c.want || e != api.OK {
				t.Errorf("Columns(%v) = %v, %v; want %v", laid(c.t, order), got, e, c.want)
			}
		}
	}
}

// checkFrame holds that of a triangle there is something over a column of each outermost row that Columns tells, and nothing over the rows just beyond them.
func checkFrame(t *testing.T, x api.Tri) {
	t.Helper()
	x0, z0, x1, z1, e := Columns(x)
	if e != api.OK || x0 < -1 || z0 < -1 || x1 > edge || z1 > edge {
		t.Fatalf("Columns(%v) = %d, %d, %d, %d, %v", x, x0, z0, x1, z1, e)
	}
	some := func(fromX, fromZ, toX, toZ int) bool {
		for cz := max(fromZ, -1); cz <= min(toZ, edge); cz++ {
			for cx := max(fromX, -1); cx <= min(toX, edge); cx++ {
				if _, _, ok, _ := Over(x, cx, cz); ok {
					return true
				}
			}
		}
		return false
	}
	if !some(x0, -1, x0, edge) || !some(x1, -1, x1, edge) || !some(-1, z0, edge, z0) || !some(-1, z1, edge, z1) {
		t.Errorf("%v: an outermost row of %d, %d to %d, %d has nothing over it", x, x0, z0, x1, z1)
	}
	if some(x0-1, -1, x0-1, edge) || some(x1+1, -1, x1+1, edge) || some(-1, z0-1, edge, z0-1) || some(-1, z1+1, edge, z1+1) {
		t.Errorf("%v: a row beyond %d, %d to %d, %d has something over it", x, x0, z0, x1, z1)
	}
}

func TestColumnsHoldAllAndNoMore(t *testing.T) {
	small(func(x api.Tri) {
		checkFrame(t, x)
		checkFrame(t, moved(x, v(edge-3, 0, edge-3)))
		checkFrame(t, moved(x, v(9, 0, 20)))
	})
	for _, x := range wide() {
		checkFrame(t, x)
	}
}

// checkRefused asks all calls; Over and Corners at a column that may not be, too: the triangle is told of first.
func checkRefused(t *testing.T, x api.Tri) {
	t.Helper()
	for _, order := range orders {
		y := laid(x, order)
		if x0, z0, x1, z1, e := Columns(y); x0 != 0 || z0 != 0 || x1 != 0 || z1 != 0 || e != api.ErrTri {
			t.Errorf("Columns(%v) = %d, %d, %d, %d, %v", y, x0, z0, x1, z1, e)
		}
		for _, c := range [][2]int{{0, 0}, {-1, edge}, {-2, 0}, {0, edge + 1}, {math.MinInt, math.MaxInt}} {
			checkAnswer(t, y, c[0], c[1], api.ErrTri)
		}
	}
}

// checkAnswer asks for an error of Over and of Corners, and for nothing beside it.
func checkAnswer(t *testing.T, x api.Tri, cx, cz int, want api.Errno) {
	t.Helper()
	lo, hi, ok, e := Over(x, cx, cz)
	if e != want || e != api.OK && (lo != 0 || hi != 0 || ok) {
		t.Errorf("Over(%v, %d, %d) = %d, %d, %v, %v; want %v", x, cx, cz, lo, hi, ok, e, want)
	}
	l, e := Corners(x, cx, cz)
	if e != want || e != api.OK && len(l) != 0 {
		t.Errorf("Corners(%v, %d, %d) = %v, %v; want %v", x, cx, cz, l, e, want)
	}
}

// P7.1, P7.2: each number of each corner at its bounds, one past them, far past them.
func TestEachNumberOfEachCorner(t *testing.T) {
	for _, a := range []struct {
		lo, hi int
		field  func(*api.Vertex) *int
	}{
		{0, edge, func(p *api.Vertex) *int { return &p.X }},
		{-high, high, func(p *api.Vertex) *int { return &p.Y }},
		{0, edge, func(p *api.Vertex) *int { return &p.Z }},
	} {
		for _, n := range append([]int{a.lo - 1, a.lo, a.lo + 1, a.hi - 1, a.hi, a.hi + 1}, extremes...) {
			for corner := range 3 {
				x := of(v(1, 0, 1), v(2, 5, 1), v(1, 0, 3))
				*a.field(&x.V[corner]) = n
				if n < a.lo || n > a.hi || doubled(x) == 0 {
					checkRefused(t, x)
				} else {
					checkFrame(t, x)
					checkColumns(t, x, -1, -1, 2, 2)
				}
			}
		}
	}
}

// P7.1, P7.2: corners that stand on one line of the plane, however high they are, two or three of them one point among them.
func TestLinesAreRefused(t *testing.T) {
	for _, x := range []api.Tri{
		{},
		of(v(5, 0, 5), v(5, 0, 5), v(5, 0, 5)),
		of(v(5, 0, 5), v(5, 1, 5), v(5, 2, 5)),
		of(v(0, 0, 0), v(0, 5, 0), v(1, 0, 1)),
		of(v(3, 0, 1), v(3, 0, 1), v(1, 7, 2)),
		of(v(0, 0, 0), v(1, 9, 1), v(2, 0, 2)),
		of(v(0, 1, 0), v(2, 5, 1), v(6, -3, 3)),
		of(v(4, 0, 0), v(4, 9, 1), v(4, 0, 5)),
		of(v(0, 0, 4), v(1, 9, 4), v(5, 0, 4)),
		of(v(0, -high, 0), v(edge, high, edge), v(edge/2, -high, edge/2)),
		of(v(0, 0, edge), v(edge, 0, 0), v(1, high, edge-1)),
	} {
		checkRefused(t, x)
	}
	// Beside a line is none.
	checkColumns(t, of(v(0, 0, 0), v(edge, 1, edge), v(edge-1, 0, edge)), edge-2, edge-2, edge, edge)
}

// P7.1, P7.2: columns at the bounds, one past them and as far as an int goes, each way.
func TestColumnsThatMayBe(t *testing.T) {
	tried := append([]int{-3, -2, -1, 0, 1, edge - 1, edge, edge + 1, edge + 2}, extremes...)
	may := func(n int) bool { return n >= -1 && n <= edge }
	for _, x := range []api.Tri{chapter(), of(v(0, -high, 0), v(edge, high, 0), v(edge, 7, edge))} {
		for _, cx := range tried {
			for _, cz := range tried {
				if may(cx) && may(cz) {
					checkColumn(t, x, cx, cz)
				} else {
					checkAnswer(t, x, cx, cz, api.ErrArg)
				}
			}
		}
	}
}

// P7.1, P7.2: the id is not looked at.
func TestAnyIdMayBe(t *testing.T) {
	for _, id := range append([]int{-1, 0, 1, 1 << 30, 1<<30 + 1}, extremes...) {
		x := chapter()
		x.Id = id
		checkColumns(t, x, -1, -1, 2, 2)
		checkFrame(t, x)
	}
}

// meet is whether two stretches of heights do.
func meet(a, b [2]int) bool { return a[0] <= b[1] && b[0] <= a[1] }

// shares is whether some of a triangle is over what two neighbouring columns have in common.
func shares(x api.Tri, a, b [2]int) bool {
	return len(cutTo(surface(x), max(a[0], b[0]), max(a[1], b[1]), min(a[0], b[0])+1, min(a[1], b[1])+1)) > 0
}

// checkNeighbours holds P7.3 over all columns from x0, z0 to x1, z1, each against all the others that it touches.
func checkNeighbours(t *testing.T, x api.Tri, x0, z0, x1, z1 int) (shared int) {
	t.Helper()
	over := map[[2]int][2]int{}
	for cz := z0; cz <= z1; cz++ {
		for cx := x0; cx <= x1; cx++ {
			lo, hi, ok, _ := Over(x, cx, cz)
			if !ok {
				continue
			}
			least, most := min(x.V[0].Y, x.V[1].Y, x.V[2].Y), max(x.V[0].Y, x.V[1].Y, x.V[2].Y)
			if lo > hi || lo < least || hi > most {
				t.Fatalf("Over(%v, %d, %d) = %d, %d", x, cx, cz, lo, hi)
			}
			over[[2]int{cx, cz}] = [2]int{lo, hi}
		}
	}
	for at, own := range over {
		for _, by := range [4][2]int{{1, 0}, {-1, 1}, {0, 1}, {1, 1}} {
			next := [2]int{at[0] + by[0], at[1] + by[1]}
			if !shares(x, at, next) || next[0] < x0 || next[0] > x1 || next[1] > z1 {
				continue
			}
			if other, ok := over[next]; !ok || !meet(own, other) {
				t.Fatalf("%v: over %v it is %v, over %v %v, %v, and they share a point", x, at, own, next, other, ok)
			}
			shared++
		}
	}
	return shared
}

// P7.3: the heights are in order and within the triangle's own, and those of neighbours that share a point of it meet.
func TestNeighboursMeet(t *testing.T) {
	shared := 0
	small(func(x api.Tri) {
		shared += checkNeighbours(t, x, -1, -1, 3, 3)
	})
	for _, x := range wide() {
		shared += checkNeighbours(t, x, -1, -1, edge, edge)
	}
	if shared == 0 {
		t.Error("no neighbours share a point")
	}
}

// P7.3: across a side of the column they share a piece, across a corner a point; beside each other they may share nothing.
func TestNeighboursTable(t *testing.T) {
	steep := of(v(0, 0, 0), v(3, 300, 0), v(0, 0, 3))
	for _, c := range []struct {
		a, b       [2]int
		lowA, lowB [2]int
	}{
		{[2]int{0, 0}, [2]int{1, 0}, [2]int{0, 100}, [2]int{100, 200}},
		{[2]int{1, 0}, [2]int{0, 1}, [2]int{100, 200}, [2]int{0, 100}},
		{[2]int{1, 0}, [2]int{2, 1}, [2]int{100, 200}, [2]int{200, 200}},
		{[2]int{2, 0}, [2]int{1, 1}, [2]int{200, 300}, [2]int{100, 200}},
	} {
		loA, hiA, _, _ := Over(steep, c.a[0], c.a[1])
		loB, hiB, _, _ := Over(steep, c.b[0], c.b[1])
		if a, b := [2]int{loA, hiA}, [2]int{loB, hiB}; a != c.lowA || b != c.lowB || !meet(a, b) {
			t.Errorf("over %v it is %v, over %v %v; want %v, %v", c.a, a, c.b, b, c.lowA, c.lowB)
		}
	}
}

// R3, R4: an answer is the same each time, whatever is done to those ahead of it and to their spare room; what is handed in stays.
func TestAnswersAreNewMemory(t *testing.T) {
	x := of(v(0, -1, 0), v(7, -1, 0), v(0, -2, 5))
	kept := x
	want := [][4]int{{5, 0, -1, 1}, {25, 5, -6, 5}, {28, 5, -6, 5}, {6, 0, -1, 1}, {42, 5, -8, 7}}
	for range 3 {
		l, e := Corners(x, 5, 0)
		m, f := Corners(x, 5, 0)
		spoil(l)
		if !slices.Equal(numbers(m), want) || e != api.OK || f != api.OK {
			t.Fatalf("Corners: %v, %v, %v", m, e, f)
		}
		spoil(m)
		if lo, hi, ok, e := Over(x, 5, 0); lo != -2 || hi != -1 || !ok || e != api.OK {
			t.Fatalf("Over: %d, %d, %v, %v", lo, hi, ok, e)
		}
		if x0, z0, x1, z1, e := Columns(x); [4]int{x0, z0, x1, z1} != [4]int{-1, -1, 7, 5} || e != api.OK {
			t.Fatalf("Columns: %d, %d, %d, %d, %v", x0, z0, x1, z1, e)
		}
		if x != kept {
			t.Fatalf("the triangle became %v", x)
		}
	}
}

// spoil writes over a list, and over the spare room behind it.
func spoil(l []api.Corner) {
	l = l[:cap(l)]
	for i := range l {
		l[i] = api.Corner{X: 9, Z: 9, Y: 9, Den: 9}
	}
}
