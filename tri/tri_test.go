package tri

import (
	"cmp"
	"math"
	"math/big"
	"slices"
	"testing"

	"footpath/api"
)

const (
	side  = 32
	high  = 2048
	place = 64 // the furthest that heights are told of
	great = 1 << 30
)

// orders are the ways to lay three corners.
var orders = [6][3]int{{0, 1, 2}, {0, 2, 1}, {1, 0, 2}, {1, 2, 0}, {2, 0, 1}, {2, 1, 0}}

// beyond are numbers far past each bound, and those that run over if one adds to them, doubles or turns them.
var beyond = []int{math.MinInt, math.MinInt + 1, math.MinInt / 2, -1 << 40, -great - 1, great + 1, 1 << 40, 1 << 62, math.MaxInt - 1, math.MaxInt}

func at(x, y, z int) api.Vertex { return api.Vertex{X: x, Y: y, Z: z} }

func of(a, b, c api.Vertex) api.Tri { return api.Tri{Id: 1, V: [3]api.Vertex{a, b, c}} }

// laid has the corners in another order.
func laid(t api.Tri, order [3]int) api.Tri {
	return api.Tri{Id: t.Id, V: [3]api.Vertex{t.V[order[0]], t.V[order[1]], t.V[order[2]]}}
}

func moved(t api.Tri, by api.Vertex) api.Tri {
	for i, p := range t.V {
		t.V[i] = at(p.X+by.X, p.Y+by.Y, p.Z+by.Z)
	}
	return t
}

func config(rise, run, w, d int) api.Config {
	return api.Config{Climb: 1, Height: 3, Rise: rise, Run: run, W: w, D: d}
}

// axis is one of a corner's three numbers, the least and the greatest that it may be in a world of w by d columns.
type axis struct {
	name   string
	lo, hi int
	field  func(*api.Vertex) *int
}

func axes(w, d int) [3]axis {
	return [3]axis{
		{"X", 0, w, func(p *api.Vertex) *int { return &p.X }},
		{"Y", -high, high, func(p *api.Vertex) *int { return &p.Y }},
		{"Z", 0, d, func(p *api.Vertex) *int { return &p.Z }},
	}
}

// tried are the numbers at and beside an axis's bounds, between them and far beyond them.
func (a axis) tried() []int {
	return append([]int{a.lo - 1, a.lo, a.lo + 1, a.hi - 1, a.hi, a.hi + 1}, beyond...)
}

// doubled is twice the area that the triangle has, seen from above: below 0 for one way round, 0 for a line.
func doubled(t api.Tri) int {
	a, b, c := t.V[0], t.V[1], t.V[2]
	return (a.X-c.X)*(b.Z-c.Z) - (b.X-c.X)*(a.Z-c.Z)
}

func flat() api.Tri { return of(at(0, 0, 0), at(1, 0, 0), at(0, 0, 1)) }

// small are all triangles of corners within 2 by 2 columns with heights from 0 to 2, lines and points too.
func small(visit func(api.Tri)) {
	corner := func(n int) api.Vertex { return at(n%3, n/9, n/3%3) }
	for i := range 27 {
		for j := range 27 {
			for k := range 27 {
				visit(of(corner(i), corner(j), corner(k)))
			}
		}
	}
}

// wide are triangles that take up much of what may be, slopes of all kinds among them.
func wide() []api.Tri {
	return []api.Tri{
		of(at(0, 0, 0), at(side, 0, 0), at(0, 0, side)),
		of(at(0, -high, 0), at(side, high, 0), at(0, high, side)),
		of(at(0, high, 0), at(side, -high, 0), at(side, high, side)),
		of(at(0, -high, 0), at(side, -high, side), at(0, high, side)),
		of(at(0, high, 0), at(side, -high, side), at(side-1, high, side)),
		of(at(0, -high, 0), at(side, high, 1), at(side-1, -high, 1)),
		of(at(31, high, 32), at(32, -high, 31), at(32, -high, 32)),
		of(at(3, -17, 29), at(30, 5, 2), at(11, 1000, 13)),
		of(at(5, 7, 5), at(12, -9, 6), at(6, 3, 19)),
		of(at(0, -1, 0), at(7, -1, 0), at(0, -2, 5)),
		of(at(1, 4, 1), at(4, 5, 1), at(1, 4, 3)),
		of(at(0, 0, 0), at(5, 3, 0), at(0, 4, 5)),
	}
}

// checkRefused asks all calls that refuse what Normal refuses.
func checkRefused(t *testing.T, x api.Tri) {
	t.Helper()
	if nx, ny, nz, e := Normal(x); nx != 0 || ny != 0 || nz != 0 || e != api.ErrTri {
		t.Errorf("Normal(%v) = %d, %d, %d, %v", x, nx, ny, nz, e)
	}
	if ok, e := Walk(config(100, 1, side, side), x); ok || e != api.ErrTri {
		t.Errorf("Walk(%v) = %v, %v", x, ok, e)
	}
	if num, den, e := Height(x, 0, 0); num != 0 || den != 0 || e != api.ErrTri {
		t.Errorf("Height(%v, 0, 0) = %d, %d, %v", x, num, den, e)
	}
	if e := Check(config(1, 1, side, side), x); e != api.ErrTri {
		t.Errorf("Check(%v) = %v", x, e)
	}
}

func TestCheckIds(t *testing.T) {
	for _, c := range []struct {
		id   int
		want api.Errno
	}{
		{0, api.ErrTri}, {1, api.OK}, {2, api.OK}, {great - 1, api.OK}, {great, api.OK}, {great + 1, api.ErrTri},
		{-1, api.ErrTri}, {math.MinInt, api.ErrTri}, {math.MaxInt, api.ErrTri}, {1<<32 + 1, api.ErrTri},
	} {
		x := flat()
		x.Id = c.id
		if e := Check(config(1, 1, 8, 6), x); e != c.want {
			t.Errorf("id %d: %v; want %v", c.id, e, c.want)
		}
	}
}

func TestCheckEachNumberOfEachCorner(t *testing.T) {
	for _, world := range [][2]int{{1, 1}, {8, 6}, {6, 8}, {1, side}, {side, 1}, {side, side}} {
		for _, a := range axes(world[0], world[1]) {
			for _, n := range a.tried() {
				for corner := range 3 {
					x := flat()
					*a.field(&x.V[corner]) = n
					want := api.OK
					if n < a.lo || n > a.hi || doubled(x) == 0 {
						want = api.ErrTri
					}
					if e := Check(config(1, 1, world[0], world[1]), x); e != want {
						t.Errorf("%v: %s %d at corner %d: %v; want %v", world, a.name, n, corner, e, want)
					}
				}
			}
		}
	}
}

func TestCheckTakesCornersAtAllBounds(t *testing.T) {
	c := config(1, 1, 8, 6)
	for _, x := range []api.Tri{
		of(at(0, -high, 0), at(8, high, 0), at(0, high, 6)),
		of(at(8, high, 6), at(8, -high, 0), at(0, -high, 6)),
	} {
		if e := Check(c, x); e != api.OK {
			t.Errorf("%v: %v", x, e)
		}
		for by := range 2 {
			if e := Check(c, moved(x, at(1-by, 0, by))); e != api.ErrTri {
				t.Errorf("%v, moved out by one: %v", x, e)
			}
			if e := Check(c, moved(x, at(by-1, 0, -by))); e != api.ErrTri {
				t.Errorf("%v, moved out by one the other way: %v", x, e)
			}
		}
	}
}

// lines have no inside, seen from above, however high their corners are.
func lines() []api.Tri {
	return []api.Tri{
		of(at(0, 0, 0), at(0, 0, 0), at(0, 0, 0)),
		of(at(0, 0, 0), at(0, 5, 0), at(1, 0, 1)),
		of(at(0, 0, 0), at(1, 0, 1), at(0, 5, 0)),
		of(at(1, 0, 1), at(0, 0, 0), at(0, 5, 0)),
		of(at(3, 0, 1), at(3, 0, 1), at(1, 7, 2)),
		of(at(0, 0, 0), at(1, 9, 1), at(2, 0, 2)),
		of(at(2, 0, 2), at(0, 9, 0), at(1, 0, 1)),
		of(at(0, 1, 0), at(2, 5, 1), at(6, -3, 3)),
		of(at(4, 0, 0), at(4, 9, 1), at(4, 0, 5)),
		of(at(0, 0, 4), at(1, 9, 4), at(5, 0, 4)),
		of(at(0, -high, 0), at(side, high, side), at(side/2, -high, side/2)),
		of(at(0, 0, side), at(side, 0, 0), at(1, high, side-1)),
	}
}

func TestLinesAreNoTriangles(t *testing.T) {
	for _, x := range lines() {
		for _, order := range orders {
			checkRefused(t, laid(x, order))
		}
	}
	// Next to a line is none.
	if e := Check(config(1, 1, side, side), of(at(0, 0, 0), at(side, 0, side), at(side-1, 0, side))); e != api.OK {
		t.Errorf("beside the diagonal: %v", e)
	}
}

func TestCheckTellsOfTheConfigFirst(t *testing.T) {
	bad := flat()
	bad.Id, bad.V[1].X = 0, -1
	for _, x := range append(lines(), flat(), bad) {
		for _, c := range []api.Config{{}, config(1, 0, 8, 6), config(101, 1, 8, 6), config(1, 1, 0, 6), config(1, 1, 8, side+1), config(1, 1, math.MaxInt, 6)} {
			if e := Check(c, x); e != api.ErrConfig {
				t.Errorf("Check(%v, %v) = %v", c, x, e)
			}
			if ok, e := Walk(c, x); ok || e != api.ErrConfig {
				t.Errorf("Walk(%v, %v) = %v, %v", c, x, ok, e)
			}
		}
	}
}

func TestNormalTable(t *testing.T) {
	for _, c := range []struct {
		t          api.Tri
		nx, ny, nz int
	}{
		{flat(), 0, -1, 0},
		{laid(flat(), [3]int{0, 2, 1}), 0, 1, 0},
		{of(at(0, 0, 0), at(1, 1, 0), at(0, 0, 1)), 1, -1, 0},
		{of(at(0, 0, 0), at(1, 0, 0), at(0, 1, 1)), 0, -1, 1},
		{of(at(1, 4, 1), at(4, 5, 1), at(1, 4, 3)), 2, -6, 0},
		{of(at(2, 3, 5), at(7, 13, 17), at(11, 2, 19)), 152, 38, -95},
		{of(at(0, -high, 0), at(side, high, 0), at(0, high, side)), 2 * high * side, -side * side, 2 * high * side},
		{of(at(0, high, 0), at(side, -high, 0), at(0, high, side)), -2 * high * side, -side * side, 0},
		{of(at(0, high, side), at(side, -high, 0), at(0, -high, 0)), 0, side * side, -2 * high * side},
	} {
		if nx, ny, nz, e := Normal(c.t); nx != c.nx || ny != c.ny || nz != c.nz || e != api.OK {
			t.Errorf("Normal(%v) = %d, %d, %d, %v; want %d, %d, %d", c.t, nx, ny, nz, e, c.nx, c.ny, c.nz)
		}
	}
}

// checkNormal takes the sides that go out from the first corner: the chapter's own words.
func checkNormal(t *testing.T, x api.Tri) {
	t.Helper()
	a, b, c := x.V[0], x.V[1], x.V[2]
	u, v := at(b.X-a.X, b.Y-a.Y, b.Z-a.Z), at(c.X-a.X, c.Y-a.Y, c.Z-a.Z)
	want := at(u.Y*v.Z-u.Z*v.Y, u.Z*v.X-u.X*v.Z, u.X*v.Y-u.Y*v.X)
	nx, ny, nz, e := Normal(x)
	if want.Y == 0 {
		if nx != 0 || ny != 0 || nz != 0 || e != api.ErrTri {
			t.Fatalf("Normal(%v) = %d, %d, %d, %v; want ErrTri", x, nx, ny, nz, e)
		}
		return
	}
	if at(nx, ny, nz) != want || e != api.OK {
		t.Fatalf("Normal(%v) = %d, %d, %d, %v; want %v", x, nx, ny, nz, e, want)
	}
}

func TestNormalOfAllSmallTriangles(t *testing.T) {
	small(func(x api.Tri) {
		checkNormal(t, x)
		checkNormal(t, moved(x, at(side-2, high-2, side-2)))
		checkNormal(t, moved(x, at(0, -high, side-2)))
	})
}

func TestNormalOfWideTriangles(t *testing.T) {
	for _, x := range wide() {
		for _, order := range orders {
			checkNormal(t, laid(x, order))
		}
	}
}

func TestNormalEachNumberOfEachCorner(t *testing.T) {
	for _, a := range axes(side, side) {
		for _, n := range a.tried() {
			for corner := range 3 {
				x := of(at(0, 0, 0), at(1, 0, 0), at(0, 0, 1))
				*a.field(&x.V[corner]) = n
				if n < a.lo || n > a.hi {
					checkRefused(t, x)
				} else {
					checkNormal(t, x)
				}
			}
		}
	}
}

func TestOnlyCheckLooksAtTheIdAndTheWorld(t *testing.T) {
	x := of(at(side, 4, 0), at(0, 4, 0), at(0, 5, side))
	for _, id := range append([]int{0, -1, 5}, beyond...) {
		x.Id = id
		if _, _, _, e := Normal(x); e != api.OK {
			t.Errorf("Normal, id %d: %v", id, e)
		}
		if ok, e := Walk(config(1, 1, 1, 1), x); !ok || e != api.OK {
			t.Errorf("Walk, id %d: %v, %v", id, ok, e)
		}
		if num, den, e := Height(x, 0, 0); num != 4 || den != 1 || e != api.OK {
			t.Errorf("Height, id %d: %d, %d, %v", id, num, den, e)
		}
		if e := Check(config(1, 1, 1, 1), x); e != api.ErrTri {
			t.Errorf("Check, id %d: %v", id, e)
		}
	}
}

func TestBoundsTable(t *testing.T) {
	for _, c := range []struct {
		t      api.Tri
		lo, hi api.Vertex
	}{
		{api.Tri{}, at(0, 0, 0), at(0, 0, 0)},
		{of(at(3, -2, 5), at(1, 7, 9), at(2, 0, 4)), at(1, -2, 4), at(3, 7, 9)},
		{of(at(1, 1, 1), at(2, 2, 2), at(3, 3, 3)), at(1, 1, 1), at(3, 3, 3)},
		{of(at(-1, -1, -1), at(-2, -2, -2), at(-3, -3, -3)), at(-3, -3, -3), at(-1, -1, -1)},
		{of(at(5, 5, 5), at(5, 5, 5), at(5, 5, 5)), at(5, 5, 5), at(5, 5, 5)},
		{of(at(math.MinInt, 0, math.MaxInt), at(0, math.MaxInt, 0), at(math.MaxInt, math.MinInt, math.MinInt)), at(math.MinInt, math.MinInt, math.MinInt), at(math.MaxInt, math.MaxInt, math.MaxInt)},
		{of(at(math.MaxInt, math.MinInt, 7), at(math.MaxInt, math.MinInt, 8), at(math.MaxInt, math.MinInt, 9)), at(math.MaxInt, math.MinInt, 7), at(math.MaxInt, math.MinInt, 9)},
	} {
		for _, order := range orders {
			if lo, hi := Bounds(laid(c.t, order)); lo != c.lo || hi != c.hi {
				t.Errorf("Bounds(%v) = %v, %v; want %v, %v", laid(c.t, order), lo, hi, c.lo, c.hi)
			}
		}
	}
}

func TestBoundsAreTheEndsOfEachNumberSorted(t *testing.T) {
	odd := append([]int{0, -1, 1}, beyond...)
	for _, a := range axes(side, side) {
		for _, p := range odd {
			for _, q := range odd {
				for _, r := range odd {
					x := of(at(1, 2, 3), at(1, 2, 3), at(1, 2, 3))
					*a.field(&x.V[0]), *a.field(&x.V[1]), *a.field(&x.V[2]) = p, q, r
					least, most := at(1, 2, 3), at(1, 2, 3)
					l := []int{p, q, r}
					slices.Sort(l)
					*a.field(&least), *a.field(&most) = l[0], l[2]
					if lo, hi := Bounds(x); lo != least || hi != most {
						t.Fatalf("Bounds(%v) = %v, %v", x, lo, hi)
					}
				}
			}
		}
	}
}

func TestWalkTable(t *testing.T) {
	one, half := [2]int{1, 1}, [2]int{1, 2}
	for _, c := range []struct {
		name  string
		slope [2]int // Rise, Run
		t     api.Tri
		want  bool
	}{
		{"the chapter's first: 45 degrees", one, of(at(0, 0, 0), at(1, 1, 0), at(0, 0, 1)), true},
		{"the chapter's second", one, of(at(0, 0, 0), at(1, 2, 0), at(0, 0, 1)), false},
		{"flat", one, flat(), true},
		{"flat, where nothing else may be walked", [2]int{0, 1}, flat(), true},
		{"flat, and the greatest Run", [2]int{0, 100}, flat(), true},
		{"the least slope", [2]int{0, 1}, of(at(0, 0, 0), at(side, 0, 0), at(0, 1, side)), false},
		{"45 degrees along z", one, of(at(0, 0, 0), at(1, 0, 0), at(0, 1, 1)), true},
		{"steeper along z", one, of(at(0, 0, 0), at(1, 0, 0), at(0, 2, 1)), false},
		{"both ways at once", one, of(at(0, 0, 0), at(1, 1, 0), at(0, 1, 1)), false},
		{"just so steep, 3 and 4 make 5", one, of(at(0, 0, 0), at(5, 3, 0), at(0, 4, 5)), true},
		{"just steeper along x", one, of(at(0, 0, 0), at(5, 4, 0), at(0, 4, 5)), false},
		{"just steeper along z", one, of(at(0, 0, 0), at(5, 3, 0), at(0, 5, 5)), false},
		{"just so steep, downwards", one, of(at(0, 4, 0), at(5, 1, 0), at(0, 0, 5)), true},
		{"a bit steeper than 45 degrees", one, of(at(0, 0, 0), at(side-1, side, 0), at(0, 0, 1)), false},
		{"a bit less steep", one, of(at(0, 0, 0), at(side, side-1, 0), at(0, 0, 1)), true},
		{"half", half, of(at(0, 0, 0), at(2, 1, 0), at(0, 0, 1)), true},
		{"above half", half, of(at(0, 0, 0), at(3, 2, 0), at(0, 0, 1)), false},
		{"below half", half, of(at(0, 0, 0), at(3, 1, 0), at(0, 0, 1)), true},
		{"3 by 2", [2]int{3, 2}, of(at(0, 0, 0), at(2, 3, 0), at(0, 0, 1)), true},
		{"2 by 1 is steeper", [2]int{3, 2}, of(at(0, 0, 0), at(1, 2, 0), at(0, 0, 1)), false},
		{"100 by 1", [2]int{100, 1}, of(at(0, 0, 0), at(1, 100, 0), at(0, 0, 1)), true},
		{"101 by 1", [2]int{100, 1}, of(at(0, 0, 0), at(1, 101, 0), at(0, 0, 1)), false},
		{"60 and 80 make 100", [2]int{100, 1}, of(at(0, 0, 0), at(1, 60, 0), at(0, 80, 1)), true},
		{"60 and 81 make more", [2]int{100, 1}, of(at(0, 0, 0), at(1, 60, 0), at(0, 81, 1)), false},
		{"1 by 100 is too flat", [2]int{1, 100}, of(at(0, 0, 0), at(side, 1, 0), at(0, 0, side)), false},
		{"99 by 100", [2]int{99, 100}, of(at(0, 0, 0), at(1, 1, 0), at(0, 0, 1)), false},
		{"100 by 100", [2]int{100, 100}, of(at(0, 0, 0), at(1, 1, 0), at(0, 0, 1)), true},
		{"the steepest of all", [2]int{100, 1}, of(at(0, -high, 0), at(1, high, 0), at(0, high, 1)), false},
		{"the greatest numbers", [2]int{100, 100}, of(at(0, -high, 0), at(side, high, 0), at(0, high, side)), false},
		{"great numbers, just so steep", [2]int{100, 1}, of(at(0, -high, 0), at(side, 60*side-high, 0), at(0, 80*side-high, side)), true},
		{"great numbers, just steeper", [2]int{100, 1}, of(at(0, -high, 0), at(side, 60*side-high+1, 0), at(0, 80*side-high, side)), false},
	} {
		for _, order := range orders {
			x := laid(c.t, order)
			if ok, e := Walk(config(c.slope[0], c.slope[1], 1, 1), x); ok != c.want || e != api.OK {
				t.Errorf("%s: Walk(%v) = %v, %v", c.name, x, ok, e)
			}
		}
	}
}

// plane holds how the surface rises along x and along z, and how high it is over (0, 0): found by the rule for two equations.
type plane struct{ alongX, alongZ, base *big.Rat }

func planeOf(t api.Tri) plane {
	a, b, c := t.V[0], t.V[1], t.V[2]
	all := int64((b.X-a.X)*(c.Z-a.Z) - (c.X-a.X)*(b.Z-a.Z))
	alongX := big.NewRat(int64((b.Y-a.Y)*(c.Z-a.Z)-(c.Y-a.Y)*(b.Z-a.Z)), all)
	alongZ := big.NewRat(int64((b.X-a.X)*(c.Y-a.Y)-(c.X-a.X)*(b.Y-a.Y)), all)
	p := plane{alongX, alongZ, new(big.Rat)}
	p.base = new(big.Rat).Sub(big.NewRat(int64(a.Y), 1), p.over(a.X, a.Z))
	return p
}

func (p plane) over(x, z int) *big.Rat {
	up := new(big.Rat).Mul(p.alongX, big.NewRat(int64(x), 1))
	up.Add(up, new(big.Rat).Mul(p.alongZ, big.NewRat(int64(z), 1)))
	return up.Add(up, p.base)
}

func (p plane) walked(rise, run int) bool {
	steep := new(big.Rat).Mul(p.alongX, p.alongX)
	steep.Add(steep, new(big.Rat).Mul(p.alongZ, p.alongZ))
	may := big.NewRat(int64(rise), int64(run))
	return steep.Cmp(may.Mul(may, may)) <= 0
}

func checkWalk(t *testing.T, x api.Tri) {
	t.Helper()
	p := planeOf(x)
	for _, s := range [][2]int{{0, 1}, {1, 1}, {1, 2}, {2, 1}, {3, 2}, {99, 100}, {100, 1}, {100, 99}, {1, 100}} {
		if ok, e := Walk(config(s[0], s[1], 3, 4), x); ok != p.walked(s[0], s[1]) || e != api.OK {
			t.Fatalf("Rise and Run %v: Walk(%v) = %v, %v", s, x, ok, e)
		}
	}
}

func TestWalkAgainstTheSlopesOfThePlane(t *testing.T) {
	small(func(x api.Tri) {
		if doubled(x) != 0 {
			checkWalk(t, x)
		}
	})
	for _, x := range wide() {
		checkWalk(t, x)
	}
	for rise := range 5 {
		for up := range 5 {
			for along := 1; along < 8; along++ {
				checkWalk(t, of(at(0, 0, 0), at(along, up, 1), at(2, rise, 7)))
			}
		}
	}
}

func TestHeightTable(t *testing.T) {
	ramp := of(at(1, 4, 1), at(4, 5, 1), at(1, 4, 3))
	deep := of(at(0, -1, 0), at(7, -1, 0), at(0, -2, 5))
	tall := of(at(0, -high, 0), at(1, high, 0), at(0, high, 1))
	for _, c := range []struct {
		t              api.Tri
		x, z, num, den int
	}{
		{ramp, 1, 1, 4, 1},
		{ramp, 4, 1, 5, 1},
		{ramp, 1, 3, 4, 1},
		{ramp, 2, 9, 13, 3},
		{ramp, 3, 0, 14, 3},
		{ramp, -11, 5, 0, 1}, // 0 is 0 / 1
		{ramp, -14, 5, -1, 1},
		{ramp, -12, 0, -1, 3},
		{ramp, place, -place, 25, 1},
		{ramp, -place, place, -53, 3},
		{deep, 0, 0, -1, 1},
		{deep, 3, 0, -1, 1},
		{deep, 0, 1, -6, 5},
		{deep, 9, -4, -1, 5},
		{deep, 9, -5, 0, 1},
		{deep, -2, -6, 1, 5},
		{deep, 0, 10, -3, 1},
		{flat(), 20, -20, 0, 1},
		{moved(flat(), at(0, 7, 0)), -place, -place, 7, 1},
		{moved(flat(), at(0, -high, 0)), place, place, -high, 1},
		{tall, 1, 1, 3 * high, 1},
		{tall, place, place, 2*place*2*high - high, 1},
		{tall, -place, -place, -2*place*2*high - high, 1},
		{of(at(0, 0, 0), at(side, 2, 0), at(0, 4, side)), 1, 1, 3, 16}, // of 192 / 1024
		{of(at(0, 0, 0), at(side, 1, 1), at(side-1, 0, side)), 1, 0, 32, 993},
	} {
		for _, order := range orders {
			if num, den, e := Height(laid(c.t, order), c.x, c.z); num != c.num || den != c.den || e != api.OK {
				t.Errorf("Height(%v, %d, %d) = %d / %d, %v; want %d / %d", laid(c.t, order), c.x, c.z, num, den, e, c.num, c.den)
			}
		}
	}
}

// checkHeight holds a height against the plane: big's fractions are in lowest terms, too, with what is below 0 above the line.
func checkHeight(t *testing.T, x api.Tri, p plane, px, pz int) {
	t.Helper()
	want := p.over(px, pz)
	num, den, e := Height(x, px, pz)
	if int64(num) != want.Num().Int64() || int64(den) != want.Denom().Int64() || e != api.OK {
		t.Fatalf("Height(%v, %d, %d) = %d / %d, %v; want %v", x, px, pz, num, den, e, want)
	}
}

func TestHeightAgainstThePlane(t *testing.T) {
	small(func(x api.Tri) {
		if doubled(x) == 0 {
			return
		}
		p := planeOf(x)
		for _, px := range []int{-place, -1, 0, 1, 3, place} {
			checkHeight(t, x, p, px, -px)
			checkHeight(t, x, p, px, 1)
		}
	})
	for _, x := range wide() {
		for _, order := range orders {
			y := laid(x, order)
			p := planeOf(y)
			for px := -place; px <= place; px += 8 {
				for pz := -place; pz <= place; pz += 4 {
					checkHeight(t, y, p, px, pz)
				}
			}
		}
	}
}

func TestHeightRefusesPointsThatAreTooFar(t *testing.T) {
	x := of(at(1, 4, 1), at(4, 5, 1), at(1, 4, 3))
	tried := append([]int{-place - 2, -place - 1, -place, -place + 1, 0, place - 1, place, place + 1, place + 2}, beyond...)
	may := func(n int) bool { return n >= -place && n <= place }
	for _, px := range tried {
		for _, pz := range tried {
			num, den, e := Height(x, px, pz)
			if may(px) && may(pz) {
				if e != api.OK || den < 1 {
					t.Errorf("Height(%d, %d) = %d / %d, %v", px, pz, num, den, e)
				}
			} else if num != 0 || den != 0 || e != api.ErrTri {
				t.Errorf("Height(%d, %d) = %d / %d, %v; want ErrTri", px, pz, num, den, e)
			}
		}
	}
	for _, bad := range lines() {
		if num, den, e := Height(bad, place+1, 0); num != 0 || den != 0 || e != api.ErrTri {
			t.Errorf("Height(%v) = %d / %d, %v", bad, num, den, e)
		}
	}
}

func TestSameTable(t *testing.T) {
	p, q, r, s := at(0, 0, 0), at(1, 0, 0), at(0, 0, 1), at(5, 5, 5)
	for _, c := range []struct {
		name string
		a, b api.Tri
		want bool
	}{
		{"the same", of(p, q, r), of(p, q, r), true},
		{"turned", of(p, q, r), of(r, p, q), true},
		{"the other way round", of(p, q, r), of(r, q, p), true},
		{"one corner is another one", of(p, q, r), of(p, q, s), false},
		{"none is the same", of(p, p, p), of(q, q, q), false},
		{"a corner twice", of(p, p, q), of(p, q, p), true},
		{"each as often", of(p, p, q), of(p, q, q), false},
		{"each as often, with a third one", of(p, p, q), of(p, q, r), false},
		{"a corner three times", of(p, p, p), of(p, p, p), true},
		{"three times, and twice", of(p, p, p), of(p, p, q), false},
		{"other X", of(p, q, r), of(p, at(2, 0, 0), r), false},
		{"other Y", of(p, q, r), of(p, at(1, 1, 0), r), false},
		{"other Z", of(p, q, r), of(p, at(1, 0, 1), r), false},
		{"the same numbers, at other corners", of(p, at(1, 2, 3), r), of(p, at(1, 0, 3), at(0, 2, 1)), false},
		{"such as may not be", of(at(math.MinInt, 0, math.MaxInt), p, p), of(p, p, at(math.MinInt, 0, math.MaxInt)), true},
		{"such as may not be, apart", of(at(math.MinInt, 0, 0), p, p), of(p, p, at(math.MaxInt, 0, 0)), false},
		{"nothing", api.Tri{}, api.Tri{}, true},
	} {
		if Same(c.a, c.b) != c.want || Same(c.b, c.a) != c.want {
			t.Errorf("%s: Same(%v, %v) isn't %v", c.name, c.a, c.b, c.want)
		}
	}
}

func TestSameGoesByTheIds(t *testing.T) {
	odd := append([]int{0, 1, -1, great}, beyond...)
	for _, i := range odd {
		for _, j := range odd {
			a, b := flat(), laid(flat(), [3]int{1, 2, 0})
			a.Id, b.Id = i, j
			if Same(a, b) != (i == j) {
				t.Errorf("ids %d and %d: %v", i, j, Same(a, b))
			}
		}
	}
}

// sorted lays the corners in one order that hangs on nothing but them.
func sorted(t api.Tri) [3]api.Vertex {
	slices.SortFunc(t.V[:], func(p, q api.Vertex) int {
		return cmp.Or(cmp.Compare(p.X, q.X), cmp.Compare(p.Y, q.Y), cmp.Compare(p.Z, q.Z))
	})
	return t.V
}

func TestSameIsTheSameSorted(t *testing.T) {
	corners := []api.Vertex{at(0, 0, 0), at(1, 0, 0), at(0, 1, 0), at(0, 0, 1)}
	var all []api.Tri
	for _, p := range corners {
		for _, q := range corners {
			for _, r := range corners {
				all = append(all, of(p, q, r))
			}
		}
	}
	for _, a := range all {
		for _, b := range all {
			if Same(a, b) != (sorted(a) == sorted(b)) {
				t.Fatalf("Same(%v, %v) = %v", a, b, Same(a, b))
			}
		}
	}
}

// TestWalkHangsOnTheShapeAlone holds P4.4's first sentence.
func TestWalkHangsOnTheShapeAlone(t *testing.T) {
	for _, c := range []api.Config{config(1, 1, side, side), config(1, 2, 3, 3), config(2, 1, side, 3)} {
		small(func(x api.Tri) {
			want, e := Walk(c, x)
			for i, order := range orders {
				y := moved(laid(x, order), at(i*6, i*800-high, side-2-i*6))
				if ok, f := Walk(c, y); ok != want || f != e {
					t.Fatalf("Walk(%v) = %v, %v; Walk(%v) = %v, %v", x, want, e, y, ok, f)
				}
			}
		})
	}
}

// TestHeightAtACornerIsItsY holds P4.4's second sentence.
func TestHeightAtACornerIsItsY(t *testing.T) {
	check := func(x api.Tri) {
		if doubled(x) == 0 {
			return
		}
		for _, p := range x.V {
			if num, den, e := Height(x, p.X, p.Z); num != p.Y || den != 1 || e != api.OK {
				t.Fatalf("Height(%v, %d, %d) = %d / %d, %v", x, p.X, p.Z, num, den, e)
			}
		}
	}
	small(func(x api.Tri) {
		check(x)
		check(moved(x, at(side-2, -high, side-2)))
		check(moved(x, at(0, -1, 7)))
	})
	for _, x := range wide() {
		check(x)
	}
}

// TestAnswersHangOnTheArguments holds R3 and R4 of what has corners.
func TestAnswersHangOnTheArguments(t *testing.T) {
	x := of(at(1, 4, 1), at(4, 5, 1), at(1, 4, 3))
	kept := x
	for range 2 {
		nx, ny, nz, _ := Normal(x)
		num, den, _ := Height(x, 2, 9)
		ok, _ := Walk(config(1, 1, 8, 6), x)
		lo, hi := Bounds(x)
		if at(nx, ny, nz) != at(2, -6, 0) || num != 13 || den != 3 || !ok || lo != at(1, 4, 1) || hi != at(4, 5, 3) || !Same(x, kept) || x != kept {
			t.Errorf("%d, %d, %d; %d / %d; %v; %v, %v; %v", nx, ny, nz, num, den, ok, lo, hi, x)
		}
	}
}
