package bins

import (
	"iter"
	"math"
	"slices"
	"testing"

	"footpath/api"
)

const (
	high  = 2048    // the greatest height
	great = 1 << 30 // the greatest id
)

// extremes are such as run over if one adds to them, doubles them or turns them round.
var extremes = []int{math.MinInt, math.MinInt + 1, math.MinInt / 2, -1 << 40, 1<<32 + 1, 1 << 40, 1 << 62, math.MaxInt - 1, math.MaxInt}

// sides are those of a world: cut tiles and whole ones, one of them and several.
var sides = []int{1, 7, 8, 9, 16, 31, 32}

func config(clear, w, d int) api.Config {
	return api.Config{Clear: clear, Climb: 1, Height: 3, Rise: 1, Run: 1, W: w, D: d}
}

// worlds are all sizes with the least and the greatest Clear.
func worlds(yield func(api.Config) bool) {
	for _, clear := range []int{0, 3} {
		for _, w := range sides {
			for _, d := range sides {
				if !yield(config(clear, w, d)) {
					return
				}
			}
		}
	}
}

// wrongConfigs has each number of a config that may be one past each of its bounds, and far past it.
func wrongConfigs() []api.Config {
	var l []api.Config
	put := func(at func(*api.Config) *int, values ...int) {
		for _, v := range append(values, extremes...) {
			c := config(0, 16, 16)
			*at(&c) = v
			l = append(l, c)
		}
	}
	put(func(c *api.Config) *int { return &c.Clear }, -1, 4)
	put(func(c *api.Config) *int { return &c.Climb }, -1, 9)
	put(func(c *api.Config) *int { return &c.Height }, 1, 33)
	put(func(c *api.Config) *int { return &c.Rise }, -1, 101)
	put(func(c *api.Config) *int { return &c.Run }, 0, 101)
	put(func(c *api.Config) *int { return &c.W }, -1, 0, 33)
	put(func(c *api.Config) *int { return &c.D }, -1, 0, 33)
	return append(l, api.Config{})
}

// plan tells, for each tile of a world, which columns lie in its padded box: each of the tile's own columns is handed on as far as the pad is wide.
type plan struct {
	c     api.Config
	tiles []map[[2]int]bool
}

func planOf(c api.Config) plan {
	p := plan{c: c}
	for z0 := 0; z0 < c.D; z0 += 8 {
		for x0 := 0; x0 < c.W; x0 += 8 {
			box := map[[2]int]bool{}
			for z := z0; z < min(z0+8, c.D); z++ {
				for x := x0; x < min(x0+8, c.W); x++ {
					handOn(c, box, x, z)
				}
			}
			p.tiles = append(p.tiles, box)
		}
	}
	return p
}

func handOn(c api.Config, box map[[2]int]bool, x, z int) {
	pad := c.Clear + 4
	for dz := -pad; dz <= pad; dz++ {
		for dx := -pad; dx <= pad; dx++ {
			if x+dx >= 0 && x+dx < c.W && z+dz >= 0 && z+dz < c.D {
				box[[2]int{x + dx, z + dz}] = true
			}
		}
	}
}

// touches goes over all columns of the padded box.
func (p plan) touches(tile int, s [4]int) bool {
	if tile < 0 || tile >= len(p.tiles) {
		return false
	}
	for at := range p.tiles[tile] {
		if s[0] <= at[0] && at[0] <= s[2] && s[1] <= at[1] && at[1] <= s[3] {
			return true
		}
	}
	return false
}

func (p plan) each(s [4]int) []int {
	var l []int
	for tile := range p.tiles {
		if p.touches(tile, s) {
			l = append(l, tile)
		}
	}
	return l
}

func each(c api.Config, s [4]int) []int {
	return slices.Collect(Each(c, s[0], s[1], s[2], s[3]))
}

func touch(c api.Config, tile int, s [4]int) bool {
	return Touch(c, tile, s[0], s[1], s[2], s[3])
}

// holds has Each and Touch held against the plan.
func (p plan) holds(t *testing.T, s [4]int) {
	t.Helper()
	want := p.each(s)
	if got := each(p.c, s); !slices.Equal(got, want) {
		t.Fatalf("W %d, D %d, Clear %d: Each of %v goes over %v; want %v", p.c.W, p.c.D, p.c.Clear, s, got, want)
	}
	for tile := -1; tile <= len(p.tiles); tile++ {
		if got, want := touch(p.c, tile, s), slices.Contains(want, tile); got != want {
			t.Fatalf("W %d, D %d, Clear %d: Touch of tile %d, %v is %v", p.c.W, p.c.D, p.c.Clear, tile, s, got)
		}
	}
}

// around are numbers beside all bounds that a stretch may have one way, in a world of n columns.
func around(n, clear int) []int {
	l := []int{-9, -1, 0, 1, n - 2, n - 1, n, n + 1, n + 9}
	for from := 0; from < n; from += 8 {
		first, last := from-clear-4, from+7+clear+4
		l = append(l, first-1, first, from, from+7, last, last+1)
	}
	slices.Sort(l)
	return slices.Compact(l)
}

// P6.1: so many tiles in a row that the last one holds the last column, and so many rows.
func TestCountIsOfAllWorlds(t *testing.T) {
	inRow := func(n int) int {
		k := 0
		for k*8 < n {
			k++
		}
		return k
	}
	for w := 1; w <= 32; w++ {
		for d := 1; d <= 32; d++ {
			for clear := 0; clear <= 3; clear++ {
				if n := Count(config(clear, w, d)); n != inRow(w)*inRow(d) {
					t.Errorf("W %d, D %d, Clear %d: Count is %d", w, d, clear, n)
				}
			}
		}
	}
	for _, x := range []struct{ w, d, want int }{{1, 1, 1}, {7, 8, 1}, {8, 9, 2}, {9, 8, 2}, {9, 9, 4}, {16, 31, 8}, {31, 16, 8}, {1, 32, 4}, {32, 1, 4}, {32, 32, 16}} {
		if n := Count(config(0, x.w, x.d)); n != x.want {
			t.Errorf("W %d, D %d: Count is %d; want %d", x.w, x.d, n, x.want)
		}
	}
}

// P6.1: a config that may not be has no tiles; nothing touches one.
func TestWrongConfigsHaveNoTiles(t *testing.T) {
	for _, c := range wrongConfigs() {
		if n := Count(c); n != 0 {
			t.Errorf("%v: Count is %d", c, n)
		}
		if l := each(c, [4]int{0, 0, 15, 15}); l != nil {
			t.Errorf("%v: Each goes over %v", c, l)
		}
		for tile := -1; tile <= 16; tile++ {
			if Touch(c, tile, 0, 0, 15, 15) {
				t.Errorf("%v: tile %d is touched", c, tile)
			}
		}
	}
}

// P6.1: each number of a config at each of its bounds, where it may be.
func TestConfigsAtTheirBoundsHaveTiles(t *testing.T) {
	for _, c := range []api.Config{
		{Clear: 0, Climb: 0, Height: 1, Rise: 0, Run: 1, W: 1, D: 1},
		{Clear: 3, Climb: 8, Height: 9, Rise: 100, Run: 100, W: 1, D: 1},
		{Clear: 3, Climb: 8, Height: 32, Rise: 100, Run: 100, W: 1, D: 1},
	} {
		if n := Count(c); n != 1 || !Touch(c, 0, 0, 0, 0, 0) || !slices.Equal(each(c, [4]int{}), []int{0}) {
			t.Errorf("%v: Count is %d, column 0, 0 touches %v", c, n, each(c, [4]int{}))
		}
	}
}

// P6.1: all stretches one way, from beyond one side of the world to beyond the other one, out of order too; the other way they are the whole world.
func TestStretchesOneWay(t *testing.T) {
	for _, clear := range []int{0, 1, 2, 3} {
		for _, n := range sides {
			wide, deep := planOf(config(clear, n, 9)), planOf(config(clear, 9, n))
			for from := -2; from <= n+1; from++ {
				for to := -2; to <= n+1; to++ {
					wide.holds(t, [4]int{from, 0, to, 8})
					deep.holds(t, [4]int{0, from, 8, to})
				}
			}
		}
	}
}

// P6.1: single columns, all there are, and those round the world.
func TestSingleColumns(t *testing.T) {
	for c := range worlds {
		p := planOf(c)
		for z := -1; z <= c.D; z++ {
			for x := -1; x <= c.W; x++ {
				p.holds(t, [4]int{x, z, x, z})
			}
		}
	}
}

// P6.1: stretches both ways: their ends at all bounds and beside them, out of order each way and both ways, partly and wholly out of the world.
func TestStretchesBothWays(t *testing.T) {
	for _, c := range []api.Config{config(0, 1, 1), config(3, 1, 9), config(0, 9, 7), config(3, 7, 16), config(0, 16, 8)} {
		p := planOf(c)
		for _, x0 := range around(c.W, c.Clear) {
			for _, x1 := range around(c.W, c.Clear) {
				for _, z0 := range around(c.D, c.Clear) {
					for _, z1 := range around(c.D, c.Clear) {
						p.holds(t, [4]int{x0, z0, x1, z1})
					}
				}
			}
		}
	}
}

// P6.1: in the greatest world and in one with cut tiles, stretches that end one column ahead of a padded box, on its first column, on its last one, one past it.
func TestStretchesBesidePaddedBoxes(t *testing.T) {
	for _, c := range []api.Config{config(0, 32, 31), config(3, 31, 32)} {
		p := planOf(c)
		for tile := range p.tiles {
			ahead, first := 8*(tile%4)-c.Clear-5, 8*(tile%4)-c.Clear-4
			last, past := 8*(tile%4)+c.Clear+11, 8*(tile%4)+c.Clear+12
			z := 8 * (tile / 4)
			for _, x := range []struct {
				s    [4]int
				want bool
			}{
				{[4]int{-50, z, ahead, z}, false},
				{[4]int{-50, z, first, z}, first >= 0},
				{[4]int{last, z, 50, z}, last < c.W},
				{[4]int{past, z, 50, z}, false},
				{[4]int{-50, -50, 50, 50}, true},
			} {
				if got := touch(c, tile, x.s); got != x.want {
					t.Errorf("%v: Touch of tile %d, %v is %v", c, tile, x.s, got)
				}
				p.holds(t, x.s)
			}
			p.holds(t, [4]int{z, -50, z, ahead})
			p.holds(t, [4]int{z, -50, z, first})
			p.holds(t, [4]int{z, last, z, 50})
			p.holds(t, [4]int{z, past, z, 50})
		}
	}
}

// P6.1: a stretch that crosses a tile's padded box one way only does not touch it.
func TestBothWaysAreWanted(t *testing.T) {
	c := config(0, 32, 32)
	for _, x := range []struct {
		s    [4]int
		want []int
	}{
		{[4]int{0, 0, 31, 0}, []int{0, 1, 2, 3}},
		{[4]int{0, 0, 0, 31}, []int{0, 4, 8, 12}},
		{[4]int{31, 0, 31, 31}, []int{3, 7, 11, 15}},
		{[4]int{0, 31, 31, 31}, []int{12, 13, 14, 15}},
		{[4]int{12, 12, 19, 19}, []int{5, 6, 9, 10}},
		{[4]int{12, 11, 12, 11}, []int{1, 2, 5, 6}},
		{[4]int{31, 31, 0, 0}, nil},
		{[4]int{0, 31, 31, 0}, nil},
		{[4]int{31, 0, 0, 31}, nil},
	} {
		if l := each(c, x.s); !slices.Equal(l, x.want) {
			t.Errorf("%v touches %v; want %v", x.s, l, x.want)
		}
	}
}

// P6.1: numbers as great as an int holds, as any of the four and as all of them.
func TestStretchesOfGreatNumbers(t *testing.T) {
	numbers := []int{math.MinInt, math.MinInt + 1, -1 << 32, 0, 8, 1 << 32, math.MaxInt - 1, math.MaxInt}
	for _, c := range []api.Config{config(0, 9, 16), config(3, 32, 1)} {
		p := planOf(c)
		for _, x0 := range numbers {
			for _, x1 := range numbers {
				for _, z0 := range numbers {
					for _, z1 := range numbers {
						p.holds(t, [4]int{x0, z0, x1, z1})
					}
				}
			}
		}
	}
	all := [4]int{math.MinInt, math.MinInt, math.MaxInt, math.MaxInt}
	if l := each(config(0, 16, 9), all); !slices.Equal(l, []int{0, 1, 2, 3}) {
		t.Errorf("the stretch of all that there is touches %v", l)
	}
}

// P6.1: only the numbers from 0 to the last tile's are tiles.
func TestNoSuchTile(t *testing.T) {
	for c := range worlds {
		n := Count(c)
		for _, tile := range append([]int{-1, n, n + 1, -n, -n - 1}, extremes...) {
			if Touch(c, tile, -99, -99, 99, 99) {
				t.Errorf("W %d, D %d: tile %d of %d is touched", c.W, c.D, tile, n)
			}
		}
		for _, tile := range []int{0, n - 1} {
			if !Touch(c, tile, -99, -99, 99, 99) {
				t.Errorf("W %d, D %d: tile %d of %d is not touched", c.W, c.D, tile, n)
			}
		}
	}
}

// P6.1: going over tiles may be ended early, at each of them, and begun again; one going over knows nothing of another one.
func TestEachMayBeEndedEarly(t *testing.T) {
	seq := Each(config(0, 32, 32), 4, 4, 20, 20)
	whole := slices.Collect(seq)
	if len(whole) != 16 {
		t.Fatalf("%v are gone over", whole)
	}
	for n := 1; n <= len(whole); n++ {
		var some []int
		seq(func(tile int) bool {
			some = append(some, tile)
			return len(some) < n
		})
		if !slices.Equal(some, whole[:n]) {
			t.Errorf("ended behind %d: %v", n, some)
		}
	}
	outer := 0
	for a := range seq {
		inner := 0
		for b := range seq {
			if b != whole[inner] {
				t.Fatalf("inner %d, %v", b, whole)
			}
			inner++
			if b == a {
				break
			}
		}
		if a != whole[outer] || inner != outer+1 {
			t.Fatalf("outer %d behind %d, inner %d", a, outer, inner)
		}
		outer++
	}
	if outer != len(whole) {
		t.Errorf("%d are gone over behind those that were ended early", outer)
	}
}

// P6.1, R1: an iterator over nothing is one, too.
func TestEachOfNothing(t *testing.T) {
	c := config(0, 16, 16)
	for name, seq := range map[string]iter.Seq[int]{
		"a config that may not be":   Each(api.Config{}, 0, 0, 1, 1),
		"X out of order":             Each(c, 5, 0, 4, 15),
		"Z out of order":             Each(c, 0, 5, 15, 4),
		"ahead of the world":         Each(c, -5, 0, -1, 15),
		"behind the world":           Each(c, 0, 16, 15, 20),
		"as far out as an int holds": Each(c, math.MinInt, math.MinInt, math.MinInt, math.MinInt),
	} {
		if seq == nil {
			t.Fatalf("%s: no iterator", name)
		}
		for tile := range seq {
			t.Errorf("%s: tile %d", name, tile)
		}
	}
}

// flat is a triangle whose corners' least and greatest X and Z are these.
func flat(x0, z0, x1, z1 int) api.Tri {
	return api.Tri{Id: 1, V: [3]api.Vertex{{X: x0, Z: z0}, {X: x1, Z: z0}, {X: x0, Z: z1}}}
}

// turned has the corners in all six orders.
func turned(t api.Tri) []api.Tri {
	var l []api.Tri
	for _, o := range [][3]int{{0, 1, 2}, {1, 2, 0}, {2, 0, 1}, {0, 2, 1}, {2, 1, 0}, {1, 0, 2}} {
		l = append(l, api.Tri{Id: t.Id, V: [3]api.Vertex{t.V[o[0]], t.V[o[1]], t.V[o[2]]}})
	}
	return l
}

// trisHold holds Tris against the plan, in all orders of the corners.
func (p plan) trisHold(t *testing.T, x0, z0, x1, z1 int) {
	t.Helper()
	want := p.each([4]int{x0 - 1, z0 - 1, x1, z1})
	for _, tri := range turned(flat(x0, z0, x1, z1)) {
		if l, e := Tris(p.c, tri); e != api.OK || !slices.Equal(l, want) {
			t.Fatalf("W %d, D %d, Clear %d: Tris of %v is %v, %v; want %v", p.c.W, p.c.D, p.c.Clear, tri, l, e, want)
		}
	}
}

// P6.2: all widths and all depths that a triangle may have, from one column on, the other way over all of the world.
func TestTrisStretch(t *testing.T) {
	for _, clear := range []int{0, 3} {
		for _, n := range sides {
			wide, deep := planOf(config(clear, n, 9)), planOf(config(clear, 9, n))
			for from := range n {
				for to := from + 1; to <= n; to++ {
					wide.trisHold(t, from, 0, to, 9)
					wide.trisHold(t, from, 0, to, 1)
					deep.trisHold(t, 0, from, 9, to)
					deep.trisHold(t, 8, from, 9, to)
				}
			}
		}
	}
}

// P6.2: a triangle's least X and Z, less 1, at a padded box's last column, at 0, and as far on as it may be; its greatest ones at a padded box's first column.
func TestTrisAtTheirEdges(t *testing.T) {
	c, d := config(0, 32, 32), config(3, 32, 32)
	wide, deep := config(3, 32, 8), config(3, 8, 32)
	for _, x := range []struct {
		c              api.Config
		x0, z0, x1, z1 int
		want           []int
	}{
		{c, 12, 0, 13, 1, []int{0, 1, 2}},
		{c, 13, 0, 14, 1, []int{1, 2}},
		{c, 0, 12, 1, 13, []int{0, 4, 8}},
		{c, 0, 13, 1, 14, []int{4, 8}},
		{c, 2, 0, 3, 1, []int{0}},
		{c, 3, 0, 4, 1, []int{0, 1}},
		{c, 0, 2, 1, 3, []int{0}},
		{c, 0, 3, 1, 4, []int{0, 4}},
		{c, 0, 0, 1, 1, []int{0}},
		{c, 1, 1, 2, 2, []int{0}},
		{c, 31, 31, 32, 32, []int{15}},
		{c, 0, 0, 32, 32, []int{0, 1, 2, 3, 4, 5, 6, 7, 8, 9, 10, 11, 12, 13, 14, 15}},
		{wide, 15, 0, 16, 1, []int{0, 1, 2}},
		{wide, 16, 0, 17, 1, []int{1, 2, 3}},
		{deep, 0, 15, 1, 16, []int{0, 1, 2}},
		{deep, 0, 16, 1, 17, []int{1, 2, 3}},
		{d, 23, 23, 24, 24, []int{5, 6, 7, 9, 10, 11, 13, 14, 15}},
		{d, 24, 24, 25, 25, []int{10, 11, 14, 15}},
		{config(0, 9, 8), 8, 7, 9, 8, []int{0, 1}},
		{config(0, 13, 8), 12, 7, 13, 8, []int{0, 1}},
		{config(0, 14, 8), 13, 7, 14, 8, []int{1}},
		{config(0, 1, 1), 0, 0, 1, 1, []int{0}},
	} {
		for _, tri := range turned(flat(x.x0, x.z0, x.x1, x.z1)) {
			if l, e := Tris(x.c, tri); e != api.OK || !slices.Equal(l, x.want) {
				t.Errorf("%v, Clear %d: %v, %v; want %v", tri.V, x.c.Clear, l, e, x.want)
			}
		}
	}
}

// P6.2: a corner alone may hold the least or the greatest of X or Z; heights and ids tell nothing of tiles.
func TestTrisOfSlantedTriangles(t *testing.T) {
	c := config(0, 32, 32)
	for _, x := range []struct {
		v    [3]api.Vertex
		want []int
	}{
		{[3]api.Vertex{{X: 1, Z: 20}, {X: 20, Z: 1}, {X: 14, Z: 30}}, []int{0, 1, 2, 3, 4, 5, 6, 7, 8, 9, 10, 11, 12, 13, 14, 15}},
		{[3]api.Vertex{{X: 14, Z: 29}, {X: 13, Z: 31}, {X: 19, Z: 30}}, []int{13, 14}},
		{[3]api.Vertex{{X: 14, Y: -high, Z: 29}, {X: 13, Y: high, Z: 31}, {X: 19, Z: 30}}, []int{13, 14}},
		{[3]api.Vertex{{X: 29, Z: 14}, {X: 31, Z: 13}, {X: 30, Z: 19}}, []int{7, 11}},
	} {
		for _, id := range []int{1, 2, great} {
			for _, tri := range turned(api.Tri{Id: id, V: x.v}) {
				if l, e := Tris(c, tri); e != api.OK || !slices.Equal(l, x.want) {
					t.Errorf("%v: %v, %v; want %v", tri, l, e, x.want)
				}
			}
		}
	}
}

// P6.2: a triangle's id and each number of each corner at, one past and far past its bounds.
func TestTrisOfWrongTriangles(t *testing.T) {
	c := config(1, 17, 10)
	base := api.Tri{Id: 1, V: [3]api.Vertex{{X: 3, Y: 1, Z: 2}, {X: 9, Y: 4, Z: 3}, {X: 5, Y: 7, Z: 8}}}
	try := func(tri api.Tri, may bool) {
		t.Helper()
		l, e := Tris(c, tri)
		if may && (e != api.OK || len(l) == 0) || !may && (e != api.ErrTri || l != nil) {
			t.Errorf("%v: %v, %v", tri, l, e)
		}
	}
	hold := func(at func(*api.Tri) *int, lo, hi int) {
		t.Helper()
		for _, v := range append([]int{lo - 1, lo, hi, hi + 1}, extremes...) {
			tri := base
			*at(&tri) = v
			try(tri, lo <= v && v <= hi)
		}
	}
	hold(func(t *api.Tri) *int { return &t.Id }, 1, great)
	for i := range 3 {
		hold(func(t *api.Tri) *int { return &t.V[i].X }, 0, 17)
		hold(func(t *api.Tri) *int { return &t.V[i].Y }, -high, high)
		hold(func(t *api.Tri) *int { return &t.V[i].Z }, 0, 10)
	}
	try(api.Tri{}, false)
	try(api.Tri{Id: 1}, false)
	try(api.Tri{Id: 1, V: [3]api.Vertex{{}, {X: 4, Z: 4, Y: 1}, {X: 8, Z: 8}}}, false)
	try(api.Tri{Id: 1, V: [3]api.Vertex{{X: 17}, {X: 17, Z: 4, Y: 1}, {X: 17, Z: 8}}}, false)
	try(api.Tri{Id: 1, V: [3]api.Vertex{{X: 17}, {X: 16, Z: 1}, {X: 17, Z: 10}}}, true)
}

// boxMay goes over the words of the chapter one by one.
func boxMay(c api.Config, b api.Box) bool {
	if b.Id < 1 || b.Id > great {
		return false
	}
	if b.X0 > b.X1 || b.X0 < 0 || b.X0 > c.W-1 || b.X1 < 0 || b.X1 > c.W-1 {
		return false
	}
	if b.Z0 > b.Z1 || b.Z0 < 0 || b.Z0 > c.D-1 || b.Z1 < 0 || b.Z1 > c.D-1 {
		return false
	}
	if b.Y0 > b.Y1 || b.Y0 < -high || b.Y0 > high || b.Y1 < -high || b.Y1 > high {
		return false
	}
	return b.Area >= 0 && b.Area <= 7
}

// boxHolds holds Boxes against boxMay and the plan.
func (p plan) boxHolds(t *testing.T, b api.Box) {
	t.Helper()
	l, e := Boxes(p.c, b)
	if !boxMay(p.c, b) {
		if e != api.ErrArg || l != nil {
			t.Fatalf("W %d, D %d: the box %v may not be: %v, %v", p.c.W, p.c.D, b, l, e)
		}
		return
	}
	if want := p.each([4]int{b.X0, b.Z0, b.X1, b.Z1}); e != api.OK || !slices.Equal(l, want) {
		t.Fatalf("W %d, D %d, Clear %d: Boxes of %v is %v, %v; want %v", p.c.W, p.c.D, p.c.Clear, b, l, e, want)
	}
}

// P6.2: all boxes one way, alike and out of order, at the world's sides and past them; the other way they are one column.
func TestBoxesStretch(t *testing.T) {
	for _, clear := range []int{0, 3} {
		for _, n := range sides {
			wide, deep := planOf(config(clear, n, 9)), planOf(config(clear, 9, n))
			for from := -1; from <= n; from++ {
				for to := -1; to <= n; to++ {
					wide.boxHolds(t, api.Box{Id: 1, X0: from, X1: to, Z0: 8, Z1: 8})
					deep.boxHolds(t, api.Box{Id: 1, Z0: from, Z1: to})
				}
			}
		}
	}
}

// P6.2: boxes both ways at all bounds and beside them.
func TestBoxesBothWays(t *testing.T) {
	for _, c := range []api.Config{config(0, 1, 7), config(3, 8, 1), config(0, 9, 16)} {
		p := planOf(c)
		for _, x0 := range around(c.W, c.Clear) {
			for _, x1 := range around(c.W, c.Clear) {
				for _, z0 := range around(c.D, c.Clear) {
					for _, z1 := range around(c.D, c.Clear) {
						p.boxHolds(t, api.Box{Id: 1, X0: x0, Z0: z0, X1: x1, Z1: z1})
					}
				}
			}
		}
	}
}

// P6.2: ids, heights and areas at, one past and far past their bounds; two heights at once.
func TestBoxesOfWrongNumbers(t *testing.T) {
	p := planOf(config(0, 17, 10))
	base := api.Box{Id: 5, X0: 4, Z0: 3, X1: 12, Z1: 9, Y0: -1, Y1: 1, Area: 3}
	p.boxHolds(t, base)
	p.boxHolds(t, api.Box{})
	hold := func(at func(*api.Box) *int, values ...int) {
		t.Helper()
		for _, v := range append(values, extremes...) {
			b := base
			*at(&b) = v
			p.boxHolds(t, b)
		}
	}
	hold(func(b *api.Box) *int { return &b.Id }, -1, 0, 1, great, great+1)
	hold(func(b *api.Box) *int { return &b.X0 }, -1, 0, 12, 13, 16, 17)
	hold(func(b *api.Box) *int { return &b.X1 }, -1, 0, 3, 4, 16, 17)
	hold(func(b *api.Box) *int { return &b.Z0 }, -1, 0, 9, 10)
	hold(func(b *api.Box) *int { return &b.Z1 }, -1, 0, 2, 3, 9, 10)
	hold(func(b *api.Box) *int { return &b.Area }, -1, 0, 7, 8)
	heights := append([]int{-high - 1, -high, -high + 1, -1, 0, 1, high - 1, high, high + 1}, extremes...)
	for _, y0 := range heights {
		for _, y1 := range heights {
			b := base
			b.Y0, b.Y1 = y0, y1
			p.boxHolds(t, b)
		}
	}
	for _, x := range []struct {
		b   api.Box
		may bool
	}{
		{api.Box{Id: 1}, true},
		{api.Box{Id: 0}, false},
		{api.Box{Id: great, X1: 16, Z1: 9, Y0: -high, Y1: high, Area: 7}, true},
		{api.Box{Id: great + 1, X1: 16, Z1: 9, Y0: -high, Y1: high, Area: 7}, false},
		{api.Box{Id: 1, X0: 16, X1: 16, Z0: 9, Z1: 9, Y0: high, Y1: high}, true},
		{api.Box{Id: 1, X0: 17, X1: 17, Z0: 9, Z1: 9}, false},
		{api.Box{Id: 1, X0: 16, X1: 16, Z0: 10, Z1: 10}, false},
		{api.Box{Id: 1, X0: 1}, false},
		{api.Box{Id: 1, Z0: 1}, false},
		{api.Box{Id: 1, Y0: 1}, false},
	} {
		if l, e := Boxes(p.c, x.b); (e == api.OK) != x.may || (l != nil) != x.may {
			t.Errorf("%v: %v, %v", x.b, l, e)
		}
	}
}

// P6.2, R2: a config that may not be goes ahead of all that is wrong with a triangle or a box.
func TestErrorsInOrder(t *testing.T) {
	for _, c := range wrongConfigs() {
		for _, tri := range []api.Tri{flat(0, 0, 1, 1), {}, {Id: -1}, flat(-1, 0, 1, 1), {Id: 1}} {
			if l, e := Tris(c, tri); l != nil || e != api.ErrConfig {
				t.Errorf("%v, %v: %v, %v", c, tri, l, e)
			}
		}
		for _, b := range []api.Box{{Id: 1}, {}, {Id: 1, X0: 1}, {Id: 1, Area: 8}} {
			if l, e := Boxes(c, b); l != nil || e != api.ErrConfig {
				t.Errorf("%v, %v: %v, %v", c, b, l, e)
			}
		}
	}
}

// P6.3: each column of the world lies in just one tile, told by counting off the tiles' columns, and touches that.
func TestEachColumnLiesInOneTile(t *testing.T) {
	for c := range worlds {
		lies := map[[2]int]int{}
		tile := 0
		for z0 := 0; z0 < c.D; z0 += 8 {
			for x0 := 0; x0 < c.W; x0 += 8 {
				for z := z0; z < min(z0+8, c.D); z++ {
					for x := x0; x < min(x0+8, c.W); x++ {
						if _, twice := lies[[2]int{x, z}]; twice {
							t.Fatalf("column %d, %d lies in two tiles", x, z)
						}
						lies[[2]int{x, z}] = tile
					}
				}
				tile++
			}
		}
		if tile != Count(c) || len(lies) != c.W*c.D {
			t.Fatalf("W %d, D %d: %d tiles, %d columns; Count is %d", c.W, c.D, tile, len(lies), Count(c))
		}
		for at, tile := range lies {
			if !Touch(c, tile, at[0], at[1], at[0], at[1]) {
				t.Errorf("W %d, D %d: column %v does not touch tile %d, in which it lies", c.W, c.D, at, tile)
			}
		}
	}
}

// P6.3: a stretch touches what each of its columns touches, and nothing else.
func TestStretchesTouchWhatTheirColumnsTouch(t *testing.T) {
	for _, c := range []api.Config{config(0, 1, 1), config(3, 9, 7), config(0, 31, 16), config(3, 16, 32), config(1, 32, 8)} {
		for _, s := range [][4]int{{0, 0, 0, 0}, {-3, -3, 40, 40}, {3, 4, 11, 5}, {4, 3, 5, 12}, {7, 0, 8, 6}, {-1, -1, 12, 12}, {5, 5, 4, 5}, {20, 9, 29, 15}, {30, 31, 31, 32}, {40, 0, 50, 9}} {
			var want []int
			for z := s[1]; z <= s[3]; z++ {
				for x := s[0]; x <= s[2]; x++ {
					want = append(want, each(c, [4]int{x, z, x, z})...)
				}
			}
			slices.Sort(want)
			if got := each(c, s); !slices.Equal(got, slices.Compact(want)) {
				t.Errorf("W %d, D %d, Clear %d: %v touches %v; its columns %v", c.W, c.D, c.Clear, s, got, want)
			}
		}
	}
}

// P6.3: what a triangle or a box touches holds the tiles that it lies over.
func TestWhatLiesOverATileTouchesIt(t *testing.T) {
	c := config(0, 31, 17)
	for z := range c.D {
		for x := range c.W {
			tile := z/8*4 + x/8
			tris, e := Tris(c, flat(x, z, x+1, z+1))
			if e != api.OK || !slices.Contains(tris, tile) {
				t.Errorf("the triangle over %d, %d: %v, %v", x, z, tris, e)
			}
			boxes, e := Boxes(c, api.Box{Id: 1, X0: x, X1: x, Z0: z, Z1: z})
			if e != api.OK || !slices.Contains(boxes, tile) {
				t.Errorf("the box at %d, %d: %v, %v", x, z, boxes, e)
			}
		}
	}
}

// R3, R4: an answer is new memory: who writes over it, its spare room included, changes no other one.
func TestAnswersAreNewMemory(t *testing.T) {
	c, tri, box := config(0, 32, 32), flat(0, 0, 32, 32), api.Box{Id: 1, X1: 31, Z1: 31}
	spoil := func(l []int) {
		for i := range l[:cap(l)] {
			l[:cap(l)][i] = -7
		}
	}
	ask := func() [][]int {
		a, e := Tris(c, tri)
		b, f := Boxes(c, box)
		if e != api.OK || f != api.OK {
			t.Fatal(e, f)
		}
		return [][]int{a, b}
	}
	first, second := ask(), ask()
	for i := range first {
		want := slices.Clone(second[i])
		spoil(first[i])
		if !slices.Equal(second[i], want) {
			t.Errorf("answer %d changed with another one: %v", i, second[i])
		}
		if third := ask(); !slices.Equal(third[i], want) {
			t.Errorf("answer %d changed with an earlier one: %v", i, third[i])
		}
	}
}

// R3, R4: an iterator tells what there was when it was made, whatever becomes of what was handed in; lists that were answered are not its memory.
func TestIteratorsKeepWhatTheyWereMadeOf(t *testing.T) {
	c, s := config(0, 16, 16), [4]int{0, 0, 4, 4}
	seq := Each(c, s[0], s[1], s[2], s[3])
	c, s = config(3, 32, 32), [4]int{20, 20, 31, 31}
	other := Each(c, s[0], s[1], s[2], s[3])
	if l := slices.Collect(seq); !slices.Equal(l, []int{0, 1, 2, 3}) {
		t.Errorf("%v", l)
	}
	if l := slices.Collect(other); !slices.Equal(l, []int{5, 6, 7, 9, 10, 11, 13, 14, 15}) {
		t.Errorf("%v", l)
	}
}

// P6.1: the examples of the chapter.
func TestExamples(t *testing.T) {
	c := config(0, 32, 32)
	if l := each(c, [4]int{0, 0, 0, 0}); !slices.Equal(l, []int{0}) {
		t.Errorf("(0, 0) to (0, 0): %v", l)
	}
	if l := each(c, [4]int{4, 0, 4, 0}); !slices.Equal(l, []int{0, 1}) {
		t.Errorf("(4, 0) to (4, 0): %v", l)
	}
}
