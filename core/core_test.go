package core

import (
	"math"
	"slices"
	"strings"
	"testing"

	"footpath/api"
	"footpath/area"
	"footpath/bins"
	"footpath/field"
	"footpath/open"
	"footpath/soup"
	"footpath/whole"
)

const (
	high   = 2048 // the greatest height
	most   = 8    // spans of a column
	side   = 8    // columns of a tile, each way
	widest = 32   // columns of the world, each way
	great  = 1 << 30
	sky    = 1 << 20 // where the room above the topmost floor ends
)

// extremes are such as run over if one adds to them, multiplies them, turns them round, or keeps half of their bits.
var extremes = []int{math.MinInt, math.MinInt + 1, math.MinInt / 2, math.MinInt/8 - 1, math.MinInt / 8, -1 << 58, -1 << 40, -1<<32 - 1, -1 << 32, -1<<29 - 1, -1 << 29, 1 << 29, 1<<29 + 1, 1 << 32, 1<<32 + 1, 1 << 40, 1 << 58, 1 << 60, 1 << 61, 1<<61 + 1, 1 << 62, math.MaxInt/8 + 1, math.MaxInt - 1, math.MaxInt}

// config is one that may be, of Climb 1 and Height 3, in which one may walk up one height a column.
func config(clear, w, d int) api.Config {
	return api.Config{Clear: clear, Climb: 1, Height: 3, Rise: 1, Run: 1, W: w, D: d}
}

// goodConfigs may be, at each bound.
func goodConfigs() []api.Config {
	return []api.Config{
		{Clear: 0, Climb: 0, Height: 1, Rise: 0, Run: 1, W: 1, D: 1},
		{Clear: 3, Climb: 8, Height: 32, Rise: 100, Run: 100, W: 32, D: 32},
		{Clear: 3, Climb: 8, Height: 9, Rise: 100, Run: 1, W: 32, D: 1},
		{Clear: 1, Climb: 0, Height: 32, Rise: 0, Run: 100, W: 1, D: 32},
		{Clear: 2, Climb: 2, Height: 3, Rise: 7, Run: 9, W: 8, D: 20},
	}
}

// wrongConfigs have one field past its bounds, or nothing that may be.
func wrongConfigs() []api.Config {
	l := []api.Config{{}, {Height: 3}, {Height: -1, Climb: -3}, {W: 32, D: 32}}
	for _, good := range goodConfigs() {
		for i, bad := range [][]int{{-1, 4}, {-1, 9, good.Height}, {33, good.Climb, 0, -1}, {-1, 101}, {0, -1, 101}, {0, -1, 33}, {0, -1, 33}} {
			for _, n := range slices.Concat(bad, extremes) {
				c := good
				*[]*int{&c.Clear, &c.Climb, &c.Height, &c.Rise, &c.Run, &c.W, &c.D}[i] = n
				l = append(l, c)
			}
		}
	}
	return l
}

// stretch is, one way, which columns a tile has: told by going through all columns of the world. It answers the least of them, and how many there are.
func stretch(n, at int) (least, many int) {
	if at < -n || at > n { // so far off that what follows could run over
		return 0, 0
	}
	for x := n - 1; x >= 0; x-- {
		if side*at <= x && x <= side*at+side-1 {
			least, many = x, many+1
		}
	}
	return least, many
}

// P15.1: worlds of each size, each way.
func TestTilesOfAllWorlds(t *testing.T) {
	for w := 1; w <= widest; w++ {
		for d := 1; d <= widest; d++ {
			across, down := 0, 0
			for x := 0; x < w; x += side {
				across++
			}
			for z := 0; z < d; z += side {
				down++
			}
			for clear := range 4 {
				if gotW, gotD := Tiles(config(clear, w, d)); gotW != across || gotD != down {
					t.Fatalf("a world of %d by %d has %d by %d tiles; want %d by %d", w, d, gotW, gotD, across, down)
				}
			}
			if n := bins.Count(config(0, w, d)); n != across*down {
				t.Fatalf("layer 6 tells %d tiles of a world of %d by %d", n, w, d)
			}
		}
	}
}

// P15.1: the chapter's example, and sizes at and beside each tile's end.
func TestTilesTable(t *testing.T) {
	for _, x := range []struct{ w, d, across, down int }{
		{9, 8, 2, 1}, {8, 9, 1, 2}, {1, 1, 1, 1}, {7, 8, 1, 1}, {8, 7, 1, 1}, {8, 8, 1, 1}, {9, 9, 2, 2}, {1, 32, 1, 4}, {32, 1, 4, 1},
		{16, 15, 2, 2}, {15, 16, 2, 2}, {17, 16, 3, 2}, {16, 17, 2, 3}, {24, 25, 3, 4}, {25, 24, 4, 3}, {31, 32, 4, 4}, {32, 32, 4, 4},
	} {
		if w, d := Tiles(config(1, x.w, x.d)); w != x.across || d != x.down {
			t.Errorf("a world of %d by %d has %d by %d tiles; want %d by %d", x.w, x.d, w, d, x.across, x.down)
		}
	}
}

// tileHolds has Columns and Padded tell of a tile what going through the world's columns tells.
func tileHolds(t *testing.T, c api.Config, tx, tz int) {
	t.Helper()
	x, w := stretch(c.W, tx)
	z, d := stretch(c.D, tz)
	want, padded := [4]int{}, [4]int{}
	there := w > 0 && d > 0
	if there {
		pad := c.Clear + 4
		want, padded = [4]int{x, z, w, d}, [4]int{x - pad, z - pad, w + 2*pad, d + 2*pad}
	}
	var got [4]int
	var ok bool
	if got[0], got[1], got[2], got[3], ok = Columns(c, tx, tz); got != want || ok != there {
		t.Fatalf("Columns(%v, %d, %d) = %v, %v; want %v, %v", c, tx, tz, got, ok, want, there)
	}
	if got[0], got[1], got[2], got[3], ok = Padded(c, tx, tz); got != padded || ok != there {
		t.Fatalf("Padded(%v, %d, %d) = %v, %v; want %v, %v", c, tx, tz, got, ok, padded, there)
	}
}

// P15.1: each tile of each world, and those next to the world, each way.
func TestColumnsAndPaddedOfAllWorlds(t *testing.T) {
	for clear := range 4 {
		for w := 1; w <= widest; w++ {
			for d := 1; d <= widest; d++ {
				for tx := -2; tx <= 5; tx++ {
					for tz := -2; tz <= 5; tz++ {
						tileHolds(t, config(clear, w, d), tx, tz)
					}
				}
			}
		}
	}
}

// P15.1: whole tiles and cut ones, first and last ones, as numbers.
func TestColumnsAndPaddedTable(t *testing.T) {
	for _, x := range []struct {
		c               api.Config
		tx, tz          int
		columns, padded [4]int
		ok              bool
	}{
		{config(1, 16, 8), 1, 0, [4]int{8, 0, 8, 8}, [4]int{3, -5, 18, 18}, true},
		{config(0, 9, 8), 0, 0, [4]int{0, 0, 8, 8}, [4]int{-4, -4, 16, 16}, true},
		{config(0, 9, 8), 1, 0, [4]int{8, 0, 1, 8}, [4]int{4, -4, 9, 16}, true},
		{config(2, 20, 13), 2, 1, [4]int{16, 8, 4, 5}, [4]int{10, 2, 16, 17}, true},
		{config(3, 32, 32), 3, 0, [4]int{24, 0, 8, 8}, [4]int{17, -7, 22, 22}, true},
		{config(3, 32, 32), 0, 3, [4]int{0, 24, 8, 8}, [4]int{-7, 17, 22, 22}, true},
		{config(3, 32, 32), 1, 2, [4]int{8, 16, 8, 8}, [4]int{1, 9, 22, 22}, true},
		{config(3, 1, 1), 0, 0, [4]int{0, 0, 1, 1}, [4]int{-7, -7, 15, 15}, true},
		{config(1, 32, 7), 3, 0, [4]int{24, 0, 8, 7}, [4]int{19, -5, 18, 17}, true},
		{config(0, 9, 8), 2, 0, [4]int{}, [4]int{}, false},
		{config(0, 9, 8), 0, 1, [4]int{}, [4]int{}, false},
		{config(0, 9, 8), -1, 0, [4]int{}, [4]int{}, false},
		{config(0, 9, 8), 0, -1, [4]int{}, [4]int{}, false},
		{config(0, 9, 8), -1, -1, [4]int{}, [4]int{}, false},
		{config(0, 9, 8), 2, 1, [4]int{}, [4]int{}, false},
		{config(4, 9, 8), 0, 0, [4]int{}, [4]int{}, false},
	} {
		var got [4]int
		var ok bool
		if got[0], got[1], got[2], got[3], ok = Columns(x.c, x.tx, x.tz); got != x.columns || ok != x.ok {
			t.Errorf("Columns(%v, %d, %d) = %v, %v; want %v", x.c, x.tx, x.tz, got, ok, x.columns)
		}
		if got[0], got[1], got[2], got[3], ok = Padded(x.c, x.tx, x.tz); got != x.padded || ok != x.ok {
			t.Errorf("Padded(%v, %d, %d) = %v, %v; want %v", x.c, x.tx, x.tz, got, ok, x.padded)
		}
	}
}

// P15.1: tiles as far off as an int reaches, each way.
func TestColumnsAndPaddedFarOff(t *testing.T) {
	for _, c := range append(goodConfigs(), config(0, 9, 8), config(3, 32, 32)) {
		for _, n := range slices.Concat(extremes, []int{-1, 4, 5, 8}) {
			for _, at := range [][2]int{{n, 0}, {0, n}, {n, n}, {n, -1}, {-1, n}, {n, math.MaxInt}, {math.MinInt, n}} {
				tileHolds(t, c, at[0], at[1])
			}
		}
	}
}

// P15.1: of a config that may not be there is no tile.
func TestTilesOfWrongConfigs(t *testing.T) {
	for _, c := range wrongConfigs() {
		if e := whole.Check(c); e != api.ErrConfig {
			t.Fatalf("Check(%v) = %v", c, e)
		}
		if w, d := Tiles(c); w != 0 || d != 0 {
			t.Errorf("Tiles(%v) = %d, %d", c, w, d)
		}
		for _, at := range [][2]int{{0, 0}, {1, 0}, {0, 1}, {-1, -1}, {math.MaxInt, math.MinInt}} {
			if x, z, w, d, ok := Columns(c, at[0], at[1]); ok || [4]int{x, z, w, d} != [4]int{} {
				t.Errorf("Columns(%v, %v) = %d, %d, %d, %d, %v", c, at, x, z, w, d, ok)
			}
			if x, z, w, d, ok := Padded(c, at[0], at[1]); ok || [4]int{x, z, w, d} != [4]int{} {
				t.Errorf("Padded(%v, %v) = %d, %d, %d, %d, %v", c, at, x, z, w, d, ok)
			}
		}
	}
}

// P15.1: a column of the world is in a tile's padded box just if layer 6 tells that it touches that tile.
func TestPaddedIsWhatLayer6Touches(t *testing.T) {
	for clear := range 4 {
		for _, size := range [][2]int{{32, 32}, {9, 31}, {17, 8}} {
			c := config(clear, size[0], size[1])
			across, down := Tiles(c)
			for tile := range across * down {
				x0, z0, w, d, _ := Padded(c, tile%across, tile/across)
				for x := range c.W {
					for z := range c.D {
						in := x0 <= x && x < x0+w && z0 <= z && z < z0+d
						if bins.Touch(c, tile, x, z, x, z) != in {
							t.Fatalf("column %d, %d touches tile %d of %v: %v", x, z, tile, c, !in)
						}
					}
				}
			}
		}
	}
}

func v(x, y, z int) api.Vertex { return api.Vertex{X: x, Y: y, Z: z} }

// ramp is two triangles from one corner to another one that rise by x from a height to another one.
func ramp(x0, z0, x1, z1, from, to int) []api.Tri {
	return []api.Tri{
		{V: [3]api.Vertex{v(x0, from, z0), v(x0, from, z1), v(x1, to, z1)}},
		{V: [3]api.Vertex{v(x0, from, z0), v(x1, to, z1), v(x1, to, z0)}},
	}
}

// slab is flat. It lies over the columns that it touches with its sides alone, too: from x0 - 1, z0 - 1 to x1, z1.
func slab(x0, z0, x1, z1, y int) []api.Tri { return ramp(x0, z0, x1, z1, y, y) }

// tower is so many slabs, one over another, that are as many spans.
func tower(n, x0, z0, x1, z1 int) []api.Tri {
	var l []api.Tri
	for k := range n {
		l = append(l, slab(x0, z0, x1, z1, 100+2*k)...)
	}
	return l
}

// hole is a box of area 0 through all heights.
func hole(x0, z0, x1, z1 int) api.Box {
	return api.Box{X0: x0, X1: x1, Z0: z0, Z1: z1, Y0: -high, Y1: high}
}

// flat is a floor throughout the world.
func flat(c api.Config) []api.Tri { return slab(0, 0, c.W, c.D, 0) }

// soupOf gives triangles and boxes ids from 1 on.
func soupOf(tris []api.Tri, boxes ...api.Box) api.Soup {
	s := api.Soup{Tris: slices.Clone(tris), Boxes: slices.Clone(boxes)}
	for i := range s.Tris {
		s.Tris[i].Id = i + 1
	}
	for i := range s.Boxes {
		s.Boxes[i].Id = i + 1
	}
	return s
}

func copiedSoup(s api.Soup) api.Soup {
	return api.Soup{Tris: slices.Clone(s.Tris), Boxes: slices.Clone(s.Boxes), Hops: slices.Clone(s.Hops)}
}

// sameSoup is told without layer 5.
func sameSoup(a, b api.Soup) bool {
	return slices.Equal(a.Tris, b.Tris) && slices.Equal(a.Boxes, b.Boxes) && slices.Equal(a.Hops, b.Hops)
}

// model is a world that was built at once: of each column its floors, and how clear each is.
type model struct {
	c      api.Config
	floors [][]api.Floor
	far    [][]int
}

func atOnce(t *testing.T, c api.Config, s api.Soup) model {
	t.Helper()
	if e := soup.Check(c, s); e != api.OK {
		t.Fatalf("the soup %v may not be: %v", s, e)
	}
	g, e := open.Build(c, s.Tris, 0, 0, c.W, c.D)
	if e != api.OK {
		t.Fatal(e)
	}
	if g, e = area.Mark(c, g, s.Boxes); e != api.OK {
		t.Fatal(e)
	}
	far, e := field.Build(c, g)
	if e != api.OK {
		t.Fatal(e)
	}
	return model{c, g.Floors, far}
}

// core are a column's floors that are clear enough.
func (m model) core(x, z int) []api.Floor {
	var l []api.Floor
	i := z*m.c.W + x
	for k, n := range m.far[i] {
		if n > m.c.Clear {
			l = append(l, m.floors[i][k])
		}
	}
	return l
}

// gridHolds has a grid be that of those columns, each of which has the model's core floors.
func (m model) gridHolds(t *testing.T, g api.Grid, x, z, w, d int) {
	t.Helper()
	if [4]int{g.X, g.Z, g.W, g.D} != [4]int{x, z, w, d} || len(g.Floors) != w*d {
		t.Fatalf("the grid lies at %d, %d, has %d by %d columns, %d in all; want %d, %d, %d by %d", g.X, g.Z, g.W, g.D, len(g.Floors), x, z, w, d)
	}
	for i, l := range g.Floors {
		if want := m.core(x+i%w, z+i/w); !slices.Equal(l, want) || len(l) == 0 && l != nil {
			t.Fatalf("%v: column %d, %d has %v; want %v", m.c, x+i%w, z+i/w, l, want)
		}
	}
	if e := open.Check(g); e != api.OK {
		t.Fatalf("the grid %v may not be: %v", g, e)
	}
}

func (m model) tileHolds(t *testing.T, s api.Soup, tx, tz int) {
	t.Helper()
	g, e := Build(m.c, s, tx, tz)
	if e != api.OK {
		t.Fatalf("Build of tile %d, %d is refused: %v", tx, tz, e)
	}
	x, w := stretch(m.c.W, tx)
	z, d := stretch(m.c.D, tz)
	m.gridHolds(t, g, x, z, w, d)
}

func (m model) clearHolds(t *testing.T, s api.Soup, x, z int) {
	t.Helper()
	l, e := Clear(m.c, s, x, z)
	if want := m.far[z*m.c.W+x]; e != api.OK || !slices.Equal(l, want) || len(l) == 0 && l != nil {
		t.Fatalf("Clear(%v, .., %d, %d) = %v, %v; want %v", m.c, x, z, l, e, want)
	}
}

// worldHolds has Build of each tile, World, and Clear of a column of each tell what a world does that was built at once; it answers that.
func worldHolds(t *testing.T, c api.Config, s api.Soup) model {
	t.Helper()
	was := copiedSoup(s)
	m := atOnce(t, c, s)
	g, e := World(c, s)
	if e != api.OK {
		t.Fatalf("World is refused: %v", e)
	}
	m.gridHolds(t, g, 0, 0, c.W, c.D)
	for tz := 0; tz*side < c.D; tz++ {
		for tx := 0; tx*side < c.W; tx++ {
			m.tileHolds(t, s, tx, tz)
			x, z := tx*side, tz*side
			switch (tx + 2*tz) % 3 {
			case 0:
				m.clearHolds(t, s, x, min(z+side, c.D)-1)
			case 1:
				m.clearHolds(t, s, min(x+side, c.W)-1, z)
			default:
				m.clearHolds(t, s, min(x+2, c.W-1), min(z+5, c.D-1))
			}
		}
	}
	if !sameSoup(s, was) {
		t.Fatalf("of the soup %v, %v is left", was, s)
	}
	return m
}

// counts are how many floors there are of each clearance, in all.
func (m model) counts() map[int]int {
	n := map[int]int{}
	for _, l := range m.far {
		for _, far := range l {
			n[far]++
		}
	}
	return n
}

// shown has of each column of a grid how many floors it has; . for none.
func shown(g api.Grid) string {
	var rows []string
	for z := range g.D {
		row := ""
		for x := range g.W {
			row += string(".123456789"[len(g.Floors[z*g.W+x])])
		}
		rows = append(rows, row)
	}
	return strings.Join(rows, " ")
}

// P15.2, P15.3: flat worlds of each kind of size, by numbers: a column's floor is as clear as it is far from the nearest side.
func TestFlatWorlds(t *testing.T) {
	for clear := range 4 {
		for _, size := range [][2]int{{1, 1}, {1, 32}, {7, 8}, {8, 7}, {8, 8}, {9, 8}, {9, 9}, {8, 17}, {16, 9}, {17, 16}, {13, 20}, {32, 9}} {
			c := config(clear, size[0], size[1])
			s := soupOf(flat(c))
			m := worldHolds(t, c, s)
			g, _ := World(c, s)
			for x := range c.W {
				for z := range c.D {
					far := min(x, z, c.W-1-x, c.D-1-z, clear+3)
					var want []api.Floor
					if far >= clear+1 {
						want = []api.Floor{{Y: 0, Top: sky, Area: 1}}
					}
					if got := m.far[z*c.W+x]; !slices.Equal(got, []int{far}) {
						t.Fatalf("%v: the clearances of %d, %d are %v; want %d", c, x, z, got, far)
					}
					if got := g.Floors[z*c.W+x]; !slices.Equal(got, want) {
						t.Fatalf("%v: column %d, %d has %v; want %v", c, x, z, got, want)
					}
				}
			}
		}
	}
}

// P15.2: the tile that a world of TileSide by TileSide is, by pictures, with each Clear.
func TestBuildOfOneTile(t *testing.T) {
	for clear, want := range []string{
		"........ .111111. .111111. .111111. .111111. .111111. .111111. ........",
		"........ ........ ..1111.. ..1111.. ..1111.. ..1111.. ........ ........",
		"........ ........ ........ ...11... ...11... ........ ........ ........",
		"........ ........ ........ ........ ........ ........ ........ ........",
	} {
		c := config(clear, 8, 8)
		g, e := Build(c, soupOf(flat(c)), 0, 0)
		if got := shown(g); e != api.OK || got != want {
			t.Errorf("with Clear %d there is %s, %v; want %s", clear, got, e, want)
		}
	}
}

// P15.2: one hole in the midst, one at a tile's border, one in the pad, by pictures of both tiles of a world of 16 by 9.
func TestBuildRoundAHole(t *testing.T) {
	c := config(1, 16, 9)
	for _, x := range []struct {
		name        string
		b           api.Box
		first, next string
	}{
		{"no hole", api.Box{Y0: 5, Y1: 5},
			"........ ........ ..111111 ..111111 ..111111 ..111111 ..111111 ........ ........",
			"........ ........ 111111.. 111111.. 111111.. 111111.. 111111.. ........ ........"},
		{"at the corner of the tiles' border", hole(7, 4, 7, 4),
			"........ ........ ..111... ..111... ..111... ..111... ..111... ........ ........",
			"........ ........ ..1111.. ..1111.. ..1111.. ..1111.. ..1111.. ........ ........"},
		{"one column on", hole(8, 4, 8, 4),
			"........ ........ ..1111.. ..1111.. ..1111.. ..1111.. ..1111.. ........ ........",
			"........ ........ ...111.. ...111.. ...111.. ...111.. ...111.. ........ ........"},
		{"in the tile beside", hole(10, 4, 10, 4),
			"........ ........ ..111111 ..111111 ..111111 ..111111 ..111111 ........ ........",
			"........ ........ .....1.. .....1.. .....1.. .....1.. .....1.. ........ ........"},
		{"one column nearer, with just no room for the first tile's last columns", hole(9, 4, 9, 4),
			"........ ........ ..11111. ..11111. ..11111. ..11111. ..11111. ........ ........",
			"........ ........ ....11.. ....11.. ....11.. ....11.. ....11.. ........ ........"},
		{"at a side", hole(9, 0, 9, 0),
			"........ ........ ..11111. ..111111 ..111111 ..111111 ..111111 ........ ........",
			"........ ........ ....11.. 111111.. 111111.. 111111.. 111111.. ........ ........"},
		{"a row across", hole(0, 0, 15, 0),
			"........ ........ ........ ..111111 ..111111 ..111111 ..111111 ........ ........",
			"........ ........ ........ 111111.. 111111.. 111111.. 111111.. ........ ........"},
		{"all", hole(0, 0, 15, 8),
			"........ ........ ........ ........ ........ ........ ........ ........ ........",
			"........ ........ ........ ........ ........ ........ ........ ........ ........"},
	} {
		t.Run(x.name, func(t *testing.T) {
			s := soupOf(flat(c), x.b)
			worldHolds(t, c, s)
			// The last row of tiles is of one row of columns, none of which is clear.
			for tx, want := range []string{x.first, x.next} {
				g, e := Build(c, s, tx, 0)
				more, e2 := Build(c, s, tx, 1)
				if got := shown(g) + " " + shown(more); e != api.OK || e2 != api.OK || got != want {
					t.Errorf("tile %d shows %s, %v, %v; want %s", tx, got, e, e2, want)
				}
			}
		})
	}
}

// P15.2, P15.4: a hole as far from the first tile's last column as it may be: in that tile, in the tile beside, within the pad and beyond; in x and in z.
func TestHolesBesideATile(t *testing.T) {
	for clear := range 4 {
		narrow := 2*clear + 5
		for at := 4; at <= 7+clear+6; at++ {
			for _, turned := range []bool{false, true} {
				c, b := config(clear, 24, narrow), hole(at, 0, at, narrow-1)
				if turned {
					c, b = config(clear, narrow, 24), hole(0, at, narrow-1, at)
				}
				s := soupOf(flat(c), b)
				g, e := Build(c, s, 0, 0)
				if e != api.OK {
					t.Fatal(e)
				}
				for along := range side {
					far := min(max(along-at, at-along, 1)-1, along, clear+2) // the midst is Clear + 2 from both sides
					x, z := along, clear+2
					if turned {
						x, z = z, x
					}
					if some := len(g.Floors[z*g.W+x]) == 1; some != (far >= clear+1) {
						t.Errorf("with Clear %d and a hole at %d, column %d, %d keeps clear: %v", clear, at, x, z, some)
					}
					if along < side-2 {
						continue
					}
					if l, e := Clear(c, s, x, z); e != api.OK || !slices.Equal(l, []int{max(far, 0)}) {
						t.Errorf("with Clear %d and a hole at %d, Clear of %d, %d is %v, %v; want %d", clear, at, x, z, l, e, far)
					}
				}
			}
		}
	}
}

// P15.2: a strip just wide enough for one row that keeps clear, and one that is a column less wide.
func TestStripsThatAreJustWideEnough(t *testing.T) {
	for clear := range 4 {
		for wide, some := range map[int]bool{2*clear + 2: false, 2*clear + 3: true, 2*clear + 4: true} {
			c := config(clear, 32, wide)
			s := soupOf(flat(c))
			worldHolds(t, c, s)
			g, _ := World(c, s)
			for x := range c.W {
				n := 0
				for z := range c.D {
					n += len(g.Floors[z*c.W+x])
				}
				want := 0
				if some && x > clear && x < 31-clear {
					want = wide - 2*(clear+1)
				}
				if n != want {
					t.Fatalf("with Clear %d, a strip of %d has %d floors at %d; want %d", clear, wide, n, x, want)
				}
			}
		}
	}
}

// storeys are slabs of unlike extent: the lowest throughout, one of the midst, one of a half, one of three rows, too narrow for any to keep clear but with Clear 0.
func storeys(c api.Config) []api.Tri {
	return slices.Concat(flat(c), slab(2, 1, c.W-6, c.D-1, 10), slab(c.W/2, 0, c.W, c.D, 20), slab(0, 5, c.W, 6, 30))
}

// P15.2: columns of several floors: of which some keep clear, in the order in which they rise.
func TestBuildOfStoreys(t *testing.T) {
	seen := map[string]int{}
	for clear := range 4 {
		c := config(clear, 20, 17)
		s := soupOf(storeys(c))
		m := worldHolds(t, c, s)
		g, _ := World(c, s)
		for i, l := range g.Floors {
			kept := ""
			last := -high
			for _, f := range l {
				if f.Y <= last {
					t.Fatalf("column %d has %v", i, l)
				}
				last = f.Y
				kept += string("abcd"[f.Y/10])
				if f.Y == 30 && clear > 0 {
					t.Fatalf("with Clear %d column %d has %v, of a slab that is too narrow", clear, i, l)
				}
			}
			seen[kept]++
			if len(l) < len(m.floors[i]) && len(l) > 0 {
				seen["less"]++
			}
		}
		for x := range c.W { // one column through all storeys, floor by floor
			m.clearHolds(t, s, x, 6)
		}
	}
	for _, kept := range []string{"", "a", "ab", "abc", "ac", "ad", "abcd", "less"} {
		if seen[kept] == 0 {
			t.Errorf("no column keeps %q: %v", kept, seen)
		}
	}
}

// P15.2: of three floors of a column, each choice of those that keep clear: what is not kept has a hole in it.
func TestBuildKeepsEachChoiceOfFloors(t *testing.T) {
	c := config(0, 9, 9)
	for choice := range 8 {
		var boxes []api.Box
		var want []api.Floor
		for k, y := range []int{0, 10, 20} {
			if choice>>k&1 == 0 {
				b := hole(4, 4, 4, 4)
				b.Y0, b.Y1 = y, y
				boxes = append(boxes, b)
				continue
			}
			want = append(want, api.Floor{Y: y, Top: []int{10, 20, sky}[k], Area: 1})
		}
		s := soupOf(slices.Concat(flat(c), slab(0, 0, 9, 9, 10), slab(0, 0, 9, 9, 20)), boxes...)
		worldHolds(t, c, s)
		for _, at := range [][2]int{{4, 4}, {3, 4}, {5, 5}} {
			g, e := Build(c, s, 0, 0)
			if got := open.At(g, at[0], at[1]); e != api.OK || !slices.Equal(got, want) {
				t.Errorf("of choice %d, column %v has %v, %v; want %v", choice, at, got, e, want)
			}
			var far []int
			for k := range 3 {
				n := 0
				if choice>>k&1 == 1 {
					n = 3
				}
				far = append(far, min(n, 4-max(4-at[0], at[0]-4)))
			}
			if l, e := Clear(c, s, at[0], at[1]); e != api.OK || !slices.Equal(l, far) {
				t.Errorf("of choice %d, Clear of %v is %v, %v; want %v", choice, at, l, e, far)
			}
		}
	}
}

// P15.2: ramps from a ground to a storey above it, across tiles; up by one height a column, which may be walked, and by two, which may not.
func TestBuildOfRamps(t *testing.T) {
	for clear := range 4 {
		for _, up := range []int{1, 2} {
			c := config(clear, 30, 13)
			s := soupOf(slices.Concat(slab(0, 0, 8, 13, 0), ramp(8, 0, 20, 13, 0, 12*up), slab(20, 0, 30, 13, 12*up)))
			worldHolds(t, c, s)
			g, _ := World(c, s)
			for x := clear + 1; x < 29-clear; x++ {
				l := g.Floors[6*c.W+x]
				some := up == 1 || x+clear+1 <= 7 || x-clear-1 >= 19 // where the slabs' last columns are not the ramp's
				if (len(l) == 1) != some {
					t.Errorf("up by %d with Clear %d, column %d, 6 has %v", up, clear, x, l)
				}
			}
		}
	}
}

// marked is a soup of boxes of unlike areas, one over another, at tiles' sides and across them, of ids that go neither by area nor by place.
func marked(c api.Config) api.Soup {
	box := func(id, x0, z0, x1, z1, y0, y1, area int) api.Box {
		return api.Box{Id: id, X0: x0, Z0: z0, X1: x1, Z1: z1, Y0: y0, Y1: y1, Area: area}
	}
	s := soupOf(slices.Concat(flat(c), slab(0, 0, c.W, c.D, 9)))
	s.Boxes = []api.Box{
		box(2, 0, 0, 9, 9, 0, 0, 3),
		box(5, 7, 2, 8, 6, -1, 9, 7),
		box(6, 8, 0, 8, 3, 9, 9, 0),
		box(9, 8, 3, 15, 3, 9, 20, 2),
		box(12, 6, 6, 6, 6, 0, 9, 0),
		box(30, 6, 6, 6, 6, 0, 0, 4),
		box(great, 15, 0, 16, 12, 0, high, 5),
	}
	return s
}

// P15.2: boxes of areas 0 to 7, one over another; a floor keeps the area of the greatest id, and its place in the column.
func TestBuildWithAreas(t *testing.T) {
	for clear := range 4 {
		c := config(clear, 24, 13)
		s := marked(c)
		worldHolds(t, c, s)
		all := s.Boxes
		for i := range all {
			s.Boxes = slices.Concat(all[:i], all[i+1:])
			if i%2 == clear%2 {
				worldHolds(t, c, s)
			}
		}
	}
	c := config(0, 24, 13)
	g, e := World(c, marked(c))
	if e != api.OK {
		t.Fatal(e)
	}
	for _, x := range []struct {
		x, z int
		want []api.Floor
	}{
		{2, 2, []api.Floor{{Y: 0, Top: 9, Area: 3}, {Y: 9, Top: sky, Area: 1}}},
		{8, 5, []api.Floor{{Y: 0, Top: 9, Area: 7}, {Y: 9, Top: sky, Area: 7}}},
		{8, 2, []api.Floor{{Y: 0, Top: 9, Area: 7}}},
		{9, 2, []api.Floor{{Y: 0, Top: 9, Area: 3}}},
		{12, 3, []api.Floor{{Y: 0, Top: 9, Area: 1}, {Y: 9, Top: sky, Area: 2}}},
		{6, 6, []api.Floor{{Y: 0, Top: 9, Area: 4}}},
		{15, 3, []api.Floor{{Y: 0, Top: 9, Area: 5}, {Y: 9, Top: sky, Area: 5}}},
		{16, 8, []api.Floor{{Y: 0, Top: 9, Area: 5}, {Y: 9, Top: sky, Area: 5}}},
		{17, 8, []api.Floor{{Y: 0, Top: 9, Area: 1}, {Y: 9, Top: sky, Area: 1}}},
		{0, 5, nil},
	} {
		if got := open.At(g, x.x, x.z); !slices.Equal(got, x.want) {
			t.Errorf("column %d, %d has %v; want %v", x.x, x.z, got, x.want)
		}
	}
}

// P15.2, P15.3: a soup of nothing; a soup of no triangle, with boxes and hops; triangles of which none may be walked.
func TestSoupsOfNothing(t *testing.T) {
	hops := []api.Hop{{Id: 3, From: api.Spot{X: 1}, To: api.Spot{X: 2}, Area: 1}}
	for clear := range 4 {
		for _, size := range [][2]int{{1, 1}, {8, 8}, {9, 17}, {32, 3}} {
			c := config(clear, size[0], size[1])
			l := []api.Soup{{}, {Tris: []api.Tri{}, Boxes: []api.Box{}, Hops: []api.Hop{}}, soupOf(nil, hole(0, 0, 0, 0))}
			if c.W > 2 {
				l = append(l, api.Soup{Hops: hops})
			}
			l = append(l, soupOf(ramp(0, 0, c.W, c.D, 0, 2*c.W)))
			for i, s := range l {
				m := worldHolds(t, c, s)
				g, _ := World(c, s)
				if len(g.Floors) != c.W*c.D || slices.ContainsFunc(g.Floors, func(l []api.Floor) bool { return l != nil }) {
					t.Fatalf("soup %d has %v", i, g)
				}
				if far, e := Clear(c, s, c.W-1, c.D-1); e != api.OK || far != nil || m.counts()[0] != 0 {
					t.Fatalf("Clear of soup %d is %v, %v", i, far, e)
				}
			}
		}
	}
}

// refused has Build, Clear and World answer an error, and nothing beside it.
func refused(t *testing.T, c api.Config, s api.Soup, tx, tz, x, z int, build, clear, world api.Errno) {
	t.Helper()
	was := copiedSoup(s)
	if g, e := Build(c, s, tx, tz); e != build || e != api.OK && !none(g) {
		t.Fatalf("Build(%v, %v, %d, %d) = %v, %v; want %v", c, s, tx, tz, g, e, build)
	}
	if l, e := Clear(c, s, x, z); e != clear || e != api.OK && l != nil {
		t.Fatalf("Clear(%v, %v, %d, %d) = %v, %v; want %v", c, s, x, z, l, e, clear)
	}
	if g, e := World(c, s); e != world || e != api.OK && !none(g) {
		t.Fatalf("World(%v, %v) = %v, %v; want %v", c, s, g, e, world)
	}
	if !sameSoup(s, was) {
		t.Fatalf("of the soup %v, %v is left", was, s)
	}
}

func none(g api.Grid) bool {
	return g.X == 0 && g.Z == 0 && g.W == 0 && g.D == 0 && g.Floors == nil
}

// P15.2, P15.3: a column of nine spans in each place of a tile, in its pad's first and last column alone, and one column beyond; in x, in z, at corners.
func TestFullColumnsRoundATile(t *testing.T) {
	for clear := range 4 {
		c := config(clear, 32, 32)
		pad := clear + 4
		first, last := 8-pad, 15+pad
		ground := flat(c)
		free := soupOf(ground)
		m := atOnce(t, c, free)
		for _, x := range []struct {
			x, z int // the tower lies over these columns, and over those next to them
			full bool
		}{
			{10, 10, true}, {8, 8, true}, {15, 15, true}, {15, 8, true}, {8, 15, true},
			{first - 1, 10, true}, {first - 2, 10, false}, {last + 1, 10, true}, {last + 2, 10, false},
			{10, first - 1, true}, {10, first - 2, false}, {10, last + 1, true}, {10, last + 2, false},
			{first - 1, first - 1, true}, {last + 1, last + 1, true}, {first - 1, last + 1, true}, {last + 1, first - 1, true},
			{first - 2, first - 1, false}, {first - 1, first - 2, false}, {first - 2, last + 1, false}, {first - 1, last + 2, false},
			{last + 2, first - 1, false}, {last + 1, first - 2, false}, {last + 2, last + 1, false}, {last + 1, last + 2, false},
		} {
			if x.x < 0 || x.z < 0 {
				continue // no triangle lies there
			}
			s := soupOf(slices.Concat(ground, tower(most, x.x, x.z, x.x+1, x.z+1)))
			if x.full {
				refused(t, c, s, 1, 1, 9, 14, api.ErrFull, api.ErrFull, api.ErrFull)
				continue
			}
			refused(t, c, s, 1, 1, 9, 14, api.OK, api.OK, api.ErrFull)
			m.tileHolds(t, s, 1, 1)
			m.clearHolds(t, s, 15, 8)
		}
	}
}

// P15.2: just as many spans as there may be; one more.
func TestFullColumnsByOne(t *testing.T) {
	c := config(0, 9, 9)
	for n := 1; n <= most+2; n++ {
		s := soupOf(tower(n, 4, 4, 5, 5))
		if n <= most {
			worldHolds(t, c, s)
			continue
		}
		refused(t, c, s, 0, 0, 8, 8, api.ErrFull, api.ErrFull, api.ErrFull)
	}
}

// P15.3: columns of too many spans in each tile of a world, in two of them; the world is refused, but tiles far off are not.
func TestWorldOfFullColumns(t *testing.T) {
	c := config(0, 32, 25)
	ground := flat(c)
	m := atOnce(t, c, soupOf(ground))
	across, down := Tiles(c)
	for tile := range across * down {
		x, z := tile%across*side, tile/across*side
		one := tower(most, x, z, x+1, z+1)
		other := tower(most, 31-x, max(1, 24-z)-1, 32-x, max(1, 24-z))
		s := soupOf(slices.Concat(ground, one))
		refused(t, c, s, tile%across, tile/across, x, z, api.ErrFull, api.ErrFull, api.ErrFull)
		refused(t, c, soupOf(slices.Concat(ground, one, other)), tile%across, tile/across, x, z, api.ErrFull, api.ErrFull, api.ErrFull)
		for off := range across * down {
			apartX, apartZ := off%across-tile%across, off/across-tile/across
			if apartX < -2 || apartX > 1 || apartZ < -2 || apartZ > 1 {
				m.tileHolds(t, s, off%across, off/across)
			}
		}
	}
	for _, size := range [][2]int{{8, 8}, {1, 1}, {32, 5}, {5, 32}, {9, 9}} { // one tile, one row, one column of tiles
		c := config(1, size[0], size[1])
		s := soupOf(tower(most+1, c.W-1, c.D-1, c.W, c.D))
		if _, e := World(c, s); e != api.ErrFull {
			t.Errorf("World of %v answers %v", size, e)
		}
		s = soupOf(tower(most+1, 0, 0, 1, 1))
		if _, e := World(c, s); e != api.ErrFull {
			t.Errorf("World of %v answers %v", size, e)
		}
		worldHolds(t, c, soupOf(tower(most, 0, 0, 1, 1)))
	}
}

// wrongSoups may not be by a config of 9 columns by 10, in each way that layer 5's chapter names.
func wrongSoups() []api.Soup {
	tri := func(id int, a, b, c api.Vertex) api.Tri { return api.Tri{Id: id, V: [3]api.Vertex{a, b, c}} }
	good := func(id int) api.Tri { return tri(id, v(0, 0, 0), v(9, 0, 0), v(0, 0, 10)) }
	box := func(id int) api.Box { return api.Box{Id: id, X1: 8, Z1: 9, Y1: 3, Area: 1} }
	hop := func(id int) api.Hop { return api.Hop{Id: id, To: api.Spot{X: 8, Z: 9}, Area: 1} }
	tris := func(l ...api.Tri) api.Soup { return api.Soup{Tris: l} }
	boxes := func(l ...api.Box) api.Soup { return api.Soup{Boxes: l} }
	hops := func(l ...api.Hop) api.Soup { return api.Soup{Hops: l} }
	var l []api.Soup
	for _, id := range slices.Concat(extremes, []int{-1, 0, great + 1}) {
		if id >= 1 && id <= great {
			continue
		}
		l = append(l, tris(good(id)), boxes(box(id)), hops(hop(id)))
	}
	l = append(l, tris(good(2), good(2)), tris(good(3), good(2)), boxes(box(2), box(2)), boxes(box(3), box(2)), hops(hop(2), hop(2)), hops(hop(3), hop(2)))
	for i := range 9 {
		for _, n := range slices.Concat(extremes, []int{-high - 1, high + 1}) {
			x := good(1)
			*[]*int{&x.V[0].X, &x.V[0].Y, &x.V[0].Z, &x.V[1].X, &x.V[1].Y, &x.V[1].Z, &x.V[2].X, &x.V[2].Y, &x.V[2].Z}[i] = n
			l = append(l, tris(x), tris(good(1), tri(5, x.V[0], x.V[1], x.V[2])))
		}
	}
	l = append(l, tris(tri(1, v(-1, 0, 0), v(9, 0, 0), v(0, 0, 10))), tris(tri(1, v(0, 0, 0), v(10, 0, 0), v(0, 0, 10))), tris(tri(1, v(0, 0, 0), v(9, 0, 0), v(0, 0, 11))), tris(tri(1, v(0, 0, -1), v(9, 0, 0), v(0, 0, 10))),
		tris(tri(1, v(1, 0, 1), v(2, 0, 2), v(3, 0, 3))), tris(tri(1, v(1, 0, 1), v(1, 9, 1), v(3, 0, 3))), tris(api.Tri{Id: 1}))
	for i, bad := range [][]int{{-1, 9}, {-1, 9}, {-1, 10}, {-1, 10}, {-high - 1, 4}, {high + 1, -1}, {-1, 8}} {
		for _, n := range slices.Concat(extremes, bad) {
			x := box(1)
			*[]*int{&x.X0, &x.X1, &x.Z0, &x.Z1, &x.Y0, &x.Y1, &x.Area}[i] = n
			l = append(l, boxes(x), boxes(box(1), named(x, 7)))
		}
	}
	for i, bad := range [][]int{{-1, 9}, {-1, 10}, {-high - 1, high + 1}, {-1, 9}, {-1, 10}, {-high - 1, high + 1}, {0, 8, -1}, {-1, 1<<20 + 1}} {
		for _, n := range slices.Concat(extremes, bad) {
			x := hop(1)
			*[]*int{&x.From.X, &x.From.Z, &x.From.Y, &x.To.X, &x.To.Z, &x.To.Y, &x.Area, &x.Cost}[i] = n
			l = append(l, hops(x))
		}
	}
	var many api.Soup
	for id := 1; id <= api.MaxTris+1; id++ {
		many.Tris = append(many.Tris, good(id))
	}
	for id := 1; id <= api.MaxBoxes+1; id++ {
		many.Boxes, many.Hops = append(many.Boxes, box(id)), append(many.Hops, hop(id))
	}
	return append(l, tris(many.Tris...), boxes(many.Boxes...), hops(many.Hops...))
}

func named(b api.Box, id int) api.Box {
	b.Id = id
	return b
}

// P15.2, P15.3: soups that may not be, in each way, alone and with a tile or a column that there is not, and with a column of too many spans.
func TestWrongSoups(t *testing.T) {
	c := config(1, 9, 10)
	full := soupOf(tower(most+1, 4, 4, 5, 5))
	for _, s := range wrongSoups() {
		if e := soup.Check(c, s); e != api.ErrArg {
			t.Fatalf("Check(%v) = %v", s, e)
		}
		for _, at := range [][4]int{{0, 0, 0, 0}, {1, 1, 8, 9}, {2, 0, 9, 0}, {0, -1, 0, -1}, {math.MinInt, math.MaxInt, math.MaxInt, math.MinInt}} {
			refused(t, c, s, at[0], at[1], at[2], at[3], api.ErrArg, api.ErrArg, api.ErrArg)
		}
		if s.Tris == nil {
			s.Tris = full.Tris
			refused(t, c, s, 0, 0, 4, 4, api.ErrArg, api.ErrArg, api.ErrArg)
		}
	}
	full.Hops = []api.Hop{{Id: 1, Area: 9}}
	refused(t, c, full, 0, 0, 4, 4, api.ErrArg, api.ErrArg, api.ErrArg)
}

// P15.2, R2: a config that may not be is told of first, whatever else may not be.
func TestWrongConfigs(t *testing.T) {
	bad := []api.Soup{{}, soupOf(slab(0, 0, 1, 1, 0)), soupOf(tower(most+1, 0, 0, 1, 1)), {Tris: []api.Tri{{}}}, {Hops: make([]api.Hop, 99)}}
	for _, c := range wrongConfigs() {
		for i, s := range bad {
			at := [][2]int{{0, 0}, {-1, 0}, {0, 99}, {math.MaxInt, math.MinInt}}[i%4]
			refused(t, c, s, at[0], at[1], at[1], at[0], api.ErrConfig, api.ErrConfig, api.ErrConfig)
		}
	}
}

// P15.2: tiles and columns that there are not, each way, also beside columns of too many spans.
func TestNoSuchTilesAndColumns(t *testing.T) {
	for _, c := range []api.Config{config(1, 9, 10), config(0, 8, 8), config(3, 32, 32), config(2, 1, 16), config(0, 31, 1)} {
		across, down := Tiles(c)
		flats, full := soupOf(flat(c)), soupOf(slices.Concat(flat(c), tower(most, 0, 0, 1, 1)))
		for _, n := range slices.Concat(extremes, []int{-8, -7, -1, 32, 33, 40}) {
			for _, s := range []api.Soup{flats, full} {
				for _, at := range [][2]int{{n, 0}, {0, n}, {n, n}, {-1, n}, {n, math.MaxInt}} {
					if g, e := Build(c, s, at[0], at[1]); e != api.ErrArg || !none(g) {
						t.Fatalf("Build of tile %v = %v, %v", at, g, e)
					}
					if l, e := Clear(c, s, at[0], at[1]); e != api.ErrArg || l != nil {
						t.Fatalf("Clear of column %v = %v, %v", at, l, e)
					}
				}
			}
		}
		for _, s := range []api.Soup{flats, full} {
			for _, at := range [][2]int{{across, 0}, {0, down}, {across, down}, {across - 1, down}, {across, down - 1}, {-1, 0}, {0, -1}} {
				if g, e := Build(c, s, at[0], at[1]); e != api.ErrArg || !none(g) {
					t.Fatalf("Build of tile %v = %v, %v", at, g, e)
				}
			}
			for _, at := range [][2]int{{c.W, 0}, {0, c.D}, {c.W, c.D}, {c.W - 1, c.D}, {c.W, c.D - 1}, {-1, 0}, {0, -1}, {-1, -1}, {c.W - 1, -1}} {
				if l, e := Clear(c, s, at[0], at[1]); e != api.ErrArg || l != nil {
					t.Fatalf("Clear of column %v = %v, %v", at, l, e)
				}
			}
		}
		if l, e := Clear(c, flats, c.W-1, c.D-1); e != api.OK || !slices.Equal(l, []int{0}) {
			t.Errorf("Clear of the world's last column is %v, %v", l, e)
		}
		if l, e := Clear(c, flats, 0, 0); e != api.OK || !slices.Equal(l, []int{0}) {
			t.Errorf("Clear of the world's first column is %v, %v", l, e)
		}
	}
}

// P15.2: Clear of each column of a world of several storeys, so that all clearances there are, up to Clear + 3, are told.
func TestClearOfEachColumn(t *testing.T) {
	for clear := range 4 {
		c := config(clear, 14, 13)
		s := soupOf(slices.Concat(flat(c), slab(1, 3, 8, 12, 9)), hole(0, 12, 0, 12))
		m := atOnce(t, c, s)
		floors := map[int]int{}
		for x := range c.W {
			for z := range c.D {
				m.clearHolds(t, s, x, z)
				floors[len(m.far[z*c.W+x])]++
			}
		}
		counts := m.counts()
		for n := range clear + 4 {
			if counts[n] == 0 {
				t.Errorf("with Clear %d no floor has %d", clear, n)
			}
		}
		if len(counts) != clear+4 || floors[1] == 0 || floors[2] == 0 {
			t.Errorf("with Clear %d there are %v, in columns of %v floors", clear, counts, floors)
		}
	}
	c := config(1, 9, 9)
	s := soupOf(slices.Concat(slab(2, 0, 8, 9, 0), slab(3, 0, 5, 9, 5), slab(3, 0, 5, 9, 10)))
	for x, want := range [][]int{nil, {0}, {0, 0, 0}, {1, 1, 1}, {1, 1, 1}, {0, 0, 0}, {0}, {0}, {0}} {
		l, e := Clear(c, s, x, 4)
		if x >= 2 && x <= 5 { // the storeys' own sides cut what is below them nowhere: their room is enough
			want[0] = min(x-1, 8-x)
		}
		if x == 6 || x == 7 {
			want[0] = 8 - x
		}
		if e != api.OK || !slices.Equal(l, want) {
			t.Errorf("Clear of %d, 4 is %v, %v; want %v", x, l, e, want)
		}
	}
}

// P15.2: Clear at the world's ends, and at both sides of each border of tiles, each way.
func TestClearAtTheBordersOfTiles(t *testing.T) {
	borders := []int{0, 7, 8, 15, 16, 23, 24, 31}
	for clear := range 4 {
		c := config(clear, 32, 32)
		s := soupOf(flat(c))
		for i, x := range borders {
			for _, z := range []int{borders[(i+clear)%8], borders[(i+clear+4)%8]} {
				want := min(x, z, 31-x, 31-z, clear+3)
				if l, e := Clear(c, s, x, z); e != api.OK || !slices.Equal(l, []int{want}) {
					t.Errorf("with Clear %d, Clear of %d, %d is %v, %v; want %d", clear, x, z, l, e, want)
				}
			}
		}
	}
}

// numbers are told by a rule: the same in each run, and without a pattern that a world has.
type numbers struct{ state uint32 }

func (n *numbers) below(bound int) int {
	n.state = n.state*1664525 + 1013904223
	return int(n.state>>8) % bound
}

// strewn is a soup of a ground, slabs and ramps above it, and boxes, most of them near the borders of tiles.
func strewn(c api.Config, slabs, boxes int, seed uint32) api.Soup {
	rule := &numbers{seed}
	between := func(n int) (lo, hi int) { // two lattice points, both of the world
		lo = rule.below(n)
		return lo, min(n, lo+1+rule.below(14))
	}
	near := func(n int) (lo, hi int) { // columns that are few, by a border of tiles
		at := rule.below(n/side+1)*side + rule.below(5) - 2
		lo = min(max(at, 0), n-1)
		return lo, min(n-1, lo+rule.below(2))
	}
	tris := slab(0, 0, c.W, c.D, -6)
	for range slabs {
		x0, x1 := between(c.W)
		z0, z1 := between(c.D)
		y := rule.below(3) * 7
		if rule.below(2) == 0 {
			tris = append(tris, slab(x0, z0, x1, z1, y)...)
		} else {
			tris = append(tris, ramp(x0, z0, x1, z1, y, y+rule.below(x1-x0+2))...)
		}
	}
	var marks []api.Box
	for range boxes {
		x0, x1 := near(c.W)
		z0, z1 := near(c.D)
		y := (rule.below(20)-2)*rule.below(2) - 6
		marks = append(marks, api.Box{X0: x0, X1: x1, Z0: z0, Z1: z1, Y0: y, Y1: y + rule.below(12), Area: rule.below(8) * rule.below(2)})
	}
	return soupOf(tris, marks...)
}

// P15.4: strewn worlds of several tiles, with each Clear, in which floors of each clearance, and columns of several core floors, come often enough.
func TestStrewnWorlds(t *testing.T) {
	for clear := range 4 {
		counts, kept, held := map[int]int{}, map[int]int{}, 0
		for seed := range uint32(7) {
			size := [][2]int{{17, 16}, {32, 9}, {20, 25}, {24, 24}, {9, 31}, {32, 20}, {25, 17}}[seed%7]
			c := config(clear, size[0], size[1])
			s := strewn(c, 4+int(seed)%4, 2+int(seed)%5, seed*7+uint32(clear))
			if _, e := open.Build(c, s.Tris, 0, 0, c.W, c.D); e != api.OK {
				continue
			}
			m := worldHolds(t, c, s)
			held++
			for n, many := range m.counts() {
				counts[n] += many
			}
			for x := range c.W {
				for z := range c.D {
					kept[len(m.core(x, z))]++
				}
			}
		}
		if held < 5 || len(counts) != clear+4 || kept[0] < 300 || kept[1] < 100 || kept[2] < 4 {
			t.Errorf("with Clear %d %d worlds have clearances %v, columns that keep so many floors: %v", clear, held, counts, kept)
		}
	}
}

// P15.4: an edge in each place round the corner of four tiles, in a world of which each of them sees another part.
func TestEdgesRoundACorner(t *testing.T) {
	for clear := range 4 {
		c := config(clear, 17, 17)
		for at := range 64 {
			if at%8 != clear && at/8 != 4+clear {
				continue // each Clear has other columns of them
			}
			x, z := 5+at%8, 5+at/8
			worldHolds(t, c, soupOf(flat(c), hole(x, z, x, z)))
		}
	}
}

// touching is a soup of those triangles and boxes alone that touch a tile's padded box, by their stretches, told by numbers.
func touching(c api.Config, s api.Soup, tx, tz int) api.Soup {
	x0, z0, w, d, _ := Padded(c, tx, tz)
	in := func(loX, loZ, hiX, hiZ int) bool {
		return max(loX, x0, 0) <= min(hiX, x0+w-1, c.W-1) && max(loZ, z0, 0) <= min(hiZ, z0+d-1, c.D-1)
	}
	var of api.Soup
	for _, t := range s.Tris {
		a, b, e := t.V[0], t.V[1], t.V[2]
		if in(min(a.X, b.X, e.X)-1, min(a.Z, b.Z, e.Z)-1, max(a.X, b.X, e.X), max(a.Z, b.Z, e.Z)) {
			of.Tris = append(of.Tris, t)
		}
	}
	for _, b := range s.Boxes {
		if in(b.X0, b.Z0, b.X1, b.Z1) {
			of.Boxes = append(of.Boxes, b)
		}
	}
	return of
}

func sameGrid(a, b api.Grid) bool {
	return [4]int{a.X, a.Z, a.W, a.D} == [4]int{b.X, b.Z, b.W, b.D} &&
		slices.EqualFunc(a.Floors, b.Floors, func(l, m []api.Floor) bool { return slices.Equal(l, m) })
}

// P15.5: what does not touch a tile's padded box may go, all at once and one by one; hops too.
func TestOnlyWhatTouchesCounts(t *testing.T) {
	gone, changed := 0, 0
	for seed := range uint32(4) {
		c := config(int(seed)%4, 32, 24)
		s := strewn(c, 9, 12, 900+seed)
		s.Hops = []api.Hop{{Id: 2, To: api.Spot{X: 31, Z: 3}, Area: 2}, {Id: 4, From: api.Spot{X: 9, Z: 9, Y: -6}, Area: 1, Cost: 7, Both: true}}
		across, down := Tiles(c)
		for tile := range across * down {
			tx, tz := tile%across, tile/across
			want, e := Build(c, s, tx, tz)
			near := touching(c, s, tx, tz)
			gone += len(s.Tris) + len(s.Boxes) - len(near.Tris) - len(near.Boxes)
			got, e2 := Build(c, near, tx, tz)
			if e != e2 || !sameGrid(got, want) {
				t.Fatalf("tile %d, %d of %v is %v, %v; of what touches it alone, %v, %v", tx, tz, s, want, e, got, e2)
			}
			for i, b := range s.Boxes {
				less := s
				less.Boxes = slices.Concat(s.Boxes[:i], s.Boxes[i+1:])
				got, e2 := Build(c, less, tx, tz)
				stays := e == e2 && sameGrid(got, want)
				if !stays && !slices.Contains(near.Boxes, b) {
					t.Fatalf("tile %d, %d of %v hangs on the box %v", tx, tz, s, b)
				}
				if !stays {
					changed++
				}
			}
		}
	}
	if gone < 100 || changed < 8 {
		t.Errorf("%d triangles and boxes touch some tile not, %d boxes change one", gone, changed)
	}
}

// P15.5: triangles that touch the padded box's first and last column alone, and ones that end a column ahead of it: the former may make the tile refused, the latter may be as many as they will.
func TestTrianglesAtThePaddedBoxsEnds(t *testing.T) {
	for clear := range 4 {
		c := config(clear, 32, 9)
		turned := api.Config{Clear: clear, Climb: 1, Height: 3, Rise: 1, Run: 1, W: 9, D: 32}
		last := 15 + clear + 4
		first := 16 - clear - 4
		for _, x := range []struct {
			tile, from, to int // the tower's lattice points
			full           bool
		}{
			{1, last + 1, last + 3, true}, {1, last + 2, last + 4, false}, {2, first - 3, first - 1, false}, {2, first - 2, first, true},
			{2, first - 3, first - 2, false}, {2, first, first + 1, true}, {1, last, last + 1, true},
		} {
			for _, y := range []struct {
				c      api.Config
				s      api.Soup
				tx, tz int
			}{
				{c, soupOf(slices.Concat(flat(c), tower(most, x.from, 0, x.to, 9))), x.tile, 0},
				{turned, soupOf(slices.Concat(flat(turned), tower(most, 0, x.from, 9, x.to))), 0, x.tile},
			} {
				g, e := Build(y.c, y.s, y.tx, y.tz)
				without, _ := Build(y.c, soupOf(flat(y.c)), y.tx, y.tz)
				if x.full && (e != api.ErrFull || !none(g)) || !x.full && (e != api.OK || !sameGrid(g, without)) {
					t.Errorf("with Clear %d and a tower from %d to %d, tile %d, %d is %v, %v", clear, x.from, x.to, y.tx, y.tz, g, e)
				}
			}
		}
	}
}

// P15.5: boxes in the padded box's first and last column alone, and ones that end a column ahead of it, change nothing of a flat tile: its floors look less far than the pad reaches.
func TestBoxesAtThePaddedBoxsEnds(t *testing.T) {
	for clear := range 4 {
		c := config(clear, 32, 32)
		free := soupOf(flat(c))
		want, _ := Build(c, free, 1, 1)
		first, last := 8-clear-4, 15+clear+4
		for _, at := range []int{first - 1, first, first + 1, last - 1, last, last + 1} {
			for _, b := range []api.Box{hole(at, 0, at, 31), hole(0, at, 31, at), hole(at, at, at, at)} {
				s := soupOf(flat(c), b)
				if got, e := Build(c, s, 1, 1); e != api.OK || !sameGrid(got, want) {
					t.Errorf("with Clear %d the box %v changes the tile: %v, %v", clear, b, got, e)
				}
				// What is next to a hole has 0, so that just the hole in the pad's last column but one is near enough to count.
				for _, x := range []int{8, 15} {
					far := clear + 3
					if b.Z0 == 0 && b.Z1 == 31 && max(x-at, at-x) == clear+3 {
						far--
					}
					if l, e := Clear(c, s, x, 12); e != api.OK || !slices.Equal(l, []int{far}) {
						t.Errorf("with Clear %d and the box %v, Clear of %d, 12 is %v, %v", clear, b, x, l, e)
					}
				}
			}
		}
		for _, x := range []struct{ at, far int }{{16, 0}, {17, 1}, {18, 2}, {19, 3}, {20, 4}, {21, 5}, {22, 6}} {
			s := soupOf(flat(c), hole(x.at, 0, x.at, 31))
			if l, e := Clear(c, s, 15, 16); e != api.OK || !slices.Equal(l, []int{min(x.far, clear+3)}) {
				t.Errorf("with Clear %d and a hole at %d, Clear of 15, 16 is %v, %v", clear, x.at, l, e)
			}
		}
	}
}

// blot writes over a list, and over the spare room behind it.
func blot[T any](l []T, with T) {
	for i := range l[:cap(l)] {
		l[:cap(l)][i] = with
	}
}

// roomy is the same list with spare room behind it, and all of it.
func roomy[T any](l []T, spare T) (short, all []T) {
	all = append(slices.Clone(l), spare, spare, spare)
	return all[:len(l)], all
}

func copied(g api.Grid) api.Grid {
	g.Floors = slices.Clone(g.Floors)
	for i := range g.Floors {
		g.Floors[i] = slices.Clone(g.Floors[i])
	}
	return g
}

// R3, R4: what is handed in stays, its spare room, too, which counts for nothing; no two columns of an answer share memory, nor do two answers, nor an answer and what was handed in.
func TestMemory(t *testing.T) {
	c := config(0, 9, 10)
	given := marked(config(0, 17, 13))
	given.Tris = soupOf(slices.Concat(flat(c), slab(0, 0, c.W, c.D, 9))).Tris
	given.Boxes = given.Boxes[:1]
	given.Boxes[0].X1 = 8
	given.Hops = []api.Hop{{Id: 4, Area: 3}}
	for _, call := range []func(s api.Soup) (api.Grid, api.Errno){
		func(s api.Soup) (api.Grid, api.Errno) { return Build(c, s, 0, 0) },
		func(s api.Soup) (api.Grid, api.Errno) { return Build(c, s, 1, 1) },
		func(s api.Soup) (api.Grid, api.Errno) { return World(c, s) },
	} {
		want, e := call(given)
		if e != api.OK {
			t.Fatal(e)
		}
		want = copied(want)
		for i := range want.Floors {
			s, tris, boxes, hops := given, []api.Tri(nil), []api.Box(nil), []api.Hop(nil)
			s.Tris, tris = roomy(given.Tris, given.Tris[0])
			s.Boxes, boxes = roomy(given.Boxes, hole(0, 0, 8, 9))
			s.Hops, hops = roomy(given.Hops, api.Hop{Id: 4})
			wasTris, wasBoxes, wasHops := slices.Clone(tris), slices.Clone(boxes), slices.Clone(hops)
			one, _ := call(s)
			two, _ := call(s)
			if !sameGrid(one, want) || !sameGrid(two, want) {
				t.Fatalf("there is %v, then %v; want %v", one, two, want)
			}
			if !slices.Equal(tris, wasTris) || !slices.Equal(boxes, wasBoxes) || !slices.Equal(hops, wasHops) {
				t.Fatalf("%v, %v, %v are left", tris, boxes, hops)
			}
			blot(one.Floors[i], api.Floor{Y: 77, Top: 78})
			for other, l := range one.Floors {
				if other != i && !slices.Equal(l, want.Floors[other]) {
					t.Fatalf("column %d became %v by what was written over column %d", other, l, i)
				}
			}
			blot(one.Floors, []api.Floor{{Y: 5}})
			blot(tris, api.Tri{})
			blot(boxes, api.Box{})
			blot(hops, api.Hop{})
			if !sameGrid(two, want) {
				t.Fatalf("%v has become %v by what was written over other memory", want, two)
			}
		}
	}
	memoryOfClear(t, c, given)
}

func memoryOfClear(t *testing.T, c api.Config, given api.Soup) {
	s, tris, boxes := given, []api.Tri(nil), []api.Box(nil)
	s.Tris, tris = roomy(given.Tris, given.Tris[0])
	s.Boxes, boxes = roomy(given.Boxes, hole(0, 0, 8, 9))
	wasTris, wasBoxes := slices.Clone(tris), slices.Clone(boxes)
	one, _ := Clear(c, s, 3, 4)
	two, e := Clear(c, s, 3, 4)
	if e != api.OK || !slices.Equal(one, []int{3, 3}) || !slices.Equal(two, one) {
		t.Fatalf("there is %v, then %v, %v", one, two, e)
	}
	if !slices.Equal(tris, wasTris) || !slices.Equal(boxes, wasBoxes) {
		t.Fatalf("%v, %v are left", tris, boxes)
	}
	blot(one, 99)
	blot(tris, api.Tri{})
	blot(boxes, api.Box{})
	if !slices.Equal(two, []int{3, 3}) {
		t.Fatalf("there is %v after other memory was written over", two)
	}
}
