package links

import (
	"math"
	"math/big"
	"slices"
	"testing"

	"footpath/api"
	"footpath/open"
	"footpath/whole"
)

const (
	high     = 2048 // the greatest height
	most     = 8    // floors of a column
	mostArea = 7
	sky      = 1 << 20 // where the room above the topmost floor ends
	far      = 64      // where grids may begin, and how wide they may be
	bound    = 1 << 40 // of heights and Tops
)

// extremes are such as run over if one adds to them, multiplies them, turns them round, or keeps half of their bits.
var extremes = []int{math.MinInt, math.MinInt + 1, math.MinInt / 2, -1 << 58, -1 << 40, -1<<32 - 1, -1 << 32, 1 << 32, 1<<32 + 1, 1 << 40, 1 << 58, 1 << 62, math.MaxInt - 1, math.MaxInt}

// config is one that may be, of that Climb and Height.
func config(climb, height int) api.Config {
	return api.Config{Climb: climb, Height: height, Run: 1, W: 8, D: 8}
}

func f(y, top, area int) api.Floor { return api.Floor{Y: y, Top: top, Area: area} }

// p is a floor of area 1.
func p(y, top int) api.Floor { return f(y, top, 1) }

func col(l ...api.Floor) []api.Floor { return l }

// at is where a floor is: its column, and its place there.
type at struct{ x, z, k int }

// goodConfigs may be, at each bound.
func goodConfigs() []api.Config {
	return []api.Config{
		{Clear: 0, Climb: 0, Height: 1, Rise: 0, Run: 1, W: 1, D: 1},
		{Clear: 3, Climb: 8, Height: 32, Rise: 100, Run: 100, W: 32, D: 32},
		{Clear: 3, Climb: 8, Height: 9, Rise: 100, Run: 1, W: 32, D: 1},
		{Clear: 1, Climb: 0, Height: 32, Rise: 0, Run: 100, W: 1, D: 32},
		{Clear: 2, Climb: 2, Height: 3, Rise: 7, Run: 9, W: 8, D: 20},
	}
}

// wrongConfigs have one field past its bounds, or nothing that may be.
func wrongConfigs() []api.Config {
	l := []api.Config{{}, {Height: 3}, {Height: -1, Climb: -3}}
	for _, good := range goodConfigs() {
		for i, bad := range [][]int{{-1, 4}, {-1, 9, good.Height}, {33, good.Climb, 0, -1}, {-1, 101}, {0, -1, 101}, {0, -1, 33}, {0, -1, 33}} {
			for _, n := range slices.Concat(bad, extremes) {
				c := good
				*[]*int{&c.Clear, &c.Climb, &c.Height, &c.Rise, &c.Run, &c.W, &c.D}[i] = n
				l = append(l, c)
			}
		}
	}
	return l
}

// wide is whether two floors are linked, by the words of the chapter, in numbers that run over nothing.
func wide(c api.Config, a, b api.Floor) bool {
	n := func(i int) *big.Int { return big.NewInt(int64(i)) }
	less := func(a, b int) *big.Int { return new(big.Int).Sub(n(a), n(b)) }
	for _, i := range []int{a.Y, a.Top, b.Y, b.Top} {
		if i < -bound || i > bound {
			return false
		}
	}
	if a.Area < 1 || b.Area < 1 || less(a.Y, b.Y).CmpAbs(n(c.Climb)) > 0 {
		return false
	}
	for _, top := range []int{a.Top, b.Top} {
		for _, y := range []int{a.Y, b.Y} {
			if less(top, y).Cmp(n(c.Height)) < 0 {
				return false
			}
		}
	}
	return true
}

// linkedHolds has Linked answer so, both ways about.
func linkedHolds(t *testing.T, c api.Config, a, b api.Floor, want bool) {
	t.Helper()
	if got := Linked(c, a, b); got != want {
		t.Fatalf("Linked(%v, %v, %v) = %v", c, a, b, got)
	}
	if got := Linked(c, b, a); got != want {
		t.Fatalf("Linked(%v, %v, %v) = %v; the other way about it is %v", c, b, a, got, want)
	}
}

// P13.1: the chapter's examples and the edges that the words name.
func TestLinkedTable(t *testing.T) {
	for _, x := range []struct {
		name          string
		climb, height int
		a, b          api.Floor
		want          bool
	}{
		{"the chapter's first", 1, 3, p(0, 9), p(1, 9), true},
		{"the chapter's second", 1, 3, p(0, 9), p(2, 9), false},
		{"the chapter's third", 1, 3, p(0, 3), p(1, 9), false},
		{"one height", 1, 3, p(5, 9), p(5, 9), true},
		{"one height, one more than room", 1, 3, p(5, 9), p(5, 8), true},
		{"one height, one less than room", 1, 3, p(5, 9), p(5, 7), false},
		{"just Climb, below 0", 2, 3, p(-9, 9), p(-7, 9), true},
		{"one more, below 0", 2, 3, p(-9, 9), p(-6, 9), false},
		{"just Climb, round 0", 2, 3, p(-1, 9), p(1, 9), true},
		{"one more, round 0", 2, 3, p(-1, 9), p(2, 9), false},
		{"the greatest Climb", 8, 9, p(0, 99), p(8, 99), true},
		{"one more than the greatest Climb", 8, 9, p(0, 99), p(9, 99), false},
		{"Climb 0, one height", 0, 1, p(4, 5), p(4, 5), true},
		{"Climb 0, one height on", 0, 1, p(4, 9), p(5, 9), false},
		{"Climb 0, no room", 0, 1, p(4, 4), p(4, 5), false},
		{"room counts from the greater height", 1, 3, p(0, 4), p(1, 9), true},
		{"one less from the greater height", 1, 3, p(0, 3), p(1, 9), false},
		{"the greater height's own Top is the lesser one", 1, 3, p(0, 9), p(1, 4), true},
		{"and has one less", 1, 3, p(0, 9), p(1, 3), false},
		{"both Tops are the same", 1, 3, p(0, 4), p(1, 4), true},
		{"both Tops are the same, one less", 1, 3, p(0, 3), p(1, 3), false},
		{"both have room, and not in common", 2, 3, p(0, 4), p(2, 9), false},
		{"the one's Top is at the other's height", 2, 3, p(0, 2), p(2, 9), false},
		{"the one's Top is below the other's height", 2, 3, p(0, 1), p(2, 9), false},
		{"a Top at its height", 1, 3, p(0, 0), p(0, 9), false},
		{"both Tops at their heights", 1, 3, p(0, 0), p(0, 0), false},
		{"a Top below its height", 1, 3, p(9, 0), p(9, 20), false},
		{"both Tops below their heights", 1, 3, p(9, 0), p(9, 0), false},
		{"Tops far below their heights", 1, 3, p(9, -bound), p(9, -bound), false},
		{"nothing", 1, 3, api.Floor{}, api.Floor{}, false},
		{"area 0", 1, 3, f(0, 9, 0), f(0, 9, 1), false},
		{"both of area 0", 1, 3, f(0, 9, 0), f(0, 9, 0), false},
		{"unlike areas", 1, 3, f(0, 9, 1), f(0, 9, 7), true},
		{"an area below 0", 1, 3, f(0, 9, -1), f(0, 9, 1), false},
		{"areas below 0", 1, 3, f(0, 9, -1), f(0, 9, -1), false},
		{"an area past MaxArea", 1, 3, f(0, 9, mostArea+1), f(0, 9, 1), true},
		{"up to the Sky", 1, 32, p(high, sky), p(high, sky), true},
		{"at the least height", 1, 32, p(-high, sky), p(-high, 32-high), true},
		{"the greatest Height, one less", 1, 32, p(-high, sky), p(-high, 31-high), false},
	} {
		c := config(x.climb, x.height)
		for _, got := range []bool{Linked(c, x.a, x.b), Linked(c, x.b, x.a), wide(c, x.a, x.b), wide(c, x.b, x.a)} {
			if got != x.want {
				t.Errorf("%s: Linked(%v, %v, %v) = %v", x.name, c, x.a, x.b, got)
			}
		}
	}
}

// P13.1: areas of the one, of the other, of both, as far off as an int reaches.
func TestLinkedAreas(t *testing.T) {
	areas := slices.Concat(extremes, []int{-2, -1, 0, 1, 2, mostArea, mostArea + 1})
	for _, one := range areas {
		for _, other := range areas {
			linkedHolds(t, config(1, 3), f(0, 9, one), f(1, 9, other), one > 0 && other > 0)
		}
	}
}

// P13.1: all floors among few heights, those whose Top is at or below their height among them, told by counting heights one by one.
func TestLinkedOfAllSmallFloors(t *testing.T) {
	const lo, hi = -3, 4
	var all []api.Floor
	for y := lo; y <= hi; y++ {
		for top := lo; top <= hi; top++ {
			all = append(all, p(y, top))
		}
	}
	count := func(ok func(y int) bool) int {
		n := 0
		for y := lo; y <= hi; y++ {
			if ok(y) {
				n++
			}
		}
		return n
	}
	for _, a := range all {
		for _, b := range all {
			apart := count(func(y int) bool { return (a.Y < y) != (b.Y < y) })
			room := count(func(y int) bool { return a.Y < y && b.Y < y && y <= a.Top && y <= b.Top })
			for climb := range 4 {
				for height := climb + 1; height <= climb+4; height++ {
					c, want := config(climb, height), apart <= climb && room >= height
					linkedHolds(t, c, a, b, want)
					if wide(c, a, b) != want {
						t.Fatalf("wide(%v, %v, %v) = %v", c, a, b, !want)
					}
				}
			}
		}
	}
}

// P13.1: each Climb and Height, at and one past each, wherever the floors are.
func TestLinkedAtEachClimbAndHeight(t *testing.T) {
	for climb := range 9 {
		for height := climb + 1; height <= 32; height++ {
			c := config(climb, height)
			for _, y := range []int{-bound, -high, -climb, -1, 0, 5, high, bound - climb - height - 2} {
				for up := range climb + 2 {
					greater := y + up
					for _, room := range []int{height - 1, height, height + 1} {
						want := up <= climb && room >= height
						linkedHolds(t, c, p(y, greater+room), p(greater, bound), want)
						linkedHolds(t, c, p(y, bound), p(greater, greater+room), want)
						linkedHolds(t, c, p(y, greater+room), p(greater, greater+room), want)
					}
				}
			}
		}
	}
}

// P13.1: heights and Tops at their bounds, one past each, and as far off as an int reaches: each alone, and all together.
func TestLinkedFarOff(t *testing.T) {
	for _, c := range []api.Config{config(1, 2), config(0, 1), config(8, 9)} {
		for _, x := range []struct {
			a, b api.Floor
			want bool
		}{
			{p(-bound, bound), p(-bound, bound), true},
			{p(-bound-1, bound), p(-bound, bound), false},
			{p(-bound-1, bound), p(-bound-1, bound), false},
			{p(-bound, bound+1), p(-bound, bound), false},
			{p(-bound, bound+1), p(-bound, bound+1), false},
			{p(-bound, c.Height-bound), p(-bound, bound), true},
			{p(-bound, -bound), p(-bound, bound), false},
			{p(-bound, -bound-1), p(-bound, bound), false},
			{p(-bound, bound), p(c.Climb-bound, bound), true},
			{p(-bound, bound), p(c.Climb+1-bound, bound), false},
			{p(0, bound), p(0, bound), true},
			{p(0, bound+1), p(0, bound), false},
			{p(0, bound), p(0, math.MaxInt), false},
			{p(bound-c.Height, bound), p(bound-c.Height, bound), true},
			{p(bound-c.Height, bound), p(bound-c.Height+1, bound), false},
			{p(bound, bound), p(bound, bound), false},
			{p(bound, bound+c.Height), p(bound, bound+c.Height), false},
			{p(math.MinInt, math.MaxInt), p(math.MinInt, math.MaxInt), false},
			{p(math.MinInt, math.MaxInt), p(math.MaxInt, math.MaxInt), false},
			{p(math.MaxInt, math.MinInt), p(math.MaxInt, math.MinInt), false},
			{p(math.MinInt, -9), p(math.MaxInt, -9), false},
			{p(1<<32, 1<<33), p(1<<32, 1<<33), true},
			{p(1<<32, 1<<33), p(0, 1<<33), false},
			{p(0, 1<<32), p(0, 9), c.Height <= 9},
			{p(0, 1<<32+1), p(0, 1<<32), true},
		} {
			linkedHolds(t, c, x.a, x.b, x.want)
		}
		ns := slices.Concat(extremes, []int{-bound - 1, 1 - bound, -1, 0, 1, 9, bound - 1, bound + 1})
		for _, ay := range ns {
			for _, atop := range ns {
				a := p(ay, atop)
				for _, b := range []api.Floor{a, p(0, bound), p(-bound, bound), p(9, 1)} {
					linkedHolds(t, c, a, b, wide(c, a, b))
				}
				for _, n := range ns {
					linkedHolds(t, c, a, p(n, bound), wide(c, a, p(n, bound)))
					linkedHolds(t, c, a, p(-bound, n), wide(c, a, p(-bound, n)))
					linkedHolds(t, c, a, p(ay, n), wide(c, a, p(ay, n)))
				}
			}
		}
	}
}

// P13.1: a floor and itself are linked just if it may be walked and has room.
func TestLinkedWithItself(t *testing.T) {
	for _, c := range goodConfigs() {
		for _, y := range []int{-bound, -high, -1, 0, 7, high} {
			for room := -1; room <= 40; room++ {
				for _, area := range []int{-1, 0, 1, mostArea} {
					a := f(y, y+room, area)
					linkedHolds(t, c, a, a, area > 0 && room >= c.Height && y+room >= -bound)
				}
			}
		}
	}
}

// P13.1: a config that may not be links nothing, whatever it asks for; one that may be looks at Climb and Height alone.
func TestLinkedConfigs(t *testing.T) {
	floors := []api.Floor{p(0, bound), p(0, sky), p(0, 9), p(1, 9), p(0, 0), p(5, 5), f(0, 9, 0), {}}
	for _, c := range wrongConfigs() {
		for _, a := range floors {
			for _, b := range floors {
				linkedHolds(t, c, a, b, false)
			}
		}
	}
	for _, c := range goodConfigs() {
		for _, a := range floors {
			for _, b := range floors {
				linkedHolds(t, c, a, b, wide(c, a, b))
			}
		}
		linkedHolds(t, c, p(0, bound), p(c.Climb, bound), true)
		linkedHolds(t, c, p(0, bound), p(c.Climb+1, bound), false)
	}
}

// P13.1: each direction, one below 0, 4, and numbers as far off as an int reaches.
func TestStep(t *testing.T) {
	for dir, want := range [][2]int{{1, 0}, {0, 1}, {-1, 0}, {0, -1}} {
		if dx, dz, ok := Step(dir); dx != want[0] || dz != want[1] || !ok {
			t.Errorf("Step(%d) = %d, %d, %v", dir, dx, dz, ok)
		}
	}
	for _, dir := range wrongDirections() {
		if dx, dz, ok := Step(dir); dx != 0 || dz != 0 || ok {
			t.Errorf("Step(%d) = %d, %d, %v", dir, dx, dz, ok)
		}
	}
}

// wrongDirections are such as there are not, those that look like one by their last bits among them.
func wrongDirections() []int {
	l := slices.Concat(extremes, []int{-9, -8, -5, -4, -3, -2, -1, 4, 5, 6, 7, 8, 256, 65536})
	for dir := range 4 {
		l = append(l, math.MinInt+dir, 1<<32+dir, -1<<32+dir, 1<<16+dir, 256+dir)
	}
	return l
}

// beside is the column that a direction leads to.
func beside(x, z, dir int) (int, int) {
	switch dir {
	case 0:
		return x + 1, z
	case 1:
		return x, z + 1
	case 2:
		return x - 1, z
	default:
		return x, z - 1
	}
}

// stood are a grid's floors by where they are, told by counting columns on.
func stood(g api.Grid) map[at]api.Floor {
	m := map[at]api.Floor{}
	i := 0
	for z := g.Z; z < g.Z+g.D; z++ {
		for x := g.X; x < g.X+g.W; x++ {
			for k, a := range g.Floors[i] {
				m[at{x, z, k}] = a
			}
			i++
		}
	}
	return m
}

// joined is wide in plain numbers, for floors of grids.
func joined(c api.Config, a, b api.Floor) bool {
	up := a.Y - b.Y
	return a.Area > 0 && b.Area > 0 && up <= c.Climb && -up <= c.Climb &&
		a.Top-a.Y >= c.Height && a.Top-b.Y >= c.Height && b.Top-a.Y >= c.Height && b.Top-b.Y >= c.Height
}

// led are all floors of the column beside one in a direction that are linked with it.
func led(c api.Config, m map[at]api.Floor, from at, dir int) []at {
	a, ok := m[from]
	if !ok {
		return nil
	}
	var l []at
	x, z := beside(from.x, from.z, dir)
	for k := range most {
		to := at{x, z, k}
		if b, ok := m[to]; ok && joined(c, a, b) {
			l = append(l, to)
		}
	}
	return l
}

// across are all floors that two unlike directions lead to, whichever of them goes first.
func across(c api.Config, m map[at]api.Floor, from at, dir, side int) []at {
	x, z := beside(from.x, from.z, dir)
	if x, z = beside(x, z, side); x == from.x || z == from.z {
		return nil
	}
	by := func(first, then int) []at {
		var l []at
		for _, mid := range led(c, m, from, first) {
			l = append(l, led(c, m, mid, then)...)
		}
		return l
	}
	other := by(side, dir)
	return slices.DeleteFunc(by(dir, side), func(to at) bool { return !slices.Contains(other, to) })
}

// tally is what there was among the grids that were looked at.
type tally struct{ floors, links, none, diagonals, alone, unlike, all int }

// gridHolds has all calls tell of a grid what is led to from each floor, and count what there was.
func gridHolds(t *testing.T, c api.Config, g api.Grid) (n tally) {
	t.Helper()
	was := copied(g)
	if e := open.Check(g); e != api.OK {
		t.Fatalf("%v may not be", g)
	}
	built := buildHolds(t, c, g)
	m := stood(g)
	for from := range m {
		n.floors++
		i := (from.z-g.Z)*g.W + from.x - g.X
		eight := 0
		for dir := range 4 {
			to := led(c, m, from, dir)
			eight += oneHolds(t, c, g, from, dir, to, built[i][from.k][dir])
			for side := range 4 {
				diagonalHolds(t, c, g, from, dir, side, across(c, m, from, dir, side))
			}
			n.count(c, m, from, dir)
			eight += len(across(c, m, from, dir, (dir+1)%4))
		}
		if got, all := Eight(c, g, from.x, from.z, from.k); got != eight || all != (eight == 8) {
			t.Fatalf("Eight(%v, %v, %v) = %d, %v; want %d", c, g, from, got, all, eight)
		}
		if eight == 8 {
			n.all++
		}
	}
	if !alike(g, was) {
		t.Fatalf("of %v, %v is left", was, g)
	}
	return n
}

// oneHolds has To answer the only floor that is led to, Build the same; and tells how many there are.
func oneHolds(t *testing.T, c api.Config, g api.Grid, from at, dir int, want []at, built int) int {
	t.Helper()
	got, ok := To(c, g, from.x, from.z, from.k, dir)
	switch {
	case len(want) > 1:
		t.Fatalf("%v leads to several of a column: %v", from, want)
	case len(want) == 0 && (got != 0 || ok || built != -1):
		t.Fatalf("To(%v, %v, %v, %d) = %d, %v; Build has %d", c, g, from, dir, got, ok, built)
	case len(want) == 1 && (got != want[0].k || !ok || built != got):
		t.Fatalf("To(%v, %v, %v, %d) = %d, %v; Build has %d; want %v", c, g, from, dir, got, ok, built, want)
	}
	return len(want)
}

func diagonalHolds(t *testing.T, c api.Config, g api.Grid, from at, dir, side int, want []at) {
	t.Helper()
	got, ok := Diagonal(c, g, from.x, from.z, from.k, dir, side)
	if ok != (len(want) == 1) || len(want) > 1 || !ok && got != 0 || ok && got != want[0].k {
		t.Fatalf("Diagonal(%v, %v, %v, %d, %d) = %d, %v; want %v", c, g, from, dir, side, got, ok, want)
	}
}

// buildHolds has Build tell as many links as floors, and nothing else.
func buildHolds(t *testing.T, c api.Config, g api.Grid) [][]api.Links {
	t.Helper()
	built, e := Build(c, g)
	if e != api.OK || len(built) != len(g.Floors) || len(built) == 0 && built != nil {
		t.Fatalf("Build(%v, %v) = %v, %v", c, g, built, e)
	}
	for i, l := range built {
		if len(l) != len(g.Floors[i]) || len(l) == 0 && l != nil {
			t.Fatalf("Build(%v, %v): the %d-th column has %v", c, g, i, l)
		}
	}
	return built
}

// count adds what leads on from a floor in a direction, and in the next one.
func (n *tally) count(c api.Config, m map[at]api.Floor, from at, dir int) {
	side := (dir + 1) % 4
	ends := func(first, then int) []at {
		for _, mid := range led(c, m, from, first) {
			return led(c, m, mid, then)
		}
		return nil
	}
	one, other := ends(dir, side), ends(side, dir)
	switch {
	case len(one) == 1 && slices.Equal(one, other):
		n.diagonals++
	case len(one) == 1 && len(other) == 1:
		n.unlike++
	case len(one)+len(other) == 1:
		n.alone++
	}
	n.links += len(led(c, m, from, dir))
	n.none += 1 - len(led(c, m, from, dir))
}

func (n *tally) add(o tally) {
	n.floors += o.floors
	n.links += o.links
	n.none += o.none
	n.diagonals += o.diagonals
	n.alone += o.alone
	n.unlike += o.unlike
	n.all += o.all
}

// numbers are told by a rule: the same in each run, and without a pattern that a grid has.
type numbers struct{ state uint32 }

func (n *numbers) below(bound int) int {
	n.state = n.state*1664525 + 1013904223
	return int(n.state>>8) % bound
}

// strewn is a grid of up to so many storeys that are about as high as the config lets one go through, some with too little room, some that may not be walked.
func strewn(c api.Config, x, z, w, d, storeys int, seed uint32) api.Grid {
	rule := &numbers{seed}
	g := api.Grid{X: x, Z: z, W: w, D: d}
	for range w * d {
		var l []api.Floor
		y := rule.below(c.Climb+2) - 9
		for range 1 + rule.below(storeys+1) - rule.below(2) {
			area := 1 + rule.below(mostArea)
			if rule.below(15) == 0 {
				area = 0
			}
			top := max(y+1, y+c.Height+rule.below(c.Climb+4)-1)
			if len(l) < most {
				l = append(l, f(y, top, area))
			}
			y = top + rule.below(2)
		}
		g.Floors = append(g.Floors, l)
	}
	return g
}

// rolling is a grid of two storeys, each up and down by one height at the most, with a hole now and then, or what may not be walked.
func rolling(x, z, w, d int, seed uint32) api.Grid {
	rule := &numbers{seed}
	g := api.Grid{X: x, Z: z, W: w, D: d}
	for range w * d {
		var l []api.Floor
		for _, y := range []int{-9, 9} {
			if rule.below(30) > 0 {
				l = append(l, f(y+rule.below(2), y+14, min(rule.below(40), mostArea)))
			}
		}
		g.Floors = append(g.Floors, l)
	}
	return g
}

// plain is a grid of one floor a column, of one height, with room up to the Sky.
func plain(x, z, w, d int) api.Grid {
	g := api.Grid{X: x, Z: z, W: w, D: d}
	for range w * d {
		g.Floors = append(g.Floors, col(p(0, sky)))
	}
	return g
}

// piled is a grid of so many storeys that are all linked within themselves.
func piled(x, z, w, d, n, apart int) api.Grid {
	g := api.Grid{X: x, Z: z, W: w, D: d}
	for range w * d {
		var l []api.Floor
		for k := range n {
			l = append(l, f(k*apart, (k+1)*apart, 1+k%mostArea))
		}
		g.Floors = append(g.Floors, l)
	}
	return g
}

// coiled goes round a place n times, one height a column up; it is 3 by 3 columns, the midst of which is empty, with room of so many heights.
func coiled(n, room int) api.Grid {
	g := api.Grid{X: 4, Z: -1, W: 3, D: 3, Floors: make([][]api.Floor, 9)}
	for k := range n {
		for i, place := range []int{0, 1, 2, 5, 8, 7, 6, 3} {
			y := 8*k + i
			g.Floors[place] = append(g.Floors[place], p(y, y+room))
		}
	}
	return g
}

// goodGrids may be.
func goodGrids() []api.Grid {
	return []api.Grid{
		{}, {W: 5}, {D: 7}, {X: 64, Z: -64, W: 64}, {W: 2, D: 3, Floors: make([][]api.Floor, 6)},
		{W: 2, D: 2, Floors: [][]api.Floor{{}, nil, col(p(0, 9)), {}}},
		plain(0, 0, 1, 1), plain(-9, 5, 1, 1), plain(far, -far, 1, 1), plain(3, 4, 7, 1), plain(3, -4, 1, 7), plain(-2, -2, 4, 4), plain(far, far, 3, 2), plain(-far, -far, 2, 3),
		piled(-1, -1, 3, 3, most, 3), piled(-1, -1, 3, 3, most, 2), piled(7, 9, 2, 2, 2, 40), piled(0, 0, 1, 1, most, 3),
		coiled(2, 8), coiled(most, 8), coiled(3, 2), coiled(3, 3),
	}
}

// copied is the same grid in other memory.
func copied(g api.Grid) api.Grid {
	g.Floors = slices.Clone(g.Floors)
	for i := range g.Floors {
		g.Floors[i] = slices.Clone(g.Floors[i])
	}
	return g
}

// alike is whether two grids are the same, told floor by floor.
func alike(a, b api.Grid) bool {
	if [4]int{a.X, a.Z, a.W, a.D} != [4]int{b.X, b.Z, b.W, b.D} {
		return false
	}
	return slices.EqualFunc(a.Floors, b.Floors, func(l, m []api.Floor) bool { return slices.Equal(l, m) })
}

// P13.1, P13.2: grids of each shape, by each config.
func TestGoodGrids(t *testing.T) {
	for _, c := range append(goodConfigs(), config(1, 2), config(1, 3), config(2, 3), config(0, 3)) {
		for _, g := range goodGrids() {
			gridHolds(t, c, g)
		}
	}
}

// P13.1, P13.2: strewn grids of several storeys, among which there is enough of each kind.
func TestStrewnGrids(t *testing.T) {
	unlike := 0
	for _, c := range []api.Config{config(1, 2), config(1, 3), config(2, 3), config(3, 4), config(8, 9), config(0, 1)} {
		var n tally
		for seed := range uint32(25) {
			g := strewn(c, int(seed)*5-far, far-int(seed)*5, 1+int(seed)%7, 1+int(seed)*3%8, []int{1, 3, most}[seed%3], seed)
			n.add(gridHolds(t, c, g))
		}
		if n.floors < 900 || n.links < 400 || n.none < 400 || n.diagonals < 60 || n.alone < 60 {
			t.Errorf("of Climb %d, Height %d there is too little of some kind: %+v", c.Climb, c.Height, n)
		}
		unlike += n.unlike
	}
	if unlike < 5 {
		t.Errorf("%d diagonals alone end on unlike floors", unlike)
	}
	var n tally
	for seed := range uint32(12) {
		n.add(gridHolds(t, config(1, 3), rolling(-3, -3, 7, 6, 400+seed)))
	}
	if n.all < 200 || n.all > n.floors*3/4 {
		t.Errorf("%d of %d floors have all eight", n.all, n.floors)
	}
}

// toHolds has To answer that place; none, if it is below 0.
func toHolds(t *testing.T, c api.Config, g api.Grid, from at, dir, want int) {
	t.Helper()
	was := copied(g)
	got, ok := To(c, g, from.x, from.z, from.k, dir)
	if got != max(want, 0) || ok != (want >= 0) {
		t.Fatalf("To(%v, %v, %v, %d) = %d, %v; want %d", c, g, from, dir, got, ok, want)
	}
	if !alike(g, was) {
		t.Fatalf("of %v, %v is left", was, g)
	}
}

// star is a grid of 3 by 3 columns round a floor, with the same floors in each of the others.
func star(x, z int, mid api.Floor, round ...api.Floor) api.Grid {
	g := api.Grid{X: x - 1, Z: z - 1, W: 3, D: 3}
	for i := range 9 {
		if i == 4 {
			g.Floors = append(g.Floors, col(mid))
		} else {
			g.Floors = append(g.Floors, slices.Clone(round))
		}
	}
	return g
}

// P13.2: columns beside of no floor, of one, of just MaxSpans; the linked one the first, the last, one between, none.
func TestToOfFloorsBeside(t *testing.T) {
	c := config(2, 3)
	var tower []api.Floor
	for k := range most {
		tower = append(tower, p(10*k-20, 10*k-14))
	}
	for dir := range 4 {
		from := at{5, -7, 0}
		toHolds(t, c, star(5, -7, p(0, 9)), from, dir, -1)
		toHolds(t, c, star(5, -7, p(0, 9), p(0, 9)), from, dir, 0)
		toHolds(t, c, star(5, -7, p(0, 9), p(3, 9)), from, dir, -1)
		toHolds(t, c, star(5, -7, p(0, 9), p(-3, 0)), from, dir, -1)
		toHolds(t, c, star(5, -7, p(0, 9), p(-2, 0), p(0, 2), p(2, 9)), from, dir, 2)
		toHolds(t, c, star(5, -7, p(0, 9), p(-3, 0), p(0, 2), p(3, 9)), from, dir, -1)
		toHolds(t, c, star(5, -7, p(0, 9), p(-2, 3), p(3, 9)), from, dir, 0)
		toHolds(t, c, star(5, -7, f(0, 9, 0), p(0, 9)), from, dir, -1)
		toHolds(t, c, star(5, -7, p(0, 9), f(0, 9, 0)), from, dir, -1)
		toHolds(t, c, star(5, -7, p(0, 9), f(-2, 0, 1), f(0, 9, 0)), from, dir, -1)
		for k := range most {
			for up := -3; up <= 3; up++ {
				want := k
				if up < -2 || up > 2 {
					want = -1
				}
				toHolds(t, c, star(5, -7, p(10*k-20+up, sky), tower...), from, dir, want)
			}
			other := slices.Clone(tower)
			other[k].Area = 0
			toHolds(t, c, star(5, -7, p(10*k-20, sky), other...), from, dir, -1)
			other = slices.Clone(tower)
			other[k].Top = other[k].Y + 2
			toHolds(t, c, star(5, -7, p(10*k-20, sky), other...), from, dir, -1)
			toHolds(t, c, star(5, -7, p(10*k-20, 10*k-18), tower...), from, dir, -1)
			toHolds(t, c, star(5, -7, p(10*k-20, 10*k-17), tower...), from, dir, k)
		}
	}
}

// P13.2: each direction from each column of a grid and from those round it, wherever it begins; from the midst, the sides, the corners.
func TestToAtTheSides(t *testing.T) {
	c := config(1, 3)
	for _, g := range []api.Grid{plain(0, 0, 3, 3), plain(-far, -far, 3, 2), plain(far, far, 2, 3), plain(-2, 5, 4, 1), plain(7, -9, 1, 4), plain(-1, -1, 1, 1), {X: -1, Z: -1, W: 0, D: 4}, {X: -1, Z: -1, W: 4}, {}} {
		m := stood(g)
		for x := g.X - 3; x <= g.X+g.W+2; x++ {
			for z := g.Z - 3; z <= g.Z+g.D+2; z++ {
				for dir := range 4 {
					toX, toZ := beside(x, z, dir)
					_, here := m[at{x, z, 0}]
					_, there := m[at{toX, toZ, 0}]
					want := -1
					if here && there {
						want = 0
					}
					toHolds(t, c, g, at{x, z, 0}, dir, want)
				}
				if _, here := m[at{x, z, 0}]; !here {
					nothing(t, c, g, at{x, z, 0})
				}
			}
		}
	}
}

// nothing has no call tell anything of such a floor.
func nothing(t *testing.T, c api.Config, g api.Grid, from at) {
	t.Helper()
	for dir := range 4 {
		toHolds(t, c, g, from, dir, -1)
		for side := range 4 {
			diagonalHolds(t, c, g, from, dir, side, nil)
		}
	}
	if n, all := Eight(c, g, from.x, from.z, from.k); n != 0 || all {
		t.Fatalf("Eight(%v, %v, %v) = %d, %v", c, g, from, n, all)
	}
}

// P13.2: the first and the last floor of a column, one below 0, one past the last, places and columns as far off as an int reaches.
func TestOfFloorsThatAreNot(t *testing.T) {
	c := config(1, 3)
	for n := range most + 1 {
		g := piled(-1, -1, 3, 3, n, 4)
		for k := range n {
			if to, ok := To(c, g, 0, 0, k, 0); to != k || !ok {
				t.Fatalf("To(%v, %d) = %d, %v", g, k, to, ok)
			}
			if to, ok := Diagonal(c, g, 0, 0, k, 3, 2); to != k || !ok {
				t.Fatalf("Diagonal(%v, %d) = %d, %v", g, k, to, ok)
			}
			if n, all := Eight(c, g, 0, 0, k); n != 8 || !all {
				t.Fatalf("Eight(%v, %d) = %d, %v", g, k, n, all)
			}
		}
		for _, k := range slices.Concat(extremes, []int{-2, -1, n, n + 1, 9}) {
			nothing(t, c, g, at{0, 0, k})
		}
	}
	for _, g := range []api.Grid{plain(-1, -1, 3, 3), plain(0, 0, 64, 2), plain(-far, -far, 64, 64), plain(far, far, 2, 64)} {
		for _, n := range slices.Concat(extremes, []int{1 << 57, 1<<57 + 1, -1 << 57, 1 << 59, 1 << 60, 1 << 61, -1 << 63}) {
			for _, from := range []at{{n, g.Z, 0}, {g.X, n, 0}, {n, n, 0}, {n + g.X, g.Z, 0}, {g.X, n + g.Z, 0}, {n + g.X, n + g.Z, 0}, {n, -n, 0}, {n, n, n}} {
				nothing(t, c, g, from)
			}
		}
	}
}

// P13.2: directions that there are not, with each that there is.
func TestOfWrongDirections(t *testing.T) {
	c := config(1, 3)
	g := plain(-2, -2, 5, 5)
	for _, dir := range wrongDirections() {
		toHolds(t, c, g, at{0, 0, 0}, dir, -1)
		diagonalHolds(t, c, g, at{0, 0, 0}, dir, dir, nil)
		for _, side := range append(wrongDirections(), 0, 1, 2, 3) {
			diagonalHolds(t, c, g, at{0, 0, 0}, dir, side, nil)
			diagonalHolds(t, c, g, at{0, 0, 0}, side, dir, nil)
		}
	}
}

// fan is a grid round a column (0, 0), with those beside it in two directions, and the one between these; all others are empty.
func fan(dir, side int, mid, first, second, last []api.Floor) api.Grid {
	g := api.Grid{X: -1, Z: -1, W: 3, D: 3, Floors: make([][]api.Floor, 9)}
	put := func(x, z int, l []api.Floor) { g.Floors[(z+1)*3+x+1] = l }
	put(0, 0, mid)
	x, z := beside(0, 0, dir)
	put(x, z, first)
	x, z = beside(x, z, side)
	put(x, z, last)
	x, z = beside(0, 0, side)
	put(x, z, second)
	return g
}

// P13.2: both ways round linked, one of them not, at its first step and at its second, by a height, by a room, by an area; ends that are unlike.
func TestDiagonalTable(t *testing.T) {
	c := config(1, 3)
	under := p(-90, -80)
	for _, x := range []struct {
		name                     string
		mid, first, second, last []api.Floor
		k, want                  int
	}{
		{"flat", col(p(0, 9)), col(p(0, 9)), col(p(0, 9)), col(p(0, 9)), 0, 0},
		{"up both ways", col(p(0, 9)), col(p(1, 9)), col(p(1, 9)), col(p(2, 9)), 0, 0},
		{"up and along", col(p(0, 9)), col(p(0, 9)), col(p(1, 9)), col(p(1, 9)), 0, 0},
		{"up and down again", col(p(0, 9)), col(p(1, 9)), col(p(-1, 9)), col(p(0, 9)), 0, 0},
		{"the last floor of each", col(under, p(0, 9)), col(under, p(0, 9)), col(p(0, 9)), col(p(-99, -97), under, p(0, 9)), 1, 2},
		{"the first floor of each", col(p(0, 9), p(90, 99)), col(p(0, 9)), col(p(0, 9), p(40, 99)), col(p(0, 9), p(90, 99)), 0, 0},
		{"another place each", col(under, p(0, 9)), col(p(0, 9)), col(p(-99, -97), under, p(0, 9)), col(under, p(0, 9), p(90, 99)), 1, 1},
		{"unlike areas", col(f(0, 9, 1)), col(f(0, 9, 2)), col(f(0, 9, 3)), col(f(0, 9, 7)), 0, 0},
		{"not linked with the last one straight, yet both ways round", col(p(0, 9)), col(p(1, 9)), col(p(1, 9)), col(p(2, 9)), 0, 0},
		{"the first floor has too little room for the last one", col(p(0, 4)), col(p(1, 9)), col(p(1, 9)), col(p(2, 9)), 0, 0},
		{"no first column", col(p(0, 9)), nil, col(p(0, 9)), col(p(0, 9)), 0, -1},
		{"no last column", col(p(0, 9)), col(p(0, 9)), col(p(0, 9)), nil, 0, -1},
		{"only the last column", col(p(0, 9)), nil, nil, col(p(0, 9)), 0, -1},
		{"no floor", nil, col(p(0, 9)), col(p(0, 9)), col(p(0, 9)), 0, -1},
		{"first step, a height", col(p(0, 9)), col(p(2, 9)), col(p(1, 9)), col(p(2, 9)), 0, -1},
		{"first step, a height below", col(p(0, 9)), col(p(-2, 9)), col(p(-1, 9)), col(p(-1, 9)), 0, -1},
		{"first step, a room", col(p(0, 3)), col(p(1, 9)), col(p(0, 9)), col(p(1, 9)), 0, -1},
		{"first step, an area", col(p(0, 9)), col(f(0, 9, 0)), col(p(0, 9)), col(p(0, 9)), 0, -1},
		{"second step, a height", col(p(1, 9)), col(p(0, 9)), col(p(2, 9)), col(p(2, 9)), 0, -1},
		{"second step, a height below", col(p(1, 9)), col(p(2, 9)), col(p(0, 9)), col(p(0, 9)), 0, -1},
		{"second step, a room", col(p(0, 9)), col(p(0, 3)), col(p(1, 9)), col(p(1, 9)), 0, -1},
		{"second step, an area", col(p(0, 9)), col(p(0, 9)), col(p(0, 9)), col(f(0, 9, 0)), 0, -1},
		{"an area of its own", col(f(0, 9, 0)), col(p(0, 9)), col(p(0, 9)), col(p(0, 9)), 0, -1},
		{"unlike floors at the end", col(p(0, sky)), col(p(1, sky)), col(p(-1, 9)), col(p(-2, 2), p(2, sky)), 0, -1},
		{"unlike floors at the end, with others about", col(under, p(0, sky)), col(p(1, sky)), col(under, p(-1, 9)), col(under, p(-2, 2), p(2, sky)), 1, -1},
		{"one more height apart they aren't linked at all", col(p(0, sky)), col(p(1, sky)), col(p(-1, 9)), col(p(-3, 2), p(3, sky)), 0, -1},
	} {
		for dir := range 4 {
			for _, side := range []int{(dir + 1) % 4, (dir + 3) % 4} {
				g := fan(dir, side, x.mid, x.first, x.second, x.last)
				for _, way := range [][2]int{{dir, side}, {side, dir}} {
					got, ok := Diagonal(c, g, 0, 0, x.k, way[0], way[1])
					if got != max(x.want, 0) || ok != (x.want >= 0) {
						t.Errorf("%s, %v: Diagonal(%v) = %d, %v; want %d", x.name, way, g, got, ok, x.want)
					}
				}
				gridHolds(t, c, g)
			}
		}
	}
}

// P13.2: ends that are unlike are told apart at each Climb that has room for them; each way of its own is linked.
func TestDiagonalOfUnlikeEnds(t *testing.T) {
	for climb := 1; climb <= 8; climb++ {
		for height := climb + 1; height <= min(32, 3*climb); height++ {
			c := config(climb, height)
			last := col(p(-2*climb, height-climb), p(2*climb, sky))
			for dir := range 4 {
				for _, side := range []int{(dir + 1) % 4, (dir + 3) % 4} {
					g := fan(dir, side, col(p(0, sky)), col(p(climb, sky)), col(p(-climb, sky)), last)
					diagonalHolds(t, c, g, at{0, 0, 0}, dir, side, nil)
					diagonalHolds(t, c, g, at{0, 0, 0}, side, dir, nil)
					if n := gridHolds(t, c, g); n.unlike == 0 {
						t.Fatalf("the ways round %v end alike", g)
					}
					// Without the upper floor of the last column, and without the lower one, one way round is left.
					gridHolds(t, c, fan(dir, side, col(p(0, sky)), col(p(climb, sky)), col(p(-climb, sky)), last[:1]))
					gridHolds(t, c, fan(dir, side, col(p(0, sky)), col(p(climb, sky)), col(p(-climb, sky)), last[1:]))
				}
			}
		}
	}
}

// P13.2: of one axis there is no diagonal, though there is a floor two steps on, and one back at the start.
func TestDiagonalOfOneAxis(t *testing.T) {
	c := config(1, 3)
	for _, g := range []api.Grid{plain(-2, -2, 5, 5), plain(-far, -far, 5, 5), piled(7, 8, 5, 5, 3, 5)} {
		for dir := range 4 {
			for _, side := range []int{dir, (dir + 2) % 4} {
				diagonalHolds(t, c, g, at{g.X + 2, g.Z + 2, 0}, dir, side, nil)
			}
			for _, side := range []int{(dir + 1) % 4, (dir + 3) % 4} {
				diagonalHolds(t, c, g, at{g.X + 2, g.Z + 2, 0}, dir, side, []at{{}})
			}
		}
	}
}

// P13.2: at the sides and corners of a grid, each pair of directions, both ways about.
func TestDiagonalAtTheSides(t *testing.T) {
	c := config(1, 3)
	for _, g := range []api.Grid{plain(0, 0, 3, 3), plain(-far, -far, 2, 2), plain(far, far, 3, 2), plain(5, 5, 4, 1), plain(5, -5, 1, 4), plain(0, 0, 1, 1)} {
		m := stood(g)
		for from := range m {
			for dir := range 4 {
				for _, side := range []int{(dir + 1) % 4, (dir + 3) % 4} {
					x, z := beside(from.x, from.z, dir)
					x, z = beside(x, z, side)
					var want []at
					if _, ok := m[at{x, z, 0}]; ok {
						want = append(want, at{x, z, 0})
					}
					diagonalHolds(t, c, g, from, dir, side, want)
				}
			}
		}
	}
}

// P13.2: all choices of the eight columns round a flat floor, so that there are none, each number, all.
func TestEight(t *testing.T) {
	var seen [9]int
	fours := 0
	for there := range 1 << 8 {
		g := api.Grid{X: -7, Z: 3, W: 3, D: 3, Floors: make([][]api.Floor, 9)}
		g.Floors[4] = col(p(0, 9))
		has := map[[2]int]bool{}
		for i, step := range [][2]int{{1, 0}, {0, 1}, {-1, 0}, {0, -1}, {1, 1}, {-1, 1}, {-1, -1}, {1, -1}} {
			if there>>i&1 == 1 {
				g.Floors[(step[1]+1)*3+step[0]+1] = col(p(0, 9))
				has[step] = true
			}
		}
		straight, want := 0, 0
		for step := range has {
			if step[0] == 0 || step[1] == 0 {
				straight++
				want++
			} else if has[[2]int{step[0], 0}] && has[[2]int{0, step[1]}] {
				want++
			}
		}
		if n, all := Eight(config(1, 3), g, -6, 4, 0); n != want || all != (want == 8) {
			t.Fatalf("Eight(%v) = %d, %v; want %d", g, n, all, want)
		}
		seen[want]++
		if straight == 4 && want < 8 {
			fours++
		}
		if there == 1<<8-1 || there == 15 {
			gridHolds(t, config(1, 3), g)
		}
	}
	if slices.Contains(seen[:], 0) || fours != 15 {
		t.Errorf("some numbers of the eight did not come: %v, %d", seen, fours)
	}
}

// P13.2: of the eight at the sides of a grid; and links alone, where diagonals end on unlike floors or are cut.
func TestEightAtTheSides(t *testing.T) {
	c := config(1, 3)
	for _, x := range []struct {
		g        api.Grid
		x, z, k  int
		want     int
		complete bool
	}{
		{plain(0, 0, 3, 3), 1, 1, 0, 8, true},
		{plain(0, 0, 3, 3), 0, 1, 0, 5, false},
		{plain(0, 0, 3, 3), 1, 0, 0, 5, false},
		{plain(0, 0, 3, 3), 2, 1, 0, 5, false},
		{plain(0, 0, 3, 3), 1, 2, 0, 5, false},
		{plain(0, 0, 3, 3), 0, 0, 0, 3, false},
		{plain(0, 0, 3, 3), 2, 2, 0, 3, false},
		{plain(0, 0, 3, 3), 2, 0, 0, 3, false},
		{plain(0, 0, 3, 3), 0, 2, 0, 3, false},
		{plain(-far, far, 3, 1), 1 - far, far, 0, 2, false},
		{plain(-far, far, 1, 3), -far, far + 1, 0, 2, false},
		{plain(-far, far, 2, 1), -far, far, 0, 1, false},
		{plain(5, 5, 1, 1), 5, 5, 0, 0, false},
		{plain(5, 5, 3, 3), 0, 0, 0, 0, false},
		{plain(5, 5, 3, 3), 1, 1, 0, 0, false},
		{plain(5, 5, 3, 3), 6, 6, 1, 0, false},
		{plain(5, 5, 3, 3), 6, 6, -1, 0, false},
		{star(0, 0, f(0, 9, 0), p(0, 9)), 0, 0, 0, 0, false},
		{star(0, 0, p(0, 9), f(0, 9, 0)), 0, 0, 0, 0, false},
		{star(0, 0, p(0, 9), p(2, 9)), 0, 0, 0, 0, false},
		{star(0, 0, p(0, 9), p(1, 9)), 0, 0, 0, 8, true},
		{star(0, 0, p(0, 3), p(1, 9)), 0, 0, 0, 0, false},
		{star(0, 0, p(0, 3), p(0, 9)), 0, 0, 0, 8, true},
	} {
		if n, all := Eight(c, x.g, x.x, x.z, x.k); n != x.want || all != x.complete {
			t.Errorf("Eight(%v, %d, %d, %d) = %d, %v; want %d", x.g, x.x, x.z, x.k, n, all, x.want)
		}
	}
	cut := plain(0, 0, 3, 3)
	for _, corner := range []int{0, 2, 6, 8} {
		cut.Floors[corner] = col(p(-2, 2), p(2, 9)) // two heights off each of its neighbours
	}
	if n, all := Eight(c, cut, 1, 1, 0); n != 4 || all {
		t.Errorf("Eight(%v) = %d, %v", cut, n, all)
	}
	bent := plain(0, 0, 3, 3)
	bent.Floors[5], bent.Floors[7] = col(p(1, sky)), col(p(-1, sky)) // +x goes up, +z goes down
	bent.Floors[8] = col(p(-2, 2), p(2, sky))                        // and so they end one above the other
	if n, all := Eight(c, bent, 1, 1, 0); n != 7 || all {
		t.Errorf("Eight(%v) = %d, %v", bent, n, all)
	}
	gridHolds(t, c, bent)
}

// P13.1: what is told of small grids, number by number.
func TestBuildTable(t *testing.T) {
	c := config(1, 3)
	for _, x := range []struct {
		name string
		g    api.Grid
		want [][]api.Links
	}{
		{"nothing", api.Grid{}, nil},
		{"no column", api.Grid{X: 5, W: 9}, nil},
		{"columns of no floor", api.Grid{W: 2, D: 1, Floors: [][]api.Floor{nil, {}}}, [][]api.Links{nil, nil}},
		{"one floor", plain(-9, 9, 1, 1), [][]api.Links{{{-1, -1, -1, -1}}}},
		{"two in a row", plain(-9, 9, 2, 1), [][]api.Links{{{0, -1, -1, -1}}, {{-1, -1, 0, -1}}}},
		{"two in rows", plain(-9, 9, 1, 2), [][]api.Links{{{-1, 0, -1, -1}}, {{-1, -1, -1, 0}}}},
		{"four", plain(-9, 9, 2, 2), [][]api.Links{{{0, 0, -1, -1}}, {{-1, 0, 0, -1}}, {{0, -1, -1, 0}}, {{-1, -1, 0, 0}}}},
		{"the chapter's floors", api.Grid{W: 3, D: 1, Floors: [][]api.Floor{col(p(0, 9)), col(p(1, 9)), col(p(3, 9))}}, [][]api.Links{{{0, -1, -1, -1}}, {{-1, -1, 0, -1}}, {{-1, -1, -1, -1}}}},
		{"storeys", api.Grid{X: 3, W: 2, D: 1, Floors: [][]api.Floor{col(p(0, 4), p(5, 9)), col(p(-9, -7), p(1, 5), p(6, 9))}}, [][]api.Links{{{1, -1, -1, -1}, {2, -1, -1, -1}}, {{-1, -1, -1, -1}, {-1, -1, 0, -1}, {-1, -1, 1, -1}}}},
		{"a place above one that leads nowhere", api.Grid{W: 1, D: 2, Floors: [][]api.Floor{col(f(0, 4, 0), p(4, 9)), col(p(0, 4), p(4, 9))}}, [][]api.Links{{{-1, -1, -1, -1}, {-1, 1, -1, -1}}, {{-1, -1, -1, -1}, {-1, -1, -1, 1}}}},
	} {
		got, e := Build(c, x.g)
		if e != api.OK || !slices.EqualFunc(got, x.want, func(a, b []api.Links) bool { return slices.Equal(a, b) }) {
			t.Errorf("%s: Build(%v) = %v, %v; want %v", x.name, x.g, got, e, x.want)
		}
		gridHolds(t, c, x.g)
	}
}

// P13.1: the greatest grid there may be, of MaxSpans in each column, and of one.
func TestBuildOfGreatGrids(t *testing.T) {
	for _, n := range []int{1, most} {
		g := piled(-far, far, far, far, n, 4)
		for i, l := range buildHolds(t, config(1, 3), g) {
			x, z := i%far, i/far
			for k, got := range l {
				want := api.Links{k, k, k, k}
				for dir, side := range []bool{x == far-1, z == far-1, x == 0, z == 0} {
					if side {
						want[dir] = -1
					}
				}
				if got != want {
					t.Fatalf("column %d, %d has %v at %d", x, z, got, k)
				}
			}
		}
	}
}

// v is a corner of a triangle.
func v(x, y, z int) api.Vertex { return api.Vertex{X: x, Y: y, Z: z} }

// sheet is two triangles, from a corner to another one, that rise by x from a height to another one.
func sheet(x0, z0, x1, z1, from, to int) []api.Tri {
	return []api.Tri{
		{Id: 1, V: [3]api.Vertex{v(x0, from, z0), v(x0, from, z1), v(x1, to, z1)}},
		{Id: 2, V: [3]api.Vertex{v(x0, from, z0), v(x1, to, z1), v(x1, to, z0)}},
	}
}

// P13.1, P13.2: floors of built worlds: a ground, a ramp to a storey above it.
func TestOfBuiltWorlds(t *testing.T) {
	c := api.Config{Climb: 1, Height: 3, Rise: 100, Run: 1, W: 12, D: 6}
	tris := slices.Concat(sheet(0, 0, 12, 6, 0, 0), sheet(0, 0, 6, 2, 0, 6), sheet(6, 0, 12, 6, 6, 6))
	g, e := open.Build(c, tris, 0, 0, c.W, c.D)
	if e != api.OK {
		t.Fatal(e)
	}
	gridHolds(t, c, g)
	on := at{0, 1, 0} // goes on in +x from the ramp's foot
	for step := range c.W - 1 {
		k, ok := To(c, g, on.x, on.z, on.k, 0)
		if !ok {
			t.Fatalf("the ramp ends behind %d steps, at %v", step, on)
		}
		on = at{on.x + 1, on.z, k}
	}
	if y := open.At(g, on.x, on.z)[on.k].Y; y != 6 {
		t.Errorf("the ramp leads to height %d", y)
	}
}

// P13.3: who leads to a floor is led to by it, in each direction; diagonals likewise, whichever way about; in grids of several storeys.
func TestThereAndBack(t *testing.T) {
	var there, across int
	for _, c := range []api.Config{config(1, 2), config(1, 3), config(2, 3), config(8, 9)} {
		grids := goodGrids()
		for seed := range uint32(12) {
			grids = append(grids, strewn(c, -3, 7, 6, 5, []int{2, most}[seed%2], 900+seed))
		}
		for _, g := range grids {
			for from := range stood(g) {
				for dir := range 4 {
					x, z := beside(from.x, from.z, dir)
					back := (dir + 2) % 4
					if k, ok := To(c, g, from.x, from.z, from.k, dir); ok {
						there++
						toHolds(t, c, g, at{x, z, k}, back, from.k)
					}
					for side := range 4 {
						k, ok := Diagonal(c, g, from.x, from.z, from.k, dir, side)
						if !ok {
							continue
						}
						across++
						endX, endZ := beside(x, z, side)
						for _, way := range [][2]int{{back, (side + 2) % 4}, {(side + 2) % 4, back}} {
							diagonalHolds(t, c, g, at{endX, endZ, k}, way[0], way[1], []at{from})
						}
						diagonalHolds(t, c, g, from, side, dir, []at{{endX, endZ, k}})
					}
				}
			}
		}
	}
	if there < 2000 || across < 1000 {
		t.Errorf("%d links and %d diagonals alone were gone", there, across)
	}
}

// P13.3: any two floors are linked the other way about, too, such as no grid has among them.
func TestLinkedTheOtherWayAbout(t *testing.T) {
	rule := &numbers{5}
	some := func() api.Floor {
		y := rule.below(12) - 6
		return f(y, y+rule.below(12)-1, rule.below(4))
	}
	n := 0
	for i := range 20000 {
		c, a, b := config(i%4, 1+i%4+i%3), some(), some()
		if Linked(c, a, b) {
			n++
		}
		linkedHolds(t, c, a, b, wide(c, a, b))
	}
	if n < 500 {
		t.Errorf("%d alone are linked", n)
	}
}

// wrongGrids may not be, in each way that layer 11's chapter names.
func wrongGrids() []api.Grid {
	one := func(l ...api.Floor) api.Grid { return api.Grid{W: 1, D: 1, Floors: [][]api.Floor{l}} }
	tower := piled(0, 0, 1, 1, most+1, 4).Floors[0]
	l := []api.Grid{
		{W: 1, D: 1}, {Floors: make([][]api.Floor, 1)}, {W: 2, D: 2, Floors: make([][]api.Floor, 3)}, {W: 2, D: 2, Floors: make([][]api.Floor, 5)}, {W: 3, Floors: make([][]api.Floor, 3)},
		{W: -1, D: -1, Floors: make([][]api.Floor, 1)}, {W: 1 << 32, D: 1 << 32}, {W: far + 1, D: 1, Floors: make([][]api.Floor, far+1)}, {W: 1, D: far + 1, Floors: make([][]api.Floor, far+1)},
		one(p(4, 4)), one(p(5, 4)), one(p(0, 5), p(4, 9)), one(p(5, 9), p(0, 5)), one(p(0, 4), p(0, 4)),
		one(f(0, 9, -1)), one(f(0, 9, mostArea+1)), one(f(0, 9, math.MinInt)), one(f(0, 9, math.MaxInt)), one(f(0, 9, 1<<32+1)),
		one(p(-high-1, 9)), one(p(high+1, high+2)), one(p(0, sky+1)), one(p(math.MinInt, math.MaxInt)), one(tower...), one(api.Floor{}),
		plain(-far-1, 0, 2, 2), plain(0, far+1, 2, 2), plain(0, 0, far+1, 1), plain(0, 0, 1, far+1),
	}
	for _, n := range slices.Concat(extremes, []int{-far - 1, far + 1}) {
		for i := range 4 {
			for _, g := range []api.Grid{plain(0, 0, 2, 3), {}} {
				*[]*int{&g.X, &g.Z, &g.W, &g.D}[i] = n
				l = append(l, g)
			}
		}
	}
	for i := range 9 { // one wrong floor in a grid of which each other one has its links
		for _, bad := range [][]api.Floor{col(p(0, 9), p(8, 20)), col(f(0, 9, mostArea+1)), col(p(0, sky+1)), tower} {
			g := plain(-1, -1, 3, 3)
			g.Floors[i] = bad
			l = append(l, g)
		}
	}
	return l
}

func buildRefused(t *testing.T, c api.Config, g api.Grid, want api.Errno) {
	t.Helper()
	was := copied(g)
	if got, e := Build(c, g); got != nil || e != want {
		t.Fatalf("Build(%v, %v) = %v, %v; want %v", c, g, got, e, want)
	}
	if !alike(g, was) {
		t.Fatalf("of %v, %v is left", was, g)
	}
}

// P13.1, P13.2: a grid that may not be is refused, in each way, and nothing is told of any of its floors.
func TestWrongGrids(t *testing.T) {
	for _, g := range wrongGrids() {
		if e := open.Check(g); e != api.ErrArg {
			t.Fatalf("Check(%v) = %v", g, e)
		}
		for _, c := range append(goodConfigs(), config(1, 3)) {
			buildRefused(t, c, g, api.ErrArg)
		}
		for _, x := range []int{g.X, g.X + 1, 0} {
			for _, z := range []int{g.Z, g.Z + 1, 0} {
				for k := range 2 {
					nothing(t, config(1, 3), g, at{x, z, k})
				}
			}
		}
	}
}

// P13.1, P13.2, R2: a config that may not be is told of first; nothing is told of any floor.
func TestWrongConfigs(t *testing.T) {
	good, wrong := goodGrids(), wrongGrids()
	for i, c := range wrongConfigs() {
		if e := whole.Check(c); e != api.ErrConfig {
			t.Fatalf("Check(%v) = %v", c, e)
		}
		for _, g := range []api.Grid{{}, plain(0, 0, 3, 3), good[i%len(good)], wrong[i%len(wrong)]} {
			buildRefused(t, c, g, api.ErrConfig)
			nothing(t, c, g, at{g.X, g.Z, 0})
			nothing(t, c, g, at{g.X + 1, g.Z + 1, 0})
		}
	}
}

// blot writes over a list, and over the spare room behind it.
func blot[T any](l []T, with T) {
	for i := range l[:cap(l)] {
		l[:cap(l)][i] = with
	}
}

// roomy is the same grid, with spare room behind its columns and behind each of them, in one piece of memory.
func roomy(g api.Grid) (api.Grid, []api.Floor, [][]api.Floor) {
	var all []api.Floor
	for _, l := range g.Floors {
		all = append(append(all, l...), p(0, sky))
	}
	list := append(slices.Clone(g.Floors), col(p(0, sky)), nil)
	from := 0
	for i, l := range g.Floors {
		list[i] = all[from : from+len(l)]
		from += len(l) + 1
	}
	g.Floors = list[:len(g.Floors)]
	return g, all, list
}

func sameLinks(a, b [][]api.Links) bool {
	return slices.EqualFunc(a, b, func(l, m []api.Links) bool { return slices.Equal(l, m) })
}

// R3, R4: what is handed in stays, its spare room, too, which counts for nothing; no two columns of an answer share memory, nor do two answers, nor an answer and what was handed in.
func TestMemory(t *testing.T) {
	c := config(1, 3)
	for _, x := range []api.Grid{plain(-1, -2, 3, 2), piled(0, 0, 3, 3, most, 4), coiled(3, 8), strewn(c, 5, 5, 4, 4, 3, 77), {W: 2, D: 1, Floors: [][]api.Floor{col(p(0, 9)), nil}}, {}} {
		want := buildHolds(t, c, x)
		for i := range max(1, len(want)) {
			g, all, list := roomy(x)
			wasAll, wasList := slices.Clone(all), slices.Clone(list)
			one, two := buildHolds(t, c, g), buildHolds(t, c, g)
			Build(api.Config{}, g)
			gridHolds(t, c, g)
			if !slices.Equal(all, wasAll) || !slices.EqualFunc(list, wasList, func(a, b []api.Floor) bool { return slices.Equal(a, b) }) {
				t.Fatalf("of %v, %v and %v are left", x, g, list)
			}
			if !sameLinks(one, want) || !sameLinks(two, want) {
				t.Fatalf("Build(%v) = %v, then %v; want %v", x, one, two, want)
			}
			if i < len(one) {
				blot(one[i], api.Links{9, 9, 9, 9})
			}
			for other, l := range one {
				if other != i && !slices.Equal(l, want[other]) {
					t.Fatalf("column %d became %v by what was written over column %d", other, l, i)
				}
			}
			blot(one, []api.Links{{8, 8, 8, 8}})
			if !sameLinks(two, want) || !alike(g, x) {
				t.Fatalf("by what was written over an answer, %v and %v have become %v and %v", want, x, two, g)
			}
			blot(all, f(-77, 77, 7))
			blot(list, col(f(-77, 77, 7)))
			if !sameLinks(two, want) {
				t.Fatalf("the answer %v has become %v by what was written over what was handed in", want, two)
			}
		}
	}
}
