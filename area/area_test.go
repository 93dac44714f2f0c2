package area

import (
	"math"
	"slices"
	"testing"

	"footpath/api"
	"footpath/open"
)

const (
	high      = 2048 // the greatest height
	mostId    = 1 << 30
	mostArea  = 7
	mostBoxes = 16
	most      = 8       // floors of a column
	sky       = 1 << 20 // where the room above the topmost floor ends
	far       = 64      // where grids may begin, and how wide they may be
)

// extremes are such as run over if one adds to them, doubles them, turns them round, or keeps half of their bits.
var extremes = []int{math.MinInt, math.MinInt + 1, math.MinInt / 2, -1 << 40, -1<<32 - 1, -1 << 32, 1 << 32, 1<<32 + 1, 1 << 40, 1 << 62, math.MaxInt - 1, math.MaxInt}

func config(w, d int) api.Config {
	return api.Config{Clear: 1, Climb: 1, Height: 3, Rise: 1, Run: 1, W: w, D: d}
}

func spot(x, z, y int) api.Spot { return api.Spot{X: x, Z: z, Y: y} }

// cube is a box from a column and a height to another column and height, of area 2.
func cube(x0, z0, y0, x1, z1, y1 int) api.Box {
	return api.Box{Id: 1, X0: x0, Z0: z0, Y0: y0, X1: x1, Z1: z1, Y1: y1, Area: 2}
}

// vast is the greatest box that may be in a world of 32 by 32 columns.
func vast(id, area int) api.Box {
	return named(cube(0, 0, -high, 31, 31, high), id, area)
}

// named is the same box with that id and area.
func named(b api.Box, id, area int) api.Box {
	b.Id, b.Area = id, area
	return b
}

func boxes(l ...api.Box) []api.Box { return l }

func f(y, top, area int) api.Floor { return api.Floor{Y: y, Top: top, Area: area} }

func col(l ...api.Floor) []api.Floor { return l }

// tower is n floors from a height on, each one's room up to the next one's height, of all areas.
func tower(n, from, apart int) []api.Floor {
	var l []api.Floor
	for k := range n {
		l = append(l, f(from+k*apart, from+(k+1)*apart, k%(mostArea+1)))
	}
	return l
}

// filled is a grid of columns of no floor, of one, and so on up to MaxSpans, and again.
func filled(x, z, w, d int) api.Grid {
	g := api.Grid{X: x, Z: z, W: w, D: d}
	for at := range w * d {
		g.Floors = append(g.Floors, tower(at*5%(most+1), at%7-9, 3+at%2))
	}
	return g
}

// copied is the same grid in other memory.
func copied(g api.Grid) api.Grid {
	g.Floors = slices.Clone(g.Floors)
	for i := range g.Floors {
		g.Floors[i] = slices.Clone(g.Floors[i])
	}
	return g
}

// alike is whether two grids are the same, told floor by floor.
func alike(a, b api.Grid) bool {
	if [4]int{a.X, a.Z, a.W, a.D} != [4]int{b.X, b.Z, b.W, b.D} {
		return false
	}
	return slices.EqualFunc(a.Floors, b.Floors, func(l, m []api.Floor) bool { return slices.Equal(l, m) })
}

// numbers are told by a rule: the same in each run, and without a pattern that a grid has.
type numbers struct{ state uint32 }

func (n *numbers) below(bound int) int {
	n.state = n.state*1664525 + 1013904223
	return int(n.state>>8) % bound
}

// strewn are n boxes of a world between two heights, of ids up to so many, in no order.
func strewn(c api.Config, n, ids, from, to int, seed uint32) []api.Box {
	rule := &numbers{seed}
	ends := func(lo, hi int) (int, int) {
		a, b := lo+rule.below(hi-lo+1), lo+rule.below(hi-lo+1)
		return min(a, b), max(a, b)
	}
	var l []api.Box
	for range n {
		b := api.Box{Id: 1 + rule.below(ids), Area: rule.below(mostArea + 1)}
		b.X0, b.X1 = ends(0, c.W-1)
		b.Z0, b.Z1 = ends(0, c.D-1)
		b.Y0, b.Y1 = ends(from, to)
		l = append(l, b)
	}
	return l
}

// lists visits all lists of up to n of some things, in all orders, those of one thing twice among them.
func lists[T any](n int, of []T, visit func([]T)) {
	var grow func(l []T)
	grow = func(l []T) {
		visit(l)
		if len(l) == n {
			return
		}
		for _, p := range of {
			grow(append(l, p))
		}
	}
	grow(nil)
}

// orders visits a list in all orders of its places.
func orders[T any](l []T, visit func([]T)) {
	l = slices.Clone(l)
	var swap func(k int)
	swap = func(k int) {
		if k >= len(l)-1 {
			visit(slices.Clone(l))
			return
		}
		for i := k; i < len(l); i++ {
			l[k], l[i] = l[i], l[k]
			swap(k + 1)
			l[k], l[i] = l[i], l[k]
		}
	}
	swap(0)
}

// blot writes over a list, and over the spare room behind it.
func blot[T any](l []T, with T) {
	for i := range l[:cap(l)] {
		l[:cap(l)][i] = with
	}
}

// P12.1: columns and heights at each side of a box, and one past it.
func TestInTable(t *testing.T) {
	b := cube(2, 5, -3, 4, 9, 7)
	for _, x := range []struct {
		name string
		b    api.Box
		at   api.Spot
		want bool
	}{
		{"the midst", b, spot(3, 7, 0), true},
		{"X0", b, spot(2, 7, 0), true},
		{"one ahead of X0", b, spot(1, 7, 0), false},
		{"X1", b, spot(4, 7, 0), true},
		{"one past X1", b, spot(5, 7, 0), false},
		{"Z0", b, spot(3, 5, 0), true},
		{"one ahead of Z0", b, spot(3, 4, 0), false},
		{"Z1", b, spot(3, 9, 0), true},
		{"one past Z1", b, spot(3, 10, 0), false},
		{"Y0", b, spot(3, 7, -3), true},
		{"one below Y0", b, spot(3, 7, -4), false},
		{"Y1", b, spot(3, 7, 7), true},
		{"one above Y1", b, spot(3, 7, 8), false},
		{"the first corner", b, spot(2, 5, -3), true},
		{"the last corner", b, spot(4, 9, 7), true},
		{"past all", b, spot(5, 10, 8), false},
		{"ahead of all", b, spot(1, 4, -4), false},
		{"x and z the other way about", b, spot(7, 3, 0), false},
		{"z and y the other way about", b, spot(3, 0, 7), false},
		{"one column", cube(2, 5, -3, 2, 5, 7), spot(2, 5, 0), true},
		{"beside one column", cube(2, 5, -3, 2, 5, 7), spot(3, 5, 0), false},
		{"behind one column", cube(2, 5, -3, 2, 5, 7), spot(2, 6, 0), false},
		{"one height", cube(2, 5, 6, 4, 9, 6), spot(3, 6, 6), true},
		{"above one height", cube(2, 5, 6, 4, 9, 6), spot(3, 6, 7), false},
		{"below one height", cube(2, 5, 6, 4, 9, 6), spot(3, 6, 5), false},
		{"the column 0, 0 at height 0 alone", api.Box{}, spot(0, 0, 0), true},
		{"one past it", api.Box{}, spot(1, 0, 0), false},
		{"one ahead of it", api.Box{}, spot(0, -1, 0), false},
		{"x's ends the wrong way about", cube(4, 5, -3, 2, 9, 7), spot(3, 7, 0), false},
		{"z's ends the wrong way about", cube(2, 9, -3, 4, 5, 7), spot(3, 7, 0), false},
		{"y's ends the wrong way about", cube(2, 5, 7, 4, 9, -3), spot(3, 7, 0), false},
		{"all ends the wrong way about", cube(4, 9, 7, 2, 5, -3), spot(3, 7, 0), false},
		{"x's ends by one, at the first", cube(3, 5, -3, 2, 9, 7), spot(3, 7, 0), false},
		{"x's ends by one, at the last", cube(3, 5, -3, 2, 9, 7), spot(2, 7, 0), false},
		{"a box beside all worlds", cube(-9, 40, -9000, -7, 41, -8999), spot(-8, 40, -8999), true},
		{"no id, and no area that may be", named(b, -5, -9), spot(3, 7, 0), true},
		{"an id and an area past all bounds", named(b, mostId+1, mostArea+1), spot(3, 7, 0), true},
		{"the same one beside it", named(b, mostId+1, mostArea+1), spot(3, 7, 8), false},
	} {
		if got := In(x.b, x.at); got != x.want {
			t.Errorf("%s: In(%v, %v) = %v", x.name, x.b, x.at, got)
		}
	}
}

// P12.1: all boxes among few columns and heights, held against all spots that one meets when counting from end to end.
func TestInOfAllSmallBoxes(t *testing.T) {
	const lo, hi = -1, 2
	lists(6, []int{lo, 0, 1, hi}, func(l []int) {
		if len(l) < 6 {
			return
		}
		b := cube(l[0], l[1], l[2], l[3], l[4], l[5])
		var within [6][6][6]bool // from lo - 1 to hi + 1 each way
		for x := b.X0; x <= b.X1; x++ {
			for z := b.Z0; z <= b.Z1; z++ {
				for y := b.Y0; y <= b.Y1; y++ {
					within[x-lo+1][z-lo+1][y-lo+1] = true
				}
			}
		}
		for i, plane := range within {
			for j, line := range plane {
				for k, want := range line {
					if at := spot(i+lo-1, j+lo-1, k+lo-1); In(b, at) != want {
						t.Fatalf("In(%v, %v) = %v", b, at, !want)
					}
				}
			}
		}
	})
}

// P12.1: sides and places as far off as an int reaches.
func TestInFarOff(t *testing.T) {
	ns := slices.Concat(extremes, []int{-high, -1, 0, 1, 31, high})
	for _, from := range ns {
		for _, to := range ns {
			for _, n := range ns {
				want := slices.IsSorted([]int{from, n, to})
				for i, b := range boxes(cube(from, 0, 0, to, 9, 9), cube(0, from, 0, 9, to, 9), cube(0, 0, from, 9, 9, to)) {
					at := spot(5, 5, 5)
					*[]*int{&at.X, &at.Z, &at.Y}[i] = n
					if got := In(b, at); got != want {
						t.Fatalf("In(%v, %v) = %v", b, at, got)
					}
				}
			}
		}
	}
	all := cube(math.MinInt, math.MinInt, math.MinInt, math.MaxInt, math.MaxInt, math.MaxInt)
	for _, n := range ns {
		if !In(all, spot(n, 0, 0)) || !In(all, spot(0, n, 0)) || !In(all, spot(0, 0, n)) || !In(all, spot(n, n, n)) {
			t.Errorf("%d is not in the box of all", n)
		}
	}
}

// P12.1: the chapter's examples and the edges that it names.
func TestOfTable(t *testing.T) {
	at := spot(3, 7, 0)
	here := cube(2, 5, -3, 4, 9, 7)
	beside := cube(4, 5, -3, 4, 9, 7)
	in := func(id, area int) api.Box { return named(here, id, area) }
	out := func(id, area int) api.Box { return named(beside, id, area) }
	for _, x := range []struct {
		name string
		l    []api.Box
		want int
	}{
		{"the chapter's first", boxes(in(3, 2), in(5, 4)), 4},
		{"the chapter's second", nil, 1},
		{"nothing", boxes(), 1},
		{"one", boxes(in(1, 5)), 5},
		{"one, and the floor is not in it", boxes(out(1, 5)), 1},
		{"one of area 0", boxes(in(1, 0)), 0},
		{"one of area 1", boxes(in(1, 1)), 1},
		{"one of the greatest area", boxes(in(1, mostArea)), mostArea},
		{"one of an area past it", boxes(in(1, mostArea+1)), mostArea + 1},
		{"one of an area below 0", boxes(in(1, -1)), -1},
		{"one of the least area that there is", boxes(in(1, math.MinInt)), math.MinInt},
		{"one of the greatest area that there is", boxes(in(1, math.MaxInt)), math.MaxInt},
		{"one of id 0", boxes(in(0, 6)), 6},
		{"one of an id below 0", boxes(in(-1, 6)), 6},
		{"one of the least id that there is", boxes(in(math.MinInt, 6)), 6},
		{"one of the greatest id that there is", boxes(in(math.MaxInt, 6)), 6},
		{"falling", boxes(in(5, 4), in(3, 2)), 4},
		{"the greater one is beside it", boxes(in(3, 2), out(5, 4)), 2},
		{"the greater one is beside it, falling", boxes(out(5, 4), in(3, 2)), 2},
		{"the lesser one is beside it", boxes(out(3, 2), in(5, 4)), 4},
		{"both are beside it", boxes(out(3, 2), out(5, 4)), 1},
		{"three, the greatest first", boxes(in(9, 2), in(3, 4), in(5, 6)), 2},
		{"three, the greatest between", boxes(in(3, 4), in(9, 2), in(5, 6)), 2},
		{"three, the greatest last", boxes(in(3, 4), in(5, 6), in(9, 2)), 2},
		{"in all but the greatest", boxes(in(3, 4), out(9, 2), in(5, 6)), 6},
		{"two of one id", boxes(in(3, 2), in(3, 4)), 4},
		{"two of one id, the other way about", boxes(in(3, 4), in(3, 2)), 2},
		{"two of one id, the last one is beside it", boxes(in(3, 2), out(3, 4)), 2},
		{"two of one id, the first one is beside it", boxes(out(3, 2), in(3, 4)), 4},
		{"three of one id", boxes(in(3, 2), in(3, 4), in(3, 0)), 0},
		{"three of one id, the last one is beside it", boxes(in(3, 2), in(3, 4), out(3, 0)), 4},
		{"two of one id, a greater one first", boxes(in(4, 7), in(3, 2), in(3, 4)), 7},
		{"two of one id, a greater one between", boxes(in(3, 2), in(4, 7), in(3, 4)), 7},
		{"two of one id, a greater one last", boxes(in(3, 2), in(3, 4), in(4, 7)), 7},
		{"two of one id, a smaller one first", boxes(in(2, 7), in(3, 2), in(3, 4)), 4},
		{"two of one id, a smaller one between", boxes(in(3, 2), in(2, 7), in(3, 4)), 4},
		{"two of one id, a smaller one last", boxes(in(3, 2), in(3, 4), in(2, 7)), 4},
		{"two of one id round 0", boxes(in(0, 2), in(-1, 7), in(0, 4)), 4},
		{"ids below 0", boxes(in(-2, 3), in(-9, 5)), 3},
		{"ids below 0, rising", boxes(in(-9, 5), in(-2, 3)), 3},
		{"0 is above -1", boxes(in(0, 3), in(-1, 5)), 3},
		{"no id is one of a narrower number", boxes(in(1<<32, 3), in(7, 5)), 3},
		{"the least id and the greatest", boxes(in(math.MinInt, 3), in(math.MaxInt, 5)), 5},
		{"the greatest id and the least", boxes(in(math.MaxInt, 5), in(math.MinInt, 3)), 5},
		{"the least id twice", boxes(in(math.MinInt, 3), in(math.MinInt, 5)), 5},
		{"the greatest id twice", boxes(in(math.MaxInt, 3), in(math.MaxInt, 5)), 5},
		{"two boxes that are the same", boxes(in(3, 2), in(3, 2)), 2},
		{"ends the wrong way about", boxes(named(cube(4, 9, 7, 2, 5, -3), 9, 4)), 1},
	} {
		if got := Of(x.l, at); got != x.want {
			t.Errorf("%s: Of(%v) = %d; want %d", x.name, x.l, got, x.want)
		}
	}
}

// said is the area of a floor, told by putting those in which it is in their order by ids, and taking the last one.
func said(l []api.Box, at api.Spot) int {
	l = slices.DeleteFunc(slices.Clone(l), func(b api.Box) bool { return !In(b, at) })
	slices.SortStableFunc(l, func(a, b api.Box) int {
		if a.Id < b.Id {
			return -1
		}
		if a.Id > b.Id {
			return 1
		}
		return 0
	})
	if len(l) == 0 {
		return 1
	}
	return l[len(l)-1].Area
}

func ofHolds(t *testing.T, l []api.Box, at api.Spot) {
	t.Helper()
	own := slices.Clone(l)
	if got, want := Of(own, at), said(l, at); got != want {
		t.Fatalf("Of(%v, %v) = %d; want %d", l, at, got, want)
	}
	if !slices.Equal(own, l) {
		t.Fatalf("of %v, %v is left", l, own)
	}
}

// P12.1: all lists of few ids, the floor in none of them, in some, in all; the area tells which box it was.
func TestOfAllShortLists(t *testing.T) {
	at := spot(3, 7, 0)
	here, beside := cube(2, 5, -3, 4, 9, 7), cube(2, 5, 1, 4, 9, 7)
	var kinds []api.Box
	for _, id := range []int{1, 2, 3} {
		kinds = append(kinds, named(here, id, 0), named(beside, id, 0))
	}
	lists(5, kinds, func(l []api.Box) {
		l = slices.Clone(l)
		for i := range l {
			l[i].Area = 10 + i
		}
		ofHolds(t, l, at)
	})
	kinds = nil
	for _, id := range slices.Concat(extremes, []int{-1, 0, 1, mostId, mostId + 1}) {
		kinds = append(kinds, named(here, id, 0))
	}
	lists(3, kinds, func(l []api.Box) {
		l = slices.Clone(l)
		for i := range l {
			l[i].Area = 10 + i
		}
		ofHolds(t, l, at)
	})
}

// P12.1: just MaxBoxes, one more, and many: in each alone, in all, in all but one; ids that rise, fall, are the same, in any other order.
func TestOfManyBoxes(t *testing.T) {
	at := spot(3, 7, 0)
	here, beside := cube(2, 5, -3, 4, 9, 7), cube(2, 5, -9, 4, 9, -1)
	for _, n := range []int{1, 2, mostBoxes, mostBoxes + 1, 100} {
		rule := &numbers{uint32(n)}
		for _, id := range []func(i int) int{
			func(i int) int { return i },
			func(i int) int { return n - i },
			func(i int) int { return 5 },
			func(i int) int { return i / 3 },
			func(i int) int { return (n - i) / 3 },
			func(i int) int { return i * 37 % 101 },
			func(i int) int { return rule.below(9) - 4 },
		} {
			all, none := make([]api.Box, n), make([]api.Box, n)
			for i := range n {
				all[i], none[i] = named(here, id(i), 10+i), named(beside, id(i), 10+i)
			}
			ofHolds(t, all, at)
			if got := Of(none, at); got != 1 {
				t.Errorf("in none of %v: Of = %d", none, got)
			}
			for i := range n {
				one, other := slices.Clone(none), slices.Clone(all)
				one[i], other[i] = all[i], none[i]
				if got := Of(one, at); got != 10+i {
					t.Errorf("in the %d-th of %v: Of = %d", i, one, got)
				}
				ofHolds(t, other, at)
			}
		}
	}
	falling := make([]api.Box, 1<<16)
	for i := range falling {
		falling[i] = named(here, -i, i)
	}
	if got := Of(falling, at); got != 0 {
		t.Errorf("of very many falling boxes: Of = %d", got)
	}
}

// painted is the grid that Mark has to tell: all floors are given area 1, and then box by box, by rising ids, each one's columns are gone over.
func painted(g api.Grid, l []api.Box) api.Grid {
	g = copied(g)
	for _, column := range g.Floors {
		for k := range column {
			column[k].Area = 1
		}
	}
	for id := 1; id <= mostId; {
		next := math.MaxInt
		for _, b := range l {
			if b.Id == id {
				paint(g, b)
			} else if b.Id > id {
				next = min(next, b.Id)
			}
		}
		id = next
	}
	return g
}

func paint(g api.Grid, b api.Box) {
	for z := b.Z0; z <= b.Z1; z++ {
		for x := b.X0; x <= b.X1; x++ {
			if x < g.X || x >= g.X+g.W || z < g.Z || z >= g.Z+g.D {
				continue
			}
			column := g.Floors[(z-g.Z)*g.W+x-g.X]
			for k, p := range column {
				if b.Y0 <= p.Y && p.Y <= b.Y1 {
					column[k].Area = b.Area
				}
			}
		}
	}
}

// markHolds has Mark give what is painted, and Count as many of each area as there are.
func markHolds(t *testing.T, c api.Config, g api.Grid, l []api.Box) api.Grid {
	t.Helper()
	was, own := copied(g), slices.Clone(l)
	got, e := Mark(c, g, own)
	if want := painted(g, l); e != api.OK || !alike(got, want) || !open.Same(got, want) {
		t.Fatalf("Mark(%v, %v, %v) = %v, %v; want %v", c, g, l, got, e, want)
	}
	if !alike(g, was) || !slices.Equal(own, l) {
		t.Fatalf("of %v, %v, %v and %v are left", was, l, g, own)
	}
	if len(got.Floors) == 0 && got.Floors != nil {
		t.Fatalf("Mark(%v) has a list of nothing", g)
	}
	for _, column := range got.Floors {
		if len(column) == 0 && column != nil {
			t.Fatalf("Mark(%v) has a column of nothing", g)
		}
	}
	if e := open.Check(got); e != api.OK {
		t.Fatalf("Mark(%v, %v, %v) = %v may not be", c, g, l, got)
	}
	countHolds(t, got)
	return got
}

// countHolds has Count give how often each area is among a grid's floors.
func countHolds(t *testing.T, g api.Grid) {
	t.Helper()
	was := copied(g)
	got := Count(g)
	for area, n := range got {
		want := 0
		for _, column := range g.Floors {
			for _, p := range column {
				if p.Area == area {
					want++
				}
			}
		}
		if n != want {
			t.Fatalf("Count(%v)[%d] = %d; want %d", g, area, n, want)
		}
	}
	if !alike(g, was) {
		t.Fatalf("of %v, %v is left", was, g)
	}
}

// P12.2: the chapter's examples, and the edges of boxes and grids.
func TestMarkTable(t *testing.T) {
	c := config(8, 8)
	low := func(area int) []api.Floor { return col(f(0, sky, area)) }
	row := func(l ...[]api.Floor) [][]api.Floor { return l }
	plain := row(low(1), low(1), low(1), low(1))
	storeys := row(col(f(0, 4, 1), f(4, 9, 1), f(9, sky, 1)))
	for _, x := range []struct {
		name string
		b    [4]int
		own  [][]api.Floor
		l    []api.Box
		want [][]api.Floor
	}{
		{"the chapter's first", [4]int{3, 4, 1, 1}, row(low(1)), boxes(named(cube(3, 4, 0, 3, 4, 0), 3, 2), named(cube(3, 4, 0, 3, 4, 0), 5, 4)), row(low(4))},
		{"the chapter's second", [4]int{3, 4, 1, 1}, row(low(1)), nil, row(low(1))},
		{"no box, whatever it had ahead", [4]int{3, 4, 4, 1}, row(low(0), low(1), low(2), low(7)), nil, plain},
		{"a box, whatever it had ahead", [4]int{3, 4, 4, 1}, row(low(0), low(1), low(2), low(7)), boxes(cube(4, 4, 0, 5, 4, 0)), row(low(1), low(2), low(2), low(1))},
		{"over the whole grid", [4]int{3, 4, 2, 2}, plain, boxes(cube(0, 0, -high, 7, 7, high)), row(low(2), low(2), low(2), low(2))},
		{"just the whole grid", [4]int{3, 4, 2, 2}, plain, boxes(cube(3, 4, 0, 4, 5, 0)), row(low(2), low(2), low(2), low(2))},
		{"the first column", [4]int{3, 4, 2, 2}, plain, boxes(cube(0, 0, 0, 3, 4, 0)), row(low(2), low(1), low(1), low(1))},
		{"the row's last column", [4]int{3, 4, 2, 2}, plain, boxes(cube(4, 0, 0, 7, 4, 0)), row(low(1), low(2), low(1), low(1))},
		{"the second row's first column", [4]int{3, 4, 2, 2}, plain, boxes(cube(0, 5, 0, 3, 7, 0)), row(low(1), low(1), low(2), low(1))},
		{"the last column", [4]int{3, 4, 2, 2}, plain, boxes(cube(4, 5, 0, 7, 7, 0)), row(low(1), low(1), low(1), low(2))},
		{"one row", [4]int{3, 4, 2, 2}, plain, boxes(cube(0, 5, 0, 7, 5, 0)), row(low(1), low(1), low(2), low(2))},
		{"one column of rows", [4]int{3, 4, 2, 2}, plain, boxes(cube(4, 0, 0, 4, 7, 0)), row(low(1), low(2), low(1), low(2))},
		{"ahead of the grid", [4]int{3, 4, 2, 2}, plain, boxes(cube(0, 0, 0, 2, 7, 0), cube(0, 0, 0, 7, 3, 0)), plain},
		{"past the grid", [4]int{3, 4, 2, 2}, plain, boxes(cube(5, 0, 0, 7, 7, 0), cube(0, 6, 0, 7, 7, 0)), plain},
		{"above the floors", [4]int{3, 4, 2, 2}, plain, boxes(cube(0, 0, 1, 7, 7, high)), plain},
		{"below the floors", [4]int{3, 4, 2, 2}, plain, boxes(cube(0, 0, -high, 7, 7, -1)), plain},
		{"columns of the world count, not of the grid", [4]int{-1, -2, 2, 3}, append(plain, low(1), low(1)), boxes(cube(0, 0, 0, 0, 0, 0)), row(low(1), low(1), low(1), low(1), low(1), low(2))},
		{"a grid that lies beyond the world", [4]int{8, 8, 2, 2}, plain, boxes(cube(0, 0, -high, 7, 7, high)), plain},
		{"one floor of a storey", [4]int{2, 2, 1, 1}, storeys, boxes(cube(2, 2, 4, 2, 2, 4)), row(col(f(0, 4, 1), f(4, 9, 2), f(9, sky, 1)))},
		{"from a floor up", [4]int{2, 2, 1, 1}, storeys, boxes(cube(2, 2, 4, 2, 2, high)), row(col(f(0, 4, 1), f(4, 9, 2), f(9, sky, 2)))},
		{"from one above it", [4]int{2, 2, 1, 1}, storeys, boxes(cube(2, 2, 5, 2, 2, high)), row(col(f(0, 4, 1), f(4, 9, 1), f(9, sky, 2)))},
		{"from one below it", [4]int{2, 2, 1, 1}, storeys, boxes(cube(2, 2, 3, 2, 2, high)), row(col(f(0, 4, 1), f(4, 9, 2), f(9, sky, 2)))},
		{"up to a floor", [4]int{2, 2, 1, 1}, storeys, boxes(cube(2, 2, -high, 2, 2, 4)), row(col(f(0, 4, 2), f(4, 9, 2), f(9, sky, 1)))},
		{"up to one above it", [4]int{2, 2, 1, 1}, storeys, boxes(cube(2, 2, -high, 2, 2, 5)), row(col(f(0, 4, 2), f(4, 9, 2), f(9, sky, 1)))},
		{"up to one below it", [4]int{2, 2, 1, 1}, storeys, boxes(cube(2, 2, -high, 2, 2, 3)), row(col(f(0, 4, 2), f(4, 9, 1), f(9, sky, 1)))},
		{"a room reaches into it, its floor does not", [4]int{2, 2, 1, 1}, storeys, boxes(cube(2, 2, 1, 2, 2, 3)), storeys},
		{"the topmost room reaches into it", [4]int{2, 2, 1, 1}, storeys, boxes(cube(2, 2, 10, 2, 2, high)), storeys},
		{"floors at the least height and the greatest", [4]int{2, 2, 1, 1}, row(col(f(-high, high, 1), f(high, sky, 1))), boxes(cube(2, 2, -high, 2, 2, -high), named(cube(2, 2, high, 2, 2, high), 2, 3)), row(col(f(-high, high, 2), f(high, sky, 3)))},
		{"an area of 0", [4]int{2, 2, 1, 1}, storeys, boxes(named(cube(2, 2, 0, 2, 2, 4), 1, 0)), row(col(f(0, 4, 0), f(4, 9, 0), f(9, sky, 1)))},
		{"the greatest area", [4]int{2, 2, 1, 1}, storeys, boxes(named(cube(2, 2, 4, 2, 2, 9), 1, mostArea)), row(col(f(0, 4, 1), f(4, 9, 7), f(9, sky, 7)))},
		{"a box of area 1 in one of area 3", [4]int{3, 4, 4, 1}, plain, boxes(named(cube(4, 4, 0, 4, 4, 0), 2, 1), named(cube(3, 4, 0, 5, 4, 0), 1, 3)), row(low(3), low(1), low(3), low(1))},
		{"columns of no floor", [4]int{3, 4, 2, 2}, row(nil, low(5), col(), nil), boxes(cube(3, 4, 0, 4, 5, 0)), row(nil, low(2), nil, nil)},
		{"no column", [4]int{3, 4, 0, 5}, nil, boxes(cube(3, 4, 0, 4, 5, 0)), nil},
		{"no row", [4]int{3, 4, 5, 0}, row(), boxes(cube(3, 4, 0, 4, 5, 0)), nil},
	} {
		g := api.Grid{X: x.b[0], Z: x.b[1], W: x.b[2], D: x.b[3], Floors: x.own}
		want := g
		want.Floors = x.want
		if got, e := Mark(c, g, x.l); e != api.OK || !alike(got, want) {
			t.Errorf("%s: Mark(%v, %v) = %v, %v; want %v", x.name, g, x.l, got, e, want)
		}
		markHolds(t, c, g, x.l)
	}
}

// goodGrids may be, at each bound.
func goodGrids() []api.Grid {
	l := []api.Grid{{}, {Floors: [][]api.Floor{}}, {X: 5, W: 3}, {Z: -7, D: 4}}
	for _, b := range [][4]int{{0, 0, 1, 1}, {3, -2, 1, 5}, {-4, 7, 6, 1}, {-3, -2, 4, 3}, {-far, -far, 2, 3}, {far, far, 3, 2}, {-far, far, 0, far}, {far, -far, far, 0}, {0, 0, 3, 3}, {9, 4, 2, 2}, {-6, 1, 5, 5}, {-20, 3, far, 2}, {7, -7, 3, far}, {-1, -1, 34, 34}} {
		l = append(l, filled(b[0], b[1], b[2], b[3]), api.Grid{X: b[0], Z: b[1], W: b[2], D: b[3], Floors: make([][]api.Floor, b[2]*b[3])})
	}
	return append(l, api.Grid{X: 4, Z: 4, W: 1, D: 1, Floors: [][]api.Floor{tower(most, -high, 2)}}, filled(-1, -1, far, far))
}

// P12.2: grids of all kinds, with no box, one, several, just MaxBoxes.
func TestMarkGrids(t *testing.T) {
	c := config(32, 32)
	for i, g := range goodGrids() {
		for _, n := range []int{0, 1, 2, 5, mostBoxes} {
			markHolds(t, c, g, strewn(c, n, 20, -12, 30, uint32(i)))
			markHolds(t, c, g, strewn(c, n, 3, -12, 30, uint32(i+99)))
		}
		markHolds(t, c, g, boxes(vast(1, 0)))
		markHolds(t, c, g, boxes(vast(mostId, mostArea), vast(1, 3)))
	}
}

// P12.2: each column of a grid alone is a box, each height of its floors and those beside.
func TestMarkEachColumn(t *testing.T) {
	c := config(9, 7)
	g := filled(-2, 1, 13, 8)
	for z := range c.D {
		for x := range c.W {
			for y := -10; y <= 9; y++ {
				markHolds(t, c, g, boxes(cube(x, z, y, x, z, y)))
			}
			markHolds(t, c, g, boxes(cube(x, z, -high, x, z, high)))
		}
	}
	for x0 := range c.W {
		for x1 := x0; x1 < c.W; x1++ {
			for z0 := range c.D {
				for z1 := z0; z1 < c.D; z1++ {
					markHolds(t, c, g, boxes(cube(x0, z0, -5, x1, z1, 2)))
				}
			}
		}
	}
}

// P12.2: the floors of a built grid, with a storey above: what is marked hangs on the floor's height alone.
func TestMarkBuiltGrids(t *testing.T) {
	c := config(16, 8)
	var tris []api.Tri
	for i, y := range []int{0, 5, 11} {
		a, b, d, e := api.Vertex{X: 2, Y: y, Z: 1}, api.Vertex{X: 9, Y: y, Z: 1}, api.Vertex{X: 2, Y: y, Z: 6}, api.Vertex{X: 9, Y: y + i, Z: 6}
		tris = append(tris, api.Tri{Id: 2*i + 1, V: [3]api.Vertex{a, b, d}}, api.Tri{Id: 2*i + 2, V: [3]api.Vertex{b, e, d}})
	}
	g, e := open.Build(c, tris, -1, -1, 18, 10)
	if e != api.OK {
		t.Fatal(e)
	}
	if got := markHolds(t, c, g, nil); !open.Same(got, g) || Count(got)[1] == 0 {
		t.Errorf("without boxes %v has become %v", g, got)
	}
	for y0 := -2; y0 <= 14; y0++ {
		for y1 := y0; y1 <= 14; y1++ {
			markHolds(t, c, g, boxes(named(cube(0, 0, y0, 15, 7, y1), 1, (y1+2)%8), cube(4, 2, y0, 6, 4, y0)))
		}
	}
	m := markHolds(t, c, g, boxes(cube(0, 0, 1, 15, 7, 4)))
	if !open.Same(m, g) {
		t.Error("a room that reaches into a box has marked its floor")
	}
	m = markHolds(t, c, g, boxes(named(cube(0, 0, 5, 15, 7, 5), 1, 0)))
	for at, p := range open.All(m) {
		if (p.Area == 0) != (at.Y == 5) {
			t.Errorf("the floor at %v has area %d", at, p.Area)
		}
	}
}

func markRefused(t *testing.T, c api.Config, g api.Grid, l []api.Box, want api.Errno) {
	t.Helper()
	was, own := copied(g), slices.Clone(l)
	got, e := Mark(c, g, own)
	if e != want || got.X != 0 || got.Z != 0 || got.W != 0 || got.D != 0 || got.Floors != nil {
		t.Fatalf("Mark(%v, %v, %v) = %v, %v; want %v", c, g, l, got, e, want)
	}
	if !alike(g, was) || !slices.Equal(own, l) {
		t.Fatalf("of %v, %v, %v and %v are left", was, l, g, own)
	}
}

// goodConfigs may be, at each bound.
func goodConfigs() []api.Config {
	return []api.Config{
		{Clear: 0, Climb: 0, Height: 1, Rise: 0, Run: 1, W: 1, D: 1},
		{Clear: 3, Climb: 8, Height: 32, Rise: 100, Run: 100, W: 32, D: 32},
		{Clear: 3, Climb: 8, Height: 9, Rise: 100, Run: 1, W: 32, D: 1},
		{Clear: 1, Climb: 0, Height: 32, Rise: 0, Run: 100, W: 1, D: 32},
		{Clear: 2, Climb: 2, Height: 3, Rise: 7, Run: 9, W: 8, D: 20},
	}
}

// wrongConfigs have one field past its bounds, or nothing that may be.
func wrongConfigs() []api.Config {
	l := []api.Config{{}, {Height: 3}, {Height: -1, Climb: -3}}
	for _, good := range goodConfigs() {
		for i, bad := range [][]int{{-1, 4}, {-1, 9, good.Height}, {33, good.Climb, 0, -1}, {-1, 101}, {0, -1, 101}, {0, -1, 33}, {0, -1, 33}} {
			for _, n := range slices.Concat(bad, extremes) {
				c := good
				*[]*int{&c.Clear, &c.Climb, &c.Height, &c.Rise, &c.Run, &c.W, &c.D}[i] = n
				l = append(l, c)
			}
		}
	}
	return l
}

// wrongGrids may not be, in each way that layer 11's chapter names.
func wrongGrids() []api.Grid {
	one := func(l ...api.Floor) api.Grid { return api.Grid{W: 1, D: 1, Floors: [][]api.Floor{l}} }
	l := []api.Grid{
		{W: 1, D: 1}, {Floors: make([][]api.Floor, 1)}, {W: 2, D: 2, Floors: make([][]api.Floor, 3)}, {W: 2, D: 2, Floors: make([][]api.Floor, 5)}, {W: 3, Floors: make([][]api.Floor, 3)},
		{W: -1, D: -1, Floors: make([][]api.Floor, 1)}, {W: 1 << 32, D: 1 << 32}, {W: far + 1, D: 1, Floors: make([][]api.Floor, far+1)}, {W: 1, D: far + 1, Floors: make([][]api.Floor, far+1)},
		one(f(4, 4, 1)), one(f(5, 4, 1)), one(f(0, 5, 1), f(4, 9, 1)), one(f(5, 9, 1), f(0, 5, 1)), one(f(0, 4, 1), f(0, 4, 1)),
		one(f(0, 9, -1)), one(f(0, 9, mostArea+1)), one(f(0, 9, math.MinInt)), one(f(0, 9, math.MaxInt)), one(f(0, 9, 1<<32+1)),
		one(f(-high-1, 9, 1)), one(f(high+1, high+2, 1)), one(f(0, sky+1, 1)), one(f(math.MinInt, math.MaxInt, 1)), one(tower(most+1, 0, 3)...), one(api.Floor{}),
	}
	for _, n := range slices.Concat(extremes, []int{-far - 1, far + 1}) {
		for i := range 4 {
			for _, g := range []api.Grid{filled(0, 0, 2, 3), {}} {
				*[]*int{&g.X, &g.Z, &g.W, &g.D}[i] = n
				l = append(l, g)
			}
		}
	}
	for at := range 6 { // one wrong floor in the first column, in the last, in one between
		g := filled(-1, -1, 3, 2)
		g.Floors[at] = col(f(0, 4, 1), f(4, 9, mostArea+1), f(9, 12, 1))
		l = append(l, g)
	}
	return l
}

// wrongBoxes may not be in a world of 32 by 32 columns: each of their numbers past its bounds, or ends the wrong way about.
func wrongBoxes() []api.Box {
	l := boxes(api.Box{}, named(cube(5, 5, 5, 5, 5, 5), 0, 1), cube(6, 5, 5, 5, 5, 5), cube(5, 6, 5, 5, 5, 5), cube(5, 5, 6, 5, 5, 5), cube(31, 31, high, 0, 0, -high))
	for i, bad := range [][]int{{0, -1, mostId + 1}, {-1, 10}, {8, 32}, {-1, 12}, {10, 32}, {-high - 1, 8}, {5, high + 1}, {-1, mostArea + 1}} {
		for _, n := range slices.Concat(bad, extremes) {
			b := cube(9, 11, 6, 9, 11, 7)
			*[]*int{&b.Id, &b.X0, &b.X1, &b.Z0, &b.Z1, &b.Y0, &b.Y1, &b.Area}[i] = n
			l = append(l, b)
		}
	}
	return l
}

// P12.2: grids that may not be, in each way; no floor of one is counted.
func TestMarkAndCountOfWrongGrids(t *testing.T) {
	for _, g := range wrongGrids() {
		if e := open.Check(g); e != api.ErrArg {
			t.Fatalf("Check(%v) = %v", g, e)
		}
		for _, l := range [][]api.Box{nil, boxes(vast(1, 2)), boxes(vast(0, 2)), slices.Repeat(boxes(vast(1, 2)), mostBoxes+1)} {
			markRefused(t, config(32, 32), g, l, api.ErrArg)
		}
		was := copied(g)
		if n := Count(g); n != [mostArea + 1]int{} {
			t.Errorf("Count(%v) = %v", g, n)
		}
		if !alike(g, was) {
			t.Errorf("of %v, %v is left", was, g)
		}
	}
}

// P12.2: boxes that may not be, the first of them, the last, one between, in a grid that they reach or don't.
func TestMarkRefusesBoxes(t *testing.T) {
	c := config(32, 32)
	grids := []api.Grid{filled(-1, -1, 5, 4), {}, {W: 1, D: 1, Floors: [][]api.Floor{nil}}, filled(0, 0, 32, 32)}
	for i, b := range wrongBoxes() {
		g := grids[i%3]
		for _, beside := range [][]api.Box{nil, boxes(vast(1, 2)), strewn(c, 4, 9, -9, 9, 5), strewn(c, mostBoxes-1, 99, -9, 9, 6)} {
			for at := range len(beside) + 1 {
				markRefused(t, c, g, slices.Insert(slices.Clone(beside), at, b), api.ErrArg)
			}
		}
		markRefused(t, c, grids[3], boxes(b), api.ErrArg)
	}
}

// P12.2: each of a box's numbers at its bounds, by worlds of all sizes, and one past the world's side.
func TestMarkTakesBoxesAtTheirBounds(t *testing.T) {
	for _, c := range goodConfigs() {
		g := filled(0, 0, c.W, c.D)
		x, z := c.W-1, c.D-1
		for _, b := range boxes(
			cube(0, 0, -high, x, z, high), cube(0, 0, 0, 0, 0, 0), cube(x, z, 0, x, z, 0), cube(0, z, -high, 0, z, -high), cube(x, 0, high, x, 0, high),
			named(cube(0, 0, -9, x, z, 20), mostId, 0), named(cube(0, 0, -9, x, z, 20), 1, mostArea), named(cube(0, 0, -9, x, z, 20), mostId-1, 1),
		) {
			markHolds(t, c, g, boxes(b))
			for i := range 4 {
				wrong := b
				*[]*int{&wrong.X0, &wrong.Z0, &wrong.X1, &wrong.Z1}[i] = []int{-1, -1, c.W, c.D}[i]
				markRefused(t, c, g, boxes(wrong), api.ErrArg)
			}
		}
	}
}

// P12.2: just MaxBoxes, and more, of one id or of many, each of which may be.
func TestMarkOfTooManyBoxes(t *testing.T) {
	c := config(32, 32)
	for _, g := range []api.Grid{{}, filled(-1, -1, 5, 4)} {
		for _, ids := range []int{1, 1000} {
			l := strewn(c, 500, ids, -12, 12, 8)
			for _, n := range []int{mostBoxes - 1, mostBoxes} {
				markHolds(t, c, g, l[:n])
			}
			for _, n := range []int{mostBoxes + 1, mostBoxes + 2, 2 * mostBoxes, 500} {
				markRefused(t, c, g, l[:n], api.ErrArg)
			}
		}
		markRefused(t, c, g, make([]api.Box, 1<<16), api.ErrArg)
	}
}

// P12.2, R2: a config that may not be is told of first.
func TestMarkOfWrongConfigs(t *testing.T) {
	good, wrong := []api.Grid{{}, filled(0, 0, 2, 2)}, wrongGrids()
	for i, c := range wrongConfigs() {
		for _, g := range append(good, wrong[i%len(wrong)]) {
			for _, l := range [][]api.Box{nil, boxes(cube(0, 0, 0, 0, 0, 0)), boxes(api.Box{}), make([]api.Box, mostBoxes+1), slices.Repeat(boxes(cube(0, 0, 0, 0, 0, 0)), mostBoxes+1)} {
				markRefused(t, c, g, l, api.ErrConfig)
			}
		}
	}
	for _, c := range goodConfigs() {
		for _, g := range good {
			markHolds(t, c, g, nil)
			markHolds(t, c, g, boxes(cube(0, 0, -9, 0, 0, 9)))
		}
	}
}

// P12.2: no floor, floors of each area alone, in unlike numbers, in columns of one floor and of MaxSpans.
func TestCount(t *testing.T) {
	for _, g := range goodGrids() {
		countHolds(t, g)
	}
	for _, g := range []api.Grid{{}, {W: 5}, {W: 2, D: 3, Floors: make([][]api.Floor, 6)}} {
		if n := Count(g); n != [mostArea + 1]int{} {
			t.Errorf("Count(%v) = %v", g, n)
		}
	}
	var all api.Grid
	var want [mostArea + 1]int
	for area := range mostArea + 1 {
		column := tower(area+1, -3, 5)
		for k := range column {
			column[k].Area = area
		}
		var alone [mostArea + 1]int
		alone[area], want[area] = area+1, area+1
		if n := Count(api.Grid{X: -9, Z: 9, W: 1, D: 1, Floors: [][]api.Floor{column}}); n != alone {
			t.Errorf("Count of %v = %v", column, n)
		}
		all.W, all.D, all.Floors = area+1, 1, append(all.Floors, column)
		if n := Count(all); n != want {
			t.Errorf("Count(%v) = %v; want %v", all, n, want)
		}
	}
	if n := Count(api.Grid{W: 1, D: 1, Floors: [][]api.Floor{tower(most, -high, 3)}}); n != [mostArea + 1]int{1, 1, 1, 1, 1, 1, 1, 1} {
		t.Errorf("Count of one of each = %v", n)
	}
	full := api.Grid{W: far, D: far, Floors: slices.Repeat([][]api.Floor{tower(most, 0, 3)}, far*far)}
	if n := Count(full); n != [mostArea + 1]int{4096, 4096, 4096, 4096, 4096, 4096, 4096, 4096} {
		t.Errorf("Count of the greatest grid = %v", n)
	}
	m, e := Mark(config(32, 32), full, boxes(vast(4, 5), named(vast(9, 0), 9, 0)))
	if n := Count(m); e != api.OK || n != [mostArea + 1]int{32 * 32 * most, (4096 - 32*32) * most} {
		t.Errorf("Count of the greatest grid, marked = %v, %v", n, e)
	}
}

// P12.3: boxes of unlike ids in all orders.
func TestMarkInAllOrders(t *testing.T) {
	c := config(9, 8)
	g := filled(-1, -1, 11, 10)
	for seed := range uint32(6) {
		l := strewn(c, 5, 1, -12, 12, seed)
		for i := range l {
			l[i].Id = 1 + i*i*7
		}
		want := markHolds(t, c, g, l)
		orders(l, func(l []api.Box) {
			if got, e := Mark(c, g, l); e != api.OK || !open.Same(got, want) {
				t.Fatalf("Mark(%v, %v) = %v, %v; want %v", g, l, got, e, want)
			}
			for at := range open.All(g) {
				k, _ := open.Find(want, at.X, at.Z, at.Y)
				if got := Of(l, at); got != open.At(want, at.X, at.Z)[k].Area {
					t.Fatalf("Of(%v, %v) = %d", l, at, got)
				}
			}
		})
	}
	for seed := range uint32(40) { // MaxBoxes of them, turned about and mixed
		l := strewn(c, mostBoxes, 1, -12, 12, 50+seed)
		for i := range l {
			l[i].Id = 1 + i*3
		}
		want := markHolds(t, c, g, l)
		rule := &numbers{seed}
		for range 20 {
			for i := range l {
				k := rule.below(i + 1)
				l[i], l[k] = l[k], l[i]
			}
			for range 2 {
				slices.Reverse(l)
				if got, e := Mark(c, g, l); e != api.OK || !open.Same(got, want) {
					t.Fatalf("Mark(%v, %v) = %v, %v; want %v", g, l, got, e, want)
				}
			}
		}
	}
}

// P12.1, P12.2: of boxes of one id the last one tells, so that their order does matter; among others, too.
func TestMarkOfBoxesOfOneId(t *testing.T) {
	c := config(9, 8)
	g := api.Grid{X: 2, Z: 2, W: 1, D: 1, Floors: [][]api.Floor{tower(3, 0, 4)}}
	one := cube(0, 0, -9, 8, 7, 99)
	orders(boxes(named(one, 5, 2), named(one, 5, 4), named(one, 5, 6)), func(l []api.Box) {
		if m := markHolds(t, c, g, l); Count(m)[l[2].Area] != 3 {
			t.Errorf("Mark(%v) = %v", l, m)
		}
	})
	orders(boxes(named(one, 5, 2), named(one, 5, 4), named(one, 4, 7), named(one, 6, 3)), func(l []api.Box) {
		if m := markHolds(t, c, g, l); Count(m)[3] != 3 {
			t.Errorf("Mark(%v) = %v", l, m)
		}
		less := slices.DeleteFunc(l, func(b api.Box) bool { return b.Id == 6 })
		fives := slices.DeleteFunc(slices.Clone(less), func(b api.Box) bool { return b.Id != 5 })
		if m := markHolds(t, c, g, less); Count(m)[fives[1].Area] != 3 {
			t.Errorf("Mark(%v) = %v", less, m)
		}
	})
	orders(strewn(c, 6, 2, -12, 12, 3), func(l []api.Box) { markHolds(t, c, filled(-1, -1, 4, 3), l) })
}

// P12.3: Mark changes areas alone, and what it told can be marked again: nothing is left of the boxes of the first time.
func TestMarkTwice(t *testing.T) {
	c := config(16, 16)
	for i, g := range goodGrids() {
		first, second := strewn(c, 6, 30, -12, 12, uint32(i)), strewn(c, 3+i%9, 30, -12, 12, uint32(i+700))
		want := markHolds(t, c, g, second)
		once := markHolds(t, c, g, first)
		if twice := markHolds(t, c, once, second); !open.Same(twice, want) {
			t.Fatalf("Mark(%v, %v), and then %v: %v; want %v", g, first, second, twice, want)
		}
		if again := markHolds(t, c, once, first); !open.Same(again, once) {
			t.Fatalf("Mark(%v, %v) twice: %v; want %v", g, first, again, once)
		}
		for at, p := range open.All(g) {
			k, ok := open.Find(once, at.X, at.Z, at.Y)
			if !ok || open.At(once, at.X, at.Z)[k] != f(p.Y, p.Top, Of(first, at)) {
				t.Fatalf("the floor %v at %v has become %v", p, at, open.At(once, at.X, at.Z))
			}
		}
	}
}

// P12.3: each box dropped in turn gives back what the others say.
func TestMarkWithOneBoxLess(t *testing.T) {
	c := config(12, 12)
	g := filled(-1, -1, 14, 14)
	back := 0
	for seed := range uint32(12) {
		l := strewn(c, 1+int(seed), 40, -12, 12, seed)
		all := markHolds(t, c, g, l)
		for i, b := range l {
			less := slices.Delete(slices.Clone(l), i, i+1)
			got := markHolds(t, c, all, less)
			if want := markHolds(t, c, g, less); !open.Same(got, want) {
				t.Fatalf("without %v, %v is %v; want %v", b, all, got, want)
			}
			for at, p := range open.All(got) {
				k, _ := open.Find(all, at.X, at.Z, at.Y)
				was := open.At(all, at.X, at.Z)[k]
				if p != was {
					back++
				}
				if p != was && !In(b, at) {
					t.Fatalf("without %v the floor %v at %v has become %v", b, was, at, p)
				}
			}
		}
	}
	if back < 100 {
		t.Errorf("%d floors alone are given back", back)
	}
}

// roomy is the same grid, with spare room behind its columns and behind each of them, in one piece of memory.
func roomy(g api.Grid) (api.Grid, []api.Floor, [][]api.Floor) {
	var all []api.Floor
	for _, l := range g.Floors {
		all = append(append(all, l...), f(-99, 99, -9))
	}
	list := append(slices.Clone(g.Floors), col(f(8, 9, 0)), nil)
	at := 0
	for i, l := range g.Floors {
		list[i] = all[at : at+len(l)]
		at += len(l) + 1
	}
	g.Floors = list[:len(g.Floors)]
	return g, all, list
}

// R3, R4: what is handed in stays, its spare room, too, which counts for nothing; no two columns of an answer share memory, nor do two answers, nor an answer and what was handed in.
func TestMemory(t *testing.T) {
	c := config(9, 9)
	room := append(strewn(c, 5, 9, -12, 12, 77), vast(99, 7), api.Box{}, named(vast(mostId, 0), 0, -1))
	for _, g := range []api.Grid{filled(-1, -2, 5, 4), filled(0, 0, 1, 1), filled(3, 3, 4, 3), {W: 2, D: 1, Floors: [][]api.Floor{tower(most, 0, 3), nil}}} {
		for _, n := range []int{0, 1, 5} {
			for at := range g.Floors {
				memoryHolds(t, c, g, slices.Clone(room), n, at)
			}
		}
	}
}

// memoryHolds marks a grid by the first n boxes of a list, and writes over one column of an answer, then over all of it, then over all that was handed in.
func memoryHolds(t *testing.T, c api.Config, x api.Grid, room []api.Box, n, at int) {
	t.Helper()
	want, kept := painted(x, room[:n]), slices.Clone(room)
	g, all, list := roomy(x)
	wasAll, wasList := slices.Clone(all), slices.Clone(list)
	one, e := Mark(c, g, room[:n])
	two, _ := Mark(c, g, room[:n])
	Mark(c, g, room)
	Mark(api.Config{}, g, room[:n])
	Count(g)
	Of(room[:n], spot(3, 3, 0))
	if e != api.OK || !alike(one, want) || !alike(two, want) {
		t.Fatalf("Mark(%v) = %v, %v; want %v", x, one, e, want)
	}
	if !slices.Equal(all, wasAll) || !slices.Equal(room, kept) || !slices.EqualFunc(list, wasList, func(a, b []api.Floor) bool { return slices.Equal(a, b) }) {
		t.Fatalf("of %v, %v, %v and %v are left", x, kept, g, room)
	}
	blot(one.Floors[at], f(999, 0, 9))
	for other, p := range one.Floors {
		if other != at && !slices.Equal(p, want.Floors[other]) {
			t.Fatalf("column %d became %v by what was written over column %d", other, p, at)
		}
	}
	blot(one.Floors, col(f(999, 0, 9)))
	if !alike(two, want) || !alike(g, x) {
		t.Fatalf("by what was written over an answer, %v and %v have become %v and %v", want, x, two, g)
	}
	blot(all, f(-77, 77, 7))
	blot(list, col(f(-77, 77, 7)))
	blot(room, vast(mostId, 0))
	if !alike(two, want) {
		t.Fatalf("the answer %v has become %v by what was written over what was handed in", want, two)
	}
}
