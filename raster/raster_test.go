package raster

import (
	"math"
	"math/big"
	"slices"
	"testing"

	"footpath/api"
	"footpath/clip"
)

const (
	edge     = 32   // the most columns that a world has each way
	high     = 2048 // the greatest height
	most     = 8    // spans of a column
	mostTris = 200
	far      = 64 // where boxes may begin, and how wide they may be
)

// extremes are such as run over if one adds to them, doubles them, turns them round, or keeps half of their bits.
var extremes = []int{math.MinInt, math.MinInt + 1, math.MinInt / 2, -1 << 40, -1 << 32, 1 << 32, 1<<32 + 1, 1 << 40, 1 << 62, math.MaxInt - 1, math.MaxInt}

// world lets tall pieces be walked: up to 100 heights a column.
func world(w, d int) api.Config {
	return api.Config{Clear: 1, Climb: 1, Height: 3, Rise: 100, Run: 1, W: w, D: d}
}

func v(x, y, z int) api.Vertex { return api.Vertex{X: x, Y: y, Z: z} }

func of(a, b, c api.Vertex) api.Tri { return api.Tri{Id: 1, V: [3]api.Vertex{a, b, c}} }

func tris(l ...api.Tri) []api.Tri { return l }

func s(lo, hi int) api.Span { return api.Span{Lo: lo, Hi: hi} }

// w is a span that may be walked.
func w(lo, hi int) api.Span { return api.Span{Lo: lo, Hi: hi, Walk: true} }

func row(l ...api.Span) []api.Span { return l }

// stood is a triangle that has just that piece over a column: such as is walked stands over the column, a steep one beside it, and shares a side with it.
func stood(p api.Span, x, z int) api.Tri {
	if p.Walk {
		return of(v(x, p.Lo, z), v(x+1, p.Hi, z), v(x, p.Lo, z+1))
	}
	away := p.Lo - 900
	if away < -high {
		away = p.Lo + 900
	}
	return of(v(x+1, p.Lo, z), v(x+1, p.Hi, z+1), v(x+2, away, z))
}

func stoodAll(l []api.Span, x, z int) []api.Tri {
	var m []api.Tri
	for _, p := range l {
		m = append(m, stood(p, x, z))
	}
	return m
}

// slab is a flat square of two triangles.
func slab(x0, z0, x1, z1, y int) []api.Tri {
	return tris(of(v(x0, y, z0), v(x1, y, z0), v(x0, y, z1)), of(v(x1, y, z0), v(x1, y, z1), v(x0, y, z1)))
}

// storeys are n flat squares, two heights apart.
func storeys(n, x0, z0, x1, z1 int) []api.Tri {
	var l []api.Tri
	for i := range n {
		l = append(l, slab(x0, z0, x1, z1, 2*i)...)
	}
	return l
}

// numbers are told by a rule: the same in each run, and without a pattern that a world has.
type numbers struct{ state uint32 }

func (n *numbers) below(bound int) int {
	n.state = n.state*1664525 + 1013904223
	return int(n.state>>8) % bound
}

// strewn are n triangles of a world, some flat, some steep, at most so wide, between two heights.
func strewn(c api.Config, n, wide, from, to int, seed uint32) []api.Tri {
	rule := &numbers{seed}
	var l []api.Tri
	for len(l) < n {
		x, z, y := rule.below(c.W+1), rule.below(c.D+1), from+rule.below(to-from+1)
		corner := func() api.Vertex {
			p := v(min(x+rule.below(wide+1), c.W), y, min(z+rule.below(wide+1), c.D))
			if len(l)%3 != 0 {
				p.Y = min(y+rule.below(8), to)
			}
			return p
		}
		t := of(corner(), corner(), corner())
		t.Id = len(l) + 1
		if doubled(t) != 0 {
			l = append(l, t)
		}
	}
	return l
}

// doubled is twice the area that the triangle has, seen from above: below 0 for one way round, 0 for a line.
func doubled(t api.Tri) int {
	a, b, c := t.V[0], t.V[1], t.V[2]
	return (a.X-c.X)*(b.Z-c.Z) - (b.X-c.X)*(a.Z-c.Z)
}

// walks tells by how far up a triangle leads in one column, in wide fractions, whether it may be walked.
func walks(c api.Config, t api.Tri) bool {
	a, b, d := t.V[0], t.V[1], t.V[2]
	area := int64(doubled(t))
	upX := big.NewRat(int64((a.Y-d.Y)*(b.Z-d.Z)-(b.Y-d.Y)*(a.Z-d.Z)), area)
	upZ := big.NewRat(int64((b.Y-d.Y)*(a.X-d.X)-(a.Y-d.Y)*(b.X-d.X)), area)
	up := new(big.Rat).Add(upX.Mul(upX, upX), upZ.Mul(upZ, upZ))
	slope := big.NewRat(int64(c.Rise), int64(c.Run))
	return up.Cmp(slope.Mul(slope, slope)) <= 0
}

// painted are the spans of pieces, told by the heights that are in one: doubled, so that there is a gap between heights one apart.
func painted(l []api.Span) []api.Span {
	colour := make([]bool, 4*high+3) // the last one stays without
	for _, p := range l {
		for h := 2 * (p.Lo + high); h <= 2*(p.Hi+high); h++ {
			colour[h] = true
		}
	}
	var spans []api.Span
	for h, on := range colour {
		if on && (h == 0 || !colour[h-1]) {
			spans = append(spans, s(h/2-high, 0))
		}
		if !on && h > 0 && colour[h-1] {
			spans[len(spans)-1].Hi = (h-1)/2 - high
		}
	}
	for i := range spans {
		spans[i].Walk = slices.ContainsFunc(l, func(p api.Span) bool { return p.Walk && p.Hi == spans[i].Hi })
	}
	return spans
}

func inWorld(c api.Config, x, z int) bool { return x >= 0 && x < c.W && z >= 0 && z < c.D }

// column is what the chapter asks of Column, where nothing is wrong.
func column(c api.Config, l []api.Tri, x, z int) ([]api.Span, api.Errno) {
	if !inWorld(c, x, z) {
		return nil, api.OK
	}
	var p []api.Span
	for _, t := range l {
		if lo, hi, ok, _ := clip.Over(t, x, z); ok {
			p = append(p, api.Span{Lo: lo, Hi: hi, Walk: walks(c, t)})
		}
	}
	p = painted(p)
	if len(p) > most {
		return nil, api.ErrFull
	}
	return p, api.OK
}

// columnsOf is what the chapter asks of Box, where nothing is wrong.
func columnsOf(c api.Config, l []api.Tri, x, z, w, d int) ([][]api.Span, api.Errno) {
	var grid [][]api.Span
	for cz := z; cz < z+d; cz++ {
		for cx := x; cx < x+w; cx++ {
			p, e := column(c, l, cx, cz)
			if e != api.OK {
				return nil, e
			}
			grid = append(grid, p)
		}
	}
	return grid, api.OK
}

// touching is what the chapter asks of Touch, where nothing is wrong.
func touching(c api.Config, l []api.Tri, x, z, w, d int) []api.Tri {
	return slices.DeleteFunc(slices.Clone(l), func(t api.Tri) bool {
		for cz := z; cz < z+d; cz++ {
			for cx := x; cx < x+w; cx++ {
				if _, _, ok, _ := clip.Over(t, cx, cz); ok && inWorld(c, cx, cz) {
					return false
				}
			}
		}
		return true
	})
}

func sameGrid(a, b [][]api.Span) bool {
	return slices.EqualFunc(a, b, func(p, q []api.Span) bool { return slices.Equal(p, q) })
}

func checkColumn(t *testing.T, c api.Config, l []api.Tri, x, z int, want []api.Span, wanted api.Errno) {
	t.Helper()
	if got, e := Column(c, l, x, z); e != wanted || !slices.Equal(got, want) || e != api.OK && got != nil {
		t.Fatalf("Column(%v, %v, %d, %d) = %v, %v; want %v, %v", c, l, x, z, got, e, want, wanted)
	}
}

// checkBox holds Box and Touch to what the chapter asks.
func checkBox(t *testing.T, c api.Config, l []api.Tri, x, z, w, d int) {
	t.Helper()
	want, wanted := columnsOf(c, l, x, z, w, d)
	if got, e := Box(c, l, x, z, w, d); e != wanted || !sameGrid(got, want) || e != api.OK && got != nil {
		t.Fatalf("Box(%v, %v, %d, %d, %d, %d) = %v, %v; want %v, %v", c, l, x, z, w, d, got, e, want, wanted)
	}
	touch := touching(c, l, x, z, w, d)
	if got := Touch(c, l, x, z, w, d); !slices.Equal(got, touch) {
		t.Fatalf("Touch(%v, %v, %d, %d, %d, %d) = %v; want %v", c, l, x, z, w, d, got, touch)
	}
}

// checkRefused asks for an error of Column and Box, and for nothing beside it; Touch tells of none.
func checkRefused(t *testing.T, c api.Config, l []api.Tri, want api.Errno) {
	t.Helper()
	for _, at := range [][2]int{{0, 0}, {5, 3}, {-1, 0}, {math.MinInt, math.MaxInt}} {
		if got, e := Column(c, l, at[0], at[1]); got != nil || e != want {
			t.Errorf("Column(%v, %v, %d, %d) = %v, %v; want %v", c, l, at[0], at[1], got, e, want)
		}
	}
	for _, b := range [][4]int{{0, 0, 1, 1}, {0, 0, 8, 8}, {0, 0, 0, 0}, {-1, -1, 1, 1}, {40, 40, 2, 2}} {
		checkRefusedBox(t, c, l, b, want)
	}
}

func checkRefusedBox(t *testing.T, c api.Config, l []api.Tri, b [4]int, want api.Errno) {
	t.Helper()
	if got, e := Box(c, l, b[0], b[1], b[2], b[3]); got != nil || e != want {
		t.Errorf("Box(%v, %v, %v) = %v, %v; want %v", c, l, b, got, e, want)
	}
	if got := Touch(c, l, b[0], b[1], b[2], b[3]); len(got) != 0 {
		t.Errorf("Touch(%v, %v, %v) = %v", c, l, b, got)
	}
}

// orders visits a list in all its orders.
func orders(l []api.Tri, visit func([]api.Tri)) {
	var swap func(k int, l []api.Tri)
	swap = func(k int, l []api.Tri) {
		if k >= len(l)-1 {
			visit(l)
			return
		}
		for i := k; i < len(l); i++ {
			m := slices.Clone(l)
			m[k], m[i] = m[i], m[k]
			swap(k+1, m)
		}
	}
	swap(0, l)
}

// P9.1: the examples of the chapter.
func TestExamples(t *testing.T) {
	c := world(16, 8)
	c.Rise = 1
	flat := of(v(0, 3, 0), v(1, 3, 0), v(0, 3, 1))
	steep := of(v(0, 3, 0), v(1, 7, 0), v(0, 3, 1))
	checkColumn(t, c, tris(flat), 0, 0, row(w(3, 3)), api.OK)
	checkColumn(t, c, tris(flat, steep), 0, 0, row(s(3, 7)), api.OK)
	checkColumn(t, c, tris(steep, flat), 0, 0, row(s(3, 7)), api.OK)
}

// P9.1, P9.3: pieces that meet, that don't, and that end at one height, in every order, and each of them twice.
func TestColumnTable(t *testing.T) {
	for _, c := range []struct {
		name    string
		l, want []api.Span
	}{
		{"none", nil, nil},
		{"one of one height", row(w(7, 7)), row(w(7, 7))},
		{"one of one height, steep", row(s(7, 7)), row(s(7, 7))},
		{"one", row(w(-3, 4)), row(w(-3, 4))},
		{"one, steep", row(s(-3, 4)), row(s(-3, 4))},
		{"height 0", row(w(0, 0)), row(w(0, 0))},
		{"the least height and the greatest", row(w(-high, -high), s(high, high)), row(w(-high, -high), s(high, high))},
		{"from the least height to the greatest", row(s(-high, high)), row(s(-high, high))},
		{"they share a stretch", row(w(0, 4), s(2, 9)), row(s(0, 9))},
		{"they share just one height", row(s(0, 4), w(4, 9)), row(w(0, 9))},
		{"they stand one height apart", row(w(0, 4), s(5, 9)), row(w(0, 4), s(5, 9))},
		{"they stand one height apart, below 0", row(w(-9, -5), s(-4, -1)), row(w(-9, -5), s(-4, -1))},
		{"single heights one apart", row(w(2, 2), s(3, 3), w(4, 4)), row(w(2, 2), s(3, 3), w(4, 4))},
		{"they end at one height, none walked", row(s(0, 5), s(2, 5)), row(s(0, 5))},
		{"they end at one height, the one that begins below walked", row(w(0, 5), s(2, 5)), row(w(0, 5))},
		{"they end at one height, the one that begins above walked", row(s(0, 5), w(2, 5)), row(w(0, 5))},
		{"they end at one height, each walked", row(w(0, 5), w(2, 5)), row(w(0, 5))},
		{"alike but for being walked", row(s(3, 5), w(3, 5)), row(w(3, 5))},
		{"walked below the greatest height alone", row(w(0, 4), s(2, 5), w(4, 4)), row(s(0, 5))},
		{"within the other", row(w(0, 9), s(3, 4)), row(w(0, 9))},
		{"within the other, walked", row(s(0, 9), w(3, 4)), row(s(0, 9))},
		{"through another", row(s(0, 1), w(4, 5), s(1, 4)), row(w(0, 5))},
		{"through two others, and one beside", row(s(0, 1), w(1, 3), s(3, 4), w(-6, -5)), row(w(-6, -5), s(0, 4))},
		{"two by two", row(s(0, 2), w(1, 3), s(5, 7), s(4, 6)), row(w(0, 3), s(4, 7))},
	} {
		for _, at := range [][2]int{{0, 0}, {4, 2}, {13, 7}} {
			l := stoodAll(c.l, at[0], at[1])
			orders(l, func(l []api.Tri) { checkColumn(t, world(16, 8), l, at[0], at[1], c.want, api.OK) })
			checkColumn(t, world(16, 8), slices.Concat(l, l), at[0], at[1], c.want, api.OK)
			for i := range l {
				checkColumn(t, world(16, 8), slices.Insert(slices.Clone(l), i, l[i]), at[0], at[1], c.want, api.OK)
			}
		}
	}
}

// P9.1, P9.2: of one triangle what is over the columns round it, those that have a point or a line of it alone among them.
func TestOneTriangle(t *testing.T) {
	ramp := of(v(2, 0, 2), v(4, 4, 2), v(2, 0, 4))     // of height 2 * (X - 2)
	steep := of(v(2, 0, 2), v(4, 400, 2), v(2, 0, 4))  // of height 200 * (X - 2)
	third := of(v(2, -1, 2), v(5, 0, 2), v(2, -1, 3))  // heights between whole ones, below 0
	folded := of(v(2, 0, 2), v(3, 500, 2), v(3, 0, 3)) // steep, with a flat side that lies across a column
	for _, c := range []struct {
		name string
		t    api.Tri
		want [5][]api.Span // from (1, 1) on
		next [5][]api.Span // from (1, 2) on
		last [5][]api.Span // from (1, 3) on
		past [5][]api.Span // from (1, 4) on
	}{
		{"a ramp", ramp,
			[5][]api.Span{row(w(0, 0)), row(w(0, 2)), row(w(2, 4)), row(w(4, 4)), nil},
			[5][]api.Span{row(w(0, 0)), row(w(0, 2)), row(w(2, 4)), row(w(4, 4)), nil},
			[5][]api.Span{row(w(0, 0)), row(w(0, 2)), row(w(2, 2)), nil, nil},
			[5][]api.Span{row(w(0, 0)), row(w(0, 0)), nil, nil, nil}},
		{"a steep one", steep,
			[5][]api.Span{row(s(0, 0)), row(s(0, 200)), row(s(200, 400)), row(s(400, 400)), nil},
			[5][]api.Span{row(s(0, 0)), row(s(0, 200)), row(s(200, 400)), row(s(400, 400)), nil},
			[5][]api.Span{row(s(0, 0)), row(s(0, 200)), row(s(200, 200)), nil, nil},
			[5][]api.Span{row(s(0, 0)), row(s(0, 0)), nil, nil, nil}},
		{"heights between whole ones", third,
			[5][]api.Span{row(w(-1, -1)), row(w(-1, 0)), row(w(-1, 0)), row(w(-1, 0)), row(w(0, 0))},
			[5][]api.Span{row(w(-1, -1)), row(w(-1, 0)), row(w(-1, 0)), row(w(-1, 0)), row(w(0, 0))},
			[5][]api.Span{row(w(-1, -1)), row(w(-1, -1)), nil, nil, nil},
			[5][]api.Span{}},
		{"a side across a column", folded,
			[5][]api.Span{row(s(0, 0)), row(s(0, 500)), row(s(500, 500)), nil, nil},
			[5][]api.Span{row(s(0, 0)), row(s(0, 500)), row(s(0, 500)), nil, nil},
			[5][]api.Span{nil, row(s(0, 0)), row(s(0, 0)), nil, nil},
			[5][]api.Span{}},
	} {
		want := slices.Concat(make([][]api.Span, 7), make([][]api.Span, 1), c.want[:], make([][]api.Span, 2), c.next[:], make([][]api.Span, 2), c.last[:], make([][]api.Span, 2), c.past[:], make([][]api.Span, 8))
		got, e := Box(world(16, 8), tris(c.t), 0, 0, 7, 6)
		if e != api.OK || !sameGrid(got, want) {
			t.Errorf("%s: Box = %v, %v; want %v", c.name, got, e, want)
		}
		for at, l := range want {
			checkColumn(t, world(16, 8), tris(c.t), at%7, at/7, l, api.OK)
		}
	}
}

// P9.1: a triangle that is walked by a hair, and one that isn't; and where it is a point over the column alone.
func TestJustSoSteep(t *testing.T) {
	for _, c := range []struct {
		rise, run int
		t         api.Tri
		walk      bool
	}{
		{0, 1, of(v(3, 5, 3), v(4, 5, 3), v(3, 5, 4)), true},
		{0, 1, of(v(3, 5, 3), v(32, 6, 3), v(3, 5, 4)), false},
		{1, 1, of(v(3, 0, 3), v(4, 1, 3), v(3, 0, 4)), true},
		{1, 1, of(v(3, 0, 3), v(4, 2, 3), v(3, 0, 4)), false},
		{99, 100, of(v(3, 0, 3), v(4, 1, 3), v(3, 0, 4)), false},
		{1, 1, of(v(3, 0, 3), v(4, 1, 3), v(3, 1, 4)), false},
		{3, 2, of(v(3, 0, 3), v(5, 3, 3), v(3, 0, 4)), true},
		{3, 2, of(v(3, 0, 3), v(4, 0, 3), v(3, -3, 5)), true},
		{2, 3, of(v(3, 0, 3), v(5, 3, 3), v(3, 0, 4)), false},
		{5, 1, of(v(3, 0, 3), v(4, 3, 3), v(3, 4, 4)), true},
		{5, 1, of(v(3, 0, 3), v(4, -3, 3), v(3, -4, 4)), true},
		{5, 1, of(v(3, 0, 3), v(4, 4, 3), v(3, 4, 4)), false},
		{100, 1, of(v(3, 0, 3), v(4, 100, 3), v(3, 0, 4)), true},
		{100, 1, of(v(3, 0, 3), v(4, 101, 3), v(3, 0, 4)), false},
	} {
		x := world(32, 8)
		x.Rise, x.Run = c.rise, c.run
		lo, hi, _, _ := clip.Over(c.t, 3, 3)
		checkColumn(t, x, tris(c.t), 3, 3, row(api.Span{Lo: lo, Hi: hi, Walk: c.walk}), api.OK)
		y := c.t.V[0].Y
		checkColumn(t, x, tris(c.t), 2, 2, row(api.Span{Lo: y, Hi: y, Walk: c.walk}), api.OK)
		if walks(x, c.t) != c.walk {
			t.Errorf("%v is walked by Rise %d, Run %d: %v", c.t, c.rise, c.run, !c.walk)
		}
	}
}

// P9.1, P9.2: ids are not looked at.
func TestAnyIds(t *testing.T) {
	c := world(16, 8)
	l := stoodAll(row(s(0, 1), w(1, 3), w(6, 6)), 4, 2)
	want := row(w(0, 3), w(6, 6))
	for _, id := range append([]int{-1, 0, 1, 2, 1 << 30, 1<<30 + 1}, extremes...) {
		for i := range len(l) + 1 {
			m := slices.Clone(l)
			for k := range m {
				if k == i || i == len(l) { // that one alone, and all of them alike
					m[k].Id = id
				}
			}
			checkColumn(t, c, m, 4, 2, want, api.OK)
			checkBox(t, c, m, 3, 1, 4, 4)
			if got := Touch(c, m, 4, 2, 1, 1); !slices.Equal(got, m) {
				t.Errorf("Touch of ids %d = %v", id, got)
			}
		}
	}
}

// P9.1, P9.2: just MaxTris triangles, and one more, unlike ones and one that is there so often.
func TestHowManyTriangles(t *testing.T) {
	c := world(32, 32)
	unlike := strewn(c, mostTris+1, 3, 0, 9, 7)
	alike := slices.Repeat(tris(of(v(0, 3, 0), v(9, 3, 0), v(0, 3, 9))), mostTris+1)
	for _, l := range [][]api.Tri{unlike, alike} {
		checkBox(t, c, l[:mostTris], 0, 0, 32, 32)
		for _, at := range [][2]int{{0, 0}, {17, 9}, {-1, 3}} {
			want, e := column(c, l[:mostTris], at[0], at[1])
			checkColumn(t, c, l[:mostTris], at[0], at[1], want, e)
		}
		checkRefused(t, c, l, api.ErrArg)
	}
	if got := Touch(c, alike[:mostTris], 0, 0, 1, 1); !slices.Equal(got, alike[:mostTris]) {
		t.Errorf("Touch tells of %d", len(got))
	}
	checkRefused(t, c, slices.Repeat(alike, 50), api.ErrArg)
}

// wrongTris may not be in a world of 16 by 8 columns.
func wrongTris() []api.Tri {
	l := tris(
		api.Tri{},
		of(v(5, 0, 5), v(5, 0, 5), v(5, 0, 5)),
		of(v(5, 0, 5), v(5, 1, 5), v(5, 2, 5)),
		of(v(5, 0, 5), v(5, 9, 5), v(6, 0, 6)),
		of(v(0, 0, 0), v(1, 9, 1), v(2, 0, 2)),
		of(v(4, 0, 0), v(4, 9, 1), v(4, 0, 5)),
		of(v(0, 0, 4), v(9, 9, 4), v(5, 0, 4)),
		of(v(0, -high, 8), v(16, high, 0), v(8, 0, 4)),
	)
	for corner := range 3 {
		for _, n := range append([]int{-1, 17, 32, 33}, extremes...) {
			l = append(l, put(corner, n, func(p *api.Vertex) *int { return &p.X }))
		}
		for _, n := range append([]int{-1, 9, 32, 33}, extremes...) {
			l = append(l, put(corner, n, func(p *api.Vertex) *int { return &p.Z }))
		}
		for _, n := range append([]int{-high - 1, high + 1}, extremes...) {
			l = append(l, put(corner, n, func(p *api.Vertex) *int { return &p.Y }))
		}
	}
	return l
}

// put is a triangle that may be, but for one number of one corner.
func put(corner, n int, field func(*api.Vertex) *int) api.Tri {
	x := of(v(1, 0, 1), v(2, 5, 1), v(1, 0, 3))
	*field(&x.V[corner]) = n
	return x
}

// P9.1, P9.2: one triangle that may not be is enough, wherever it stands in the list, and whatever column is asked for.
func TestWrongTriangles(t *testing.T) {
	c := world(16, 8)
	right := strewn(c, 4, 3, 0, 9, 11)
	for _, x := range wrongTris() {
		checkRefused(t, c, tris(x), api.ErrArg)
		for at := range len(right) + 1 {
			checkRefused(t, c, slices.Insert(slices.Clone(right), at, x), api.ErrArg)
		}
	}
	// One corner of the world further they may be.
	for _, x := range tris(of(v(16, high, 8), v(0, -high, 8), v(16, 0, 0)), of(v(0, -high, 0), v(16, high, 8), v(0, high, 8))) {
		checkBox(t, c, tris(x), -1, -1, 18, 10)
	}
	wide := c
	wide.W, wide.D = 17, 9
	for _, x := range tris(of(v(17, 0, 8), v(0, 0, 8), v(16, 0, 0)), of(v(0, 0, 9), v(16, 0, 8), v(0, 0, 8))) {
		checkRefused(t, c, tris(x), api.ErrArg)
		checkBox(t, wide, tris(x), -1, -1, 19, 11)
	}
}

// wrongConfigs are such as are one past a bound each, and far past it.
func wrongConfigs() []api.Config {
	var l []api.Config
	for _, a := range []struct {
		lo, hi int
		field  func(*api.Config) *int
	}{
		{0, 3, func(c *api.Config) *int { return &c.Clear }},
		{0, 8, func(c *api.Config) *int { return &c.Climb }},
		{2, 32, func(c *api.Config) *int { return &c.Height }},
		{0, 100, func(c *api.Config) *int { return &c.Rise }},
		{1, 100, func(c *api.Config) *int { return &c.Run }},
		{1, 32, func(c *api.Config) *int { return &c.W }},
		{1, 32, func(c *api.Config) *int { return &c.D }},
	} {
		for _, n := range append([]int{a.lo - 1, a.hi + 1}, extremes...) {
			c := world(16, 8)
			*a.field(&c) = n
			l = append(l, c)
		}
	}
	return append(l, api.Config{})
}

// R2: the config is told of first, then triangles and box, a full column last.
func TestErrorsInOrder(t *testing.T) {
	full := storeys(most+1, 0, 0, 6, 4)
	lists := [][]api.Tri{nil, strewn(world(16, 8), 3, 3, 0, 9, 5), full, tris(api.Tri{}), append(slices.Clone(full), api.Tri{}), slices.Repeat(full, 20)}
	for _, c := range wrongConfigs() {
		for _, l := range lists {
			checkRefused(t, c, l, api.ErrConfig)
			for _, b := range [][4]int{{-65, 0, 1, 1}, {0, 0, 65, 1}, {0, math.MaxInt, -1, math.MinInt}} {
				checkRefusedBox(t, c, l, b, api.ErrConfig)
			}
		}
	}
	c := world(16, 8)
	checkColumn(t, c, full, 0, 0, nil, api.ErrFull)
	checkRefused(t, c, append(slices.Clone(full), api.Tri{}), api.ErrArg)
	checkRefused(t, c, slices.Repeat(full, 20), api.ErrArg)
	for _, l := range lists[:4] {
		for _, b := range [][4]int{{-65, 0, 64, 1}, {0, 0, 65, 1}, {0, 0, 1, -1}, {0, 65, 1, 1}} {
			checkRefusedBox(t, c, l, b, api.ErrArg)
		}
	}
}

// P9.1: just MaxSpans spans, one more, and pieces that have more spans on the way than in the end.
func TestFullColumns(t *testing.T) {
	c := world(16, 8)
	var nine []api.Span
	for i := range most + 1 {
		nine = append(nine, api.Span{Lo: 4*i - 9, Hi: 4*i - 7, Walk: i%2 == 0})
	}
	beside := row(s(-40, -40), w(-50, -48))
	for at := range nine {
		eight := slices.Delete(slices.Clone(nine), at, at+1)
		checkColumn(t, c, stoodAll(eight, 4, 2), 4, 2, eight, api.OK)
		l := stoodAll(eight, 4, 2)
		slices.Reverse(l)
		checkColumn(t, c, l, 4, 2, eight, api.OK)
		checkColumn(t, c, slices.Insert(stoodAll(eight, 4, 2), at, stood(nine[at], 4, 2)), 4, 2, nil, api.ErrFull)
	}
	checkColumn(t, c, stoodAll(slices.Concat(nine, beside), 4, 2), 4, 2, nil, api.ErrFull)
	checkColumn(t, c, slices.Repeat(stoodAll(nine, 4, 2), 20), 4, 2, nil, api.ErrFull)
	// A bridge between each two of them, in each place of the list.
	for at := range most {
		bridge := s(nine[at].Hi, nine[at+1].Lo)
		want := slices.Replace(slices.Clone(nine), at, at+2, api.Span{Lo: nine[at].Lo, Hi: nine[at+1].Hi, Walk: nine[at+1].Walk})
		for place := range most + 2 {
			checkColumn(t, c, slices.Insert(stoodAll(nine, 4, 2), place, stood(bridge, 4, 2)), 4, 2, want, api.OK)
		}
		checkColumn(t, c, stoodAll(slices.Concat(nine, row(bridge), beside), 4, 2), 4, 2, nil, api.ErrFull)
	}
	// As many pieces as there may be triangles, all one in the end.
	var many []api.Span
	for i := range mostTris / 2 {
		many = append(many, w(4*i-200, 4*i-198))
	}
	for i := range mostTris / 2 {
		many = append(many, s(4*i-198, 4*i-196))
	}
	checkColumn(t, c, stoodAll(many, 4, 2), 4, 2, row(s(-200, 200)), api.OK)
}

// P9.1: columns in each corner of worlds of all kinds, one past each side, and as far off as an int reaches.
func TestColumnsOfTheWorld(t *testing.T) {
	for _, size := range [][2]int{{1, 1}, {1, 32}, {32, 1}, {7, 3}, {31, 32}, {32, 32}} {
		c := world(size[0], size[1])
		l := slab(0, 0, c.W, c.D, 4)
		for _, x := range append([]int{-64, -33, -32, -2, -1, 0, c.W / 2, c.W - 1, c.W, c.W + 1, 31, 32, 33, 63, 64}, extremes...) {
			for _, z := range append([]int{-64, -33, -32, -2, -1, 0, c.D / 2, c.D - 1, c.D, c.D + 1, 31, 32, 33, 63, 64}, extremes...) {
				var want []api.Span
				if x >= 0 && x < c.W && z >= 0 && z < c.D {
					want = row(w(4, 4))
				}
				checkColumn(t, c, l, x, z, want, api.OK)
				checkColumn(t, c, nil, x, z, nil, api.OK)
			}
		}
	}
}

// P9.1, P9.2: columns beyond the world are empty, even where they would be full if they were of it.
func TestNothingIsFullBeyondTheWorld(t *testing.T) {
	c := world(6, 4)
	// Storeys over the outermost column, held together by a steep one that has the world's corner alone in common with the columns beyond.
	for _, at := range []struct {
		x, z       int
		hold       api.Tri
		pastX, toZ int
	}{
		{5, 3, of(v(5, 0, 3), v(5, 40, 4), v(6, 0, 3)), 6, 3},
		{0, 0, of(v(1, 0, 1), v(1, 40, 0), v(0, 0, 1)), -1, 0},
	} {
		l := append(storeys(most+1, at.x, at.z, at.x+1, at.z+1), at.hold)
		checkColumn(t, c, l, at.x, at.z, row(w(0, 40)), api.OK)
		checkColumn(t, c, l, at.pastX, at.toZ, nil, api.OK)
		got, e := Box(c, l, at.pastX, at.toZ, 1, 1)
		if e != api.OK || len(got) != 1 || len(got[0]) != 0 {
			t.Errorf("Box beyond the world = %v, %v", got, e)
		}
		if got := Touch(c, l, at.pastX, at.toZ, 1, 1); len(got) != 0 {
			t.Errorf("Touch beyond the world = %v", got)
		}
	}
	wide := world(7, 4)
	checkColumn(t, wide, append(storeys(most+1, 5, 3, 6, 4), of(v(5, 0, 3), v(5, 40, 4), v(6, 0, 3))), 6, 3, nil, api.ErrFull)
}

// P9.2: boxes within the world, over its edge, beyond it, round it, of one column, of a row, of none.
func TestBoxes(t *testing.T) {
	for _, size := range [][2]int{{1, 1}, {6, 4}, {16, 8}, {9, 32}} {
		c := world(size[0], size[1])
		lists := [][]api.Tri{nil, slab(0, 0, c.W, c.D, 4), strewn(c, 12, 3, -5, 9, 21), strewn(c, 30, 2, -200, 200, 22)}
		for _, b := range [][4]int{
			{0, 0, c.W, c.D}, {0, 0, 1, 1}, {c.W - 1, c.D - 1, 1, 1}, {c.W / 2, c.D / 2, 1, 1}, {1, 1, 4, 2}, {2, 0, 3, 4},
			{-1, -1, c.W + 2, c.D + 2}, {-3, -4, c.W + 5, c.D + 9}, {-32, -32, 64, 64}, {-1, 0, 2, 2}, {0, -1, 2, 2}, {c.W - 2, c.D - 1, 5, 3}, {c.W - 1, -2, 2, 3},
			{-1, 0, 1, c.D}, {0, -1, c.W, 1}, {c.W, 0, 1, c.D}, {0, c.D, c.W, 1}, {-9, -9, 5, 5}, {c.W + 4, 0, 3, 3}, {0, c.D + 4, 3, 3}, {-64, -64, 64, 64}, {64, 64, 64, 64}, {-64, 0, 64, 3}, {64, -64, 1, 1},
			{0, 0, c.W, 1}, {0, 0, 1, c.D}, {-2, c.D / 2, 20, 1}, {c.W / 2, -2, 1, 20},
			{0, 0, 0, 0}, {0, 0, 5, 0}, {0, 0, 0, 5}, {1, 1, 64, 0}, {-64, 64, 0, 64},
		} {
			for _, l := range lists {
				checkBox(t, c, l, b[0], b[1], b[2], b[3])
			}
		}
	}
}

// P9.2: each number of a box at its bounds, one past them and as far as an int goes; Touch of such tells of none.
func TestBoxesThatMayBe(t *testing.T) {
	c := world(16, 8)
	l := strewn(c, 5, 4, 0, 9, 31)
	for _, b := range [][4]int{{-64, -64, 64, 64}, {64, 64, 0, 0}, {-64, 64, 64, 1}, {64, -64, 0, 64}, {0, 0, 64, 64}, {-32, -32, 64, 64}, {-63, -63, 63, 63}, {63, 63, 63, 63}} {
		checkBox(t, c, l, b[0], b[1], b[2], b[3])
	}
	for _, a := range []struct{ at, lo, hi int }{{0, -far, far}, {1, -far, far}, {2, 0, far}, {3, 0, far}} {
		for _, n := range append([]int{a.lo - 1, a.lo, a.lo + 1, -1, 0, a.hi - 1, a.hi, a.hi + 1}, extremes...) {
			for _, b := range [][4]int{{0, 0, 3, 3}, {-64, -64, 64, 64}, {0, 0, 0, 0}} {
				b[a.at] = n
				if n >= a.lo && n <= a.hi {
					checkBox(t, c, l, b[0], b[1], b[2], b[3])
					continue
				}
				checkRefusedBox(t, c, l, b, api.ErrArg)
				checkRefusedBox(t, c, nil, b, api.ErrArg)
			}
		}
	}
	for _, n := range extremes {
		checkRefusedBox(t, c, l, [4]int{n, n, n, n}, api.ErrArg)
		checkRefusedBox(t, c, l, [4]int{0, 0, n, -n}, api.ErrArg)
		checkRefusedBox(t, c, l, [4]int{n, n, 0, 0}, api.ErrArg)
	}
}

// pit has just one full column, 6, 3: in those round it steep ones, beside them, hold all together.
func pit() []api.Tri {
	l := storeys(most+1, 6, 3, 7, 4)
	for i := range 3 {
		l = append(l,
			of(v(5, 0, 2+i), v(5, 400, 3+i), v(4, 900, 2+i)),
			of(v(8, 0, 2+i), v(8, 400, 3+i), v(9, 900, 2+i)),
			of(v(5+i, 0, 2), v(6+i, 400, 2), v(5+i, 900, 1)),
			of(v(5+i, 0, 5), v(6+i, 400, 5), v(5+i, 900, 6)))
	}
	return l
}

// P9.2: boxes in which no column is full, one, the first, the last.
func TestBoxesWithOneFullColumn(t *testing.T) {
	c := world(16, 8)
	l := pit()
	for at := range 16 * 8 {
		want := api.OK
		if at == 3*16+6 {
			want = api.ErrFull
		}
		if _, e := Column(c, l, at%16, at/16); e != want {
			t.Errorf("Column(%d, %d): %v; want %v", at%16, at/16, e, want)
		}
	}
	for _, b := range []struct {
		name string
		at   [4]int
		want api.Errno
	}{
		{"it alone", [4]int{6, 3, 1, 1}, api.ErrFull}, {"first", [4]int{6, 3, 5, 3}, api.ErrFull}, {"last", [4]int{2, 1, 5, 3}, api.ErrFull},
		{"first of the last row", [4]int{6, 1, 4, 3}, api.ErrFull}, {"last of the first row", [4]int{3, 3, 4, 3}, api.ErrFull}, {"within", [4]int{5, 2, 3, 3}, api.ErrFull},
		{"in its row", [4]int{0, 3, 16, 1}, api.ErrFull}, {"in its row of columns", [4]int{6, 0, 1, 8}, api.ErrFull}, {"in the world", [4]int{0, 0, 16, 8}, api.ErrFull}, {"round the world", [4]int{-32, -32, 64, 64}, api.ErrFull},
		{"before it", [4]int{0, 0, 6, 8}, api.OK}, {"behind it", [4]int{7, 0, 9, 8}, api.OK}, {"above it", [4]int{0, 0, 16, 3}, api.OK}, {"below it", [4]int{0, 4, 16, 4}, api.OK},
		{"none of it", [4]int{6, 3, 0, 1}, api.OK}, {"beyond the world", [4]int{-9, -9, 8, 8}, api.OK},
	} {
		got, e := Box(c, l, b.at[0], b.at[1], b.at[2], b.at[3])
		if e != b.want || e != api.OK && got != nil {
			t.Errorf("%s: Box(%v) = %v, %v; want %v", b.name, b.at, got, e, b.want)
		}
		checkBox(t, c, l, b.at[0], b.at[1], b.at[2], b.at[3])
	}
}

// P9.2: boxes in which several columns are full, or all; Touch is told all the same.
func TestBoxesWithManyFullColumns(t *testing.T) {
	c := world(16, 8)
	two := append(pit(), storeys(most+1, 13, 6, 14, 7)...)
	for _, b := range [][4]int{{0, 0, 16, 8}, {6, 3, 8, 4}, {7, 4, 7, 3}, {0, 0, 7, 4}, {13, 6, 3, 2}} {
		if got, e := Box(c, two, b[0], b[1], b[2], b[3]); got != nil || e != api.ErrFull {
			t.Errorf("Box(%v) = %v, %v", b, got, e)
		}
		checkBox(t, c, two, b[0], b[1], b[2], b[3])
	}
	all := storeys(most+1, 0, 0, 16, 8)
	for _, at := range [][2]int{{0, 0}, {15, 7}, {15, 0}, {0, 7}, {8, 4}} {
		checkColumn(t, c, all, at[0], at[1], nil, api.ErrFull)
		checkBox(t, c, all, at[0], at[1], 1, 1)
	}
	if got := Touch(c, all, 0, 0, 16, 8); !slices.Equal(got, all) {
		t.Errorf("Touch of full columns = %v", got)
	}
	checkBox(t, c, all, 0, 0, 16, 8)
	checkBox(t, c, all, -5, -5, 5, 30)
	checkBox(t, c, all, -5, -5, 6, 30)
}

// P9.2: Touch tells of triangles in their order, one that is there twice twice; of such as are over one column alone, over none, and over columns beyond the world alone.
func TestTouchTable(t *testing.T) {
	c := world(16, 8)
	a := of(v(0, 0, 0), v(9, 0, 0), v(0, 0, 8))       // over many
	b := of(v(4, 9, 4), v(5, 9, 4), v(4, 9, 5))       // over nine, of which it fills one
	d := of(v(15, 0, 7), v(16, -900, 7), v(16, 0, 8)) // in the corner of the world
	same := a
	same.Id = 7
	all := tris(d, a, b, same, a)
	for _, x := range []struct {
		name string
		at   [4]int
		want []api.Tri
	}{
		{"the whole world", [4]int{0, 0, 16, 8}, all},
		{"round the world", [4]int{-20, -20, 64, 64}, all},
		{"the first column", [4]int{0, 0, 1, 1}, tris(a, same, a)},
		{"the one that it fills", [4]int{4, 4, 1, 1}, tris(a, b, same, a)},
		{"one that it has in a corner", [4]int{5, 3, 1, 1}, tris(a, b, same, a)},
		{"one that it has a point of", [4]int{3, 5, 1, 1}, tris(a, b, same, a)},
		{"just beyond it", [4]int{6, 4, 1, 1}, nil},
		{"one that it would share, were there no other one between", [4]int{5, 5, 3, 1}, nil},
		{"a box of which it is over one column alone", [4]int{5, 5, 11, 3}, tris(d)},
		{"the last column", [4]int{15, 7, 1, 1}, tris(d)},
		{"over its edge", [4]int{15, 7, 9, 9}, tris(d)},
		{"beside the world, where d is, too", [4]int{16, 7, 1, 1}, nil},
		{"beyond the world's corner", [4]int{16, 8, 5, 5}, nil},
		{"beyond the world's side", [4]int{0, 8, 16, 3}, nil},
		{"ahead of the world, where a is, too", [4]int{-1, -1, 1, 5}, nil},
		{"above the world, where a is, too", [4]int{-4, -1, 30, 1}, nil},
		{"no column", [4]int{4, 4, 0, 1}, nil},
		{"no row", [4]int{4, 4, 1, 0}, nil},
	} {
		if got := Touch(c, all, x.at[0], x.at[1], x.at[2], x.at[3]); !slices.Equal(got, x.want) {
			t.Errorf("%s: Touch(%v) = %v; want %v", x.name, x.at, got, x.want)
		}
		back := slices.Clone(all)
		slices.Reverse(back)
		want := slices.Clone(x.want)
		slices.Reverse(want)
		if got := Touch(c, back, x.at[0], x.at[1], x.at[2], x.at[3]); !slices.Equal(got, want) {
			t.Errorf("%s: Touch(%v) of the other way round = %v; want %v", x.name, x.at, got, want)
		}
	}
	if got := Touch(c, nil, 0, 0, 16, 8); len(got) != 0 {
		t.Errorf("Touch of none = %v", got)
	}
}

// P9.1, P9.2: worlds of one column and of the most columns there may be, with many triangles strewn over them.
func TestStrewnTriangles(t *testing.T) {
	for _, size := range [][2]int{{1, 1}, {2, 5}, {16, 8}, {32, 32}} {
		c := world(size[0], size[1])
		for i, x := range []struct{ n, wide, from, to int }{{3, 2, 0, 4}, {9, 1, -20, 20}, {40, 32, -9, 9}, {60, 3, -4, 4}, {120, 2, -100, 100}, {200, 4, -6, 12}} {
			l := strewn(c, x.n, x.wide, x.from, x.to, uint32(100+i))
			c.Rise, c.Run = 3*i%7, 1+i%3
			checkBox(t, c, l, -2, -1, min(c.W+5, far), min(c.D+3, far))
			for at := range c.W * c.D {
				want, e := column(c, l, at%c.W, at/c.W)
				checkColumn(t, c, l, at%c.W, at/c.W, want, e)
			}
		}
	}
}

// P9.3: neither the order of triangles matters, nor how often one is there.
func TestOrderAndTwice(t *testing.T) {
	c := world(6, 5)
	for seed := range uint32(12) {
		l := strewn(c, 5, 3, 0, 5, seed)
		want, wanted := columnsOf(c, l, -1, -1, 8, 7)
		orders(l, func(l []api.Tri) {
			if got, e := Box(c, l, -1, -1, 8, 7); e != wanted || !sameGrid(got, want) {
				t.Fatalf("Box(%v) = %v, %v; want %v, %v", l, got, e, want, wanted)
			}
		})
		for i, x := range l {
			for at := range len(l) + 1 {
				turned := x
				turned.V[0], turned.V[1] = x.V[1], x.V[0]
				for _, again := range tris(x, turned) {
					m := slices.Insert(slices.Clone(l), at, again)
					if got, e := Box(c, m, -1, -1, 8, 7); e != wanted || !sameGrid(got, want) {
						t.Fatalf("Box(%v) with the triangle %d twice = %v, %v; want %v, %v", m, i, got, e, want, wanted)
					}
				}
			}
		}
	}
}

// P9.3: of a column count the triangles that are over it alone; of a box, those that Touch tells of.
func TestOnlyWhatIsOverCounts(t *testing.T) {
	c := world(12, 10)
	for seed := range uint32(6) {
		l := strewn(c, 60, 3, -12, 12, 50+seed)
		some := 0
		for at := range c.W * c.D {
			x, z := at%c.W, at/c.W
			over := Touch(c, l, x, z, 1, 1)
			want, wanted := Column(c, l, x, z)
			checkColumn(t, c, over, x, z, want, wanted)
			others := slices.DeleteFunc(slices.Clone(l), func(t api.Tri) bool { return slices.Contains(over, t) })
			checkColumn(t, c, others, x, z, nil, api.OK)
			if len(over) > 0 && len(others) > 0 {
				some++
			}
		}
		if some == 0 {
			t.Error("each triangle is over each column")
		}
		for _, b := range [][4]int{{0, 0, 12, 10}, {3, 2, 4, 4}, {-2, -2, 5, 5}, {9, 7, 9, 9}} {
			want, wanted := Box(c, l, b[0], b[1], b[2], b[3])
			over := Touch(c, l, b[0], b[1], b[2], b[3])
			if got, e := Box(c, over, b[0], b[1], b[2], b[3]); e != wanted || !sameGrid(got, want) {
				t.Errorf("Box(%v) of what touches it = %v, %v; want %v, %v", b, got, e, want, wanted)
			}
		}
	}
}

// P9.2: a box's part is the box of that part, where neither is full.
func TestPartsOfBoxes(t *testing.T) {
	c := world(12, 10)
	l := strewn(c, 24, 3, -12, 12, 77)
	whole, e := Box(c, l, -2, -3, 17, 15)
	if e != api.OK {
		t.Fatal(e)
	}
	for z := -3; z < 12; z++ {
		for x := -2; x < 15; x++ {
			for _, size := range [][2]int{{1, 1}, {2, 1}, {1, 3}, {5, 4}} {
				w, d := min(size[0], 15-x), min(size[1], 12-z)
				var want [][]api.Span
				for r := range d {
					from := (z+3+r)*17 + x + 2
					want = append(want, whole[from:from+w]...)
				}
				if got, e := Box(c, l, x, z, w, d); e != api.OK || !sameGrid(got, want) {
					t.Fatalf("Box(%d, %d, %d, %d) = %v, %v; want %v", x, z, w, d, got, e, want)
				}
			}
		}
	}
}

// R4: what is handed in stays, its spare room, too.
func TestHandedInStays(t *testing.T) {
	c := world(12, 10)
	room := strewn(c, 30, 3, -12, 12, 9)
	room[3].Id, room[4].Id, room[25].V[1].X = 0, -5, 99
	l := room[2:20]
	kept := slices.Clone(room)
	asked := func(name string, call func()) {
		t.Helper()
		call()
		if !slices.Equal(room, kept) {
			t.Fatalf("%s has left %v; there was %v", name, room, kept)
		}
	}
	asked("Column", func() { Column(c, l, 3, 3) })
	asked("Box", func() { Box(c, l, -2, -2, 20, 20) })
	asked("Touch", func() { Touch(c, l, 0, 0, 5, 5) })
	l = room[2:]
	asked("Column of a wrong one", func() { Column(c, l, 3, 3) })
	asked("Box of a wrong one", func() { Box(c, l, -2, -2, 20, 20) })
	asked("Touch of a wrong one", func() { Touch(c, l, 0, 0, 5, 5) })
}

// spoil writes over a list, and over the spare room behind it.
func spoil[T any](l []T, with T) {
	l = l[:cap(l)]
	for i := range l {
		l[i] = with
	}
}

// R3, R4: answers share no memory, with each other, with what was handed in, or within one answer.
func TestAnswersAreNewMemory(t *testing.T) {
	c := world(12, 10)
	l := append(strewn(c, 24, 3, -12, 12, 77), slab(3, 3, 6, 6, 20)...)
	kept := slices.Clone(l)
	wantBox, _ := columnsOf(c, l, -2, -3, 17, 15)
	wantTouch := touching(c, l, 2, 2, 4, 4)
	for at := range wantBox {
		box, e := Box(c, l, -2, -3, 17, 15)
		if e != api.OK || !sameGrid(box, wantBox) {
			t.Fatalf("Box behind %d spoilt columns = %v, %v", at, box, e)
		}
		spoil(box[at], s(999, 999))
		for other, p := range box {
			if other != at && !slices.Equal(p, wantBox[other]) {
				t.Fatalf("column %d became %v by what was written over column %d", other, p, at)
			}
		}
		spoil(box, row(s(999, 999)))
	}
	want, _ := column(c, l, 4, 4)
	for range 3 {
		one, e := Column(c, l, 4, 4)
		two, _ := Column(c, l, 4, 4)
		spoil(one, s(999, 999))
		if e != api.OK || len(want) == 0 || !slices.Equal(two, want) {
			t.Fatalf("Column = %v, %v; want %v", two, e, want)
		}
		first, second := Touch(c, l, 2, 2, 4, 4), Touch(c, l, 2, 2, 4, 4)
		spoil(first, api.Tri{})
		if len(wantTouch) == 0 || !slices.Equal(second, wantTouch) {
			t.Fatalf("Touch = %v; want %v", second, wantTouch)
		}
	}
	all := Touch(c, l, 0, 0, 12, 10)
	spoil(all, api.Tri{})
	if !slices.Equal(l, kept) {
		t.Error("what was handed in was written over with an answer")
	}
}
