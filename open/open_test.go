package open

import (
	"iter"
	"math"
	"slices"
	"testing"

	"footpath/api"
	"footpath/raster"
)

const (
	high     = 2048    // the greatest height
	most     = 8       // spans of a column, and floors
	sky      = 1 << 20 // where the room above the topmost span ends
	mostArea = 7
	far      = 64 // where grids may begin, and how wide they may be
	mostTris = 200
)

// extremes are such as run over if one adds to them, doubles them, turns them round, or keeps half of their bits.
var extremes = []int{math.MinInt, math.MinInt + 1, math.MinInt / 2, -1 << 40, -1<<32 - 1, -1 << 32, 1 << 32, 1<<32 + 1, 1 << 40, 1 << 62, math.MaxInt - 1, math.MaxInt}

func s(lo, hi int) api.Span { return api.Span{Lo: lo, Hi: hi} }

// w is a span that may be walked.
func w(lo, hi int) api.Span { return api.Span{Lo: lo, Hi: hi, Walk: true} }

func row(l ...api.Span) []api.Span { return l }

// f is a floor as one comes of a span.
func f(y, top int) api.Floor { return api.Floor{Y: y, Top: top, Area: 1} }

func fa(y, top, area int) api.Floor { return api.Floor{Y: y, Top: top, Area: area} }

func col(l ...api.Floor) []api.Floor { return l }

// tall is a config of that Height.
func tall(height int) api.Config {
	return api.Config{Height: height, Run: 1, W: 8, D: 8}
}

// spaced is n walked spans from a height on, each of two heights, with a gap of so many between the Hi of one and the next one's Lo.
func spaced(n, from, gap int) []api.Span {
	var l []api.Span
	for range n {
		l = append(l, w(from, from+1))
		from += 1 + gap
	}
	return l
}

// pieces are all spans from a height to another one, such as may not be, too.
func pieces(from, to int) []api.Span {
	var l []api.Span
	for lo := from; lo <= to; lo++ {
		for hi := lo - 1; hi <= to; hi++ {
			l = append(l, s(lo, hi), w(lo, hi))
		}
	}
	return l
}

// lists visits all lists of up to n of some things, in all orders, those of one thing twice among them.
func lists[T any](n int, of []T, visit func([]T)) {
	var grow func(l []T)
	grow = func(l []T) {
		visit(l)
		if len(l) == n {
			return
		}
		for _, p := range of {
			grow(append(l, p))
		}
	}
	grow(nil)
}

// mayBe tells by each two of a row, not by neighbours alone, whether it may be.
func mayBe(l []api.Span) bool {
	for i, p := range l {
		if p.Lo > p.Hi || p.Lo < -high || p.Hi > high {
			return false
		}
		for _, q := range l[:i] {
			if q.Hi >= p.Lo {
				return false
			}
		}
	}
	return len(l) <= most
}

// climbed are the floors of spans that may be, told by going up from each walked one height by height.
func climbed(height int, l []api.Span) []api.Floor {
	var floors []api.Floor
	for _, p := range l {
		if !p.Walk {
			continue
		}
		y := p.Hi + 1
		for y <= high && !slices.ContainsFunc(l, func(q api.Span) bool { return q.Lo <= y && y <= q.Hi }) {
			y++
		}
		free := y - p.Hi
		if y > high {
			y, free = sky, height
		}
		if free >= height {
			floors = append(floors, f(p.Hi, y))
		}
	}
	return floors
}

// floorsHold has Floors give what is told height by height, of a config that may be and any list, which stays as it is.
func floorsHold(t *testing.T, height int, l []api.Span) {
	t.Helper()
	own := slices.Clone(l)
	got, e := Floors(tall(height), own)
	var want []api.Floor
	wanted := api.ErrArg
	if mayBe(l) {
		want, wanted = climbed(height, l), api.OK
	}
	if e != wanted || !slices.Equal(got, want) || len(want) == 0 && got != nil {
		t.Fatalf("Floors(Height %d, %v) = %v, %v; want %v, %v", height, l, got, e, want, wanted)
	}
	if !slices.Equal(own, l) {
		t.Fatalf("of %v, %v is left", l, own)
	}
}

// P11.1: the chapter's examples and the edges that it names.
func TestFloorsTable(t *testing.T) {
	for _, x := range []struct {
		name   string
		height int
		l      []api.Span
		want   []api.Floor
	}{
		{"the chapter's first", 3, row(w(0, 1), w(3, 4)), col(f(4, sky))},
		{"the chapter's second", 3, row(w(0, 1), s(4, 5)), col(f(1, 4))},
		{"none", 3, nil, nil},
		{"nothing", 3, row(), nil},
		{"one that is walked", 3, row(w(0, 1)), col(f(1, sky))},
		{"one that is not", 3, row(s(0, 1)), nil},
		{"one of height 0", 1, row(w(0, 0)), col(f(0, sky))},
		{"one at the least height", 32, row(w(-high, -high)), col(f(-high, sky))},
		{"one at the greatest height", 32, row(w(high, high)), col(f(high, sky))},
		{"one of all heights", 32, row(w(-high, high)), col(f(high, sky))},
		{"the least and the greatest height", 32, row(w(-high, -high), w(high, high)), col(f(-high, high), f(high, sky))},
		{"two, both walked, with room", 3, row(w(0, 1), w(9, 10)), col(f(1, 9), f(10, sky))},
		{"two, the first walked", 3, row(w(0, 1), s(9, 10)), col(f(1, 9))},
		{"two, the second walked", 3, row(s(0, 1), w(9, 10)), col(f(10, sky))},
		{"two, none walked", 3, row(s(0, 1), s(9, 10)), nil},
		{"just Height apart", 5, row(w(-3, 0), w(5, 9)), col(f(0, 5), f(9, sky))},
		{"one less", 5, row(w(-3, 0), w(4, 9)), col(f(9, sky))},
		{"one more", 5, row(w(-3, 0), w(6, 9)), col(f(0, 6), f(9, sky))},
		{"just Height apart below 0", 5, row(w(-9, -8), w(-3, -2)), col(f(-8, -3), f(-2, sky))},
		{"one less below 0", 5, row(w(-9, -7), w(-3, -2)), col(f(-2, sky))},
		{"just Height apart round 0", 5, row(w(-9, -2), w(3, 3)), col(f(-2, 3), f(3, sky))},
		{"the room up to height 0", 5, row(w(-9, -5), s(0, 3)), col(f(-5, 0))},
		{"the least Height, one height on", 1, row(w(0, 1), w(2, 3)), col(f(1, 2), f(3, sky))},
		{"Height 2, one height on", 2, row(w(0, 1), w(2, 3)), col(f(3, sky))},
		{"the greatest Height", 32, row(w(0, 1), s(33, 34)), col(f(1, 33))},
		{"the greatest Height, one less", 32, row(w(0, 1), s(32, 34)), nil},
		{"room counts from Hi, not from Lo", 9, row(w(0, 8), s(10, 20)), nil},
		{"room ends at Lo, not at Hi", 3, row(w(0, 1), s(2, 99)), nil},
		{"the walked next one ends it likewise", 3, row(w(0, 1), w(2, 99)), col(f(99, sky))},
		{"room, and it may not be walked", 3, row(s(0, 1), w(9, 9), s(20, 21)), col(f(9, 20))},
		{"walked without room, room without being walked", 3, row(w(0, 1), s(2, 3), w(9, 10)), col(f(10, sky))},
		{"some between have none", 3, row(w(0, 1), w(9, 10), w(12, 13), w(20, 20)), col(f(1, 9), f(13, 20), f(20, sky))},
		{"none but the topmost", 4, spaced(most, 0, 3), col(f(22+7, sky))},
		{"none at all", 4, append(spaced(most-1, 0, 3), s(27, 90)), nil},
		{"just MaxSpans", 3, spaced(most, 0, 3), col(f(1, 4), f(5, 8), f(9, 12), f(13, 16), f(17, 20), f(21, 24), f(25, 28), f(29, sky))},
		{"just MaxSpans, the first walked", 3, append(row(w(-9, -8)), unwalked(spaced(most-1, 0, 3))...), col(f(-8, 0))},
		{"just MaxSpans, the last walked", 3, append(unwalked(spaced(most-1, 0, 3)), w(900, 901)), col(f(901, sky))},
	} {
		got, e := Floors(tall(x.height), x.l)
		if e != api.OK || !slices.Equal(got, x.want) {
			t.Errorf("%s: Floors(%v) = %v, %v; want %v", x.name, x.l, got, e, x.want)
		}
		floorsHold(t, x.height, x.l)
	}
}

func unwalked(l []api.Span) []api.Span {
	l = slices.Clone(l)
	for i := range l {
		l[i].Walk = false
	}
	return l
}

// P11.1: all lists of few spans among few heights, rising or not, meeting or not.
func TestFloorsOfAllShortLists(t *testing.T) {
	lists(3, pieces(-2, 2), func(l []api.Span) { floorsHold(t, 1+len(l)%2, l) })
	for height := 1; height <= 5; height++ {
		lists(2, pieces(-2, 3), func(l []api.Span) { floorsHold(t, height, l) })
	}
}

// P11.1: rows of up to MaxSpans of which each choice is walked, with room above each other choice.
func TestFloorsWalkedInAllWays(t *testing.T) {
	for n := range most + 1 {
		for walked := range 1 << n {
			for _, roomy := range []int{0, 1<<n - 1, walked, ^walked, walked >> 1, 0x5a, walked * 37} {
				var l []api.Span
				y := -20
				for k := range n {
					l = append(l, api.Span{Lo: y, Hi: y + k%3, Walk: walked>>k&1 == 1})
					y += k%3 + 4 // one below Height
					y += roomy >> k & 1
				}
				floorsHold(t, 5, l)
			}
		}
	}
}

// P11.1: each Height that a config may have, with gaps one below, at and one above it, wherever they stand.
func TestFloorsAtEachHeight(t *testing.T) {
	for height := 1; height <= 32; height++ {
		for _, gap := range []int{height - 1, height, height + 1} {
			if gap == 0 {
				continue
			}
			for _, from := range []int{-high, -gap - 1, -1, 0, 7, high - gap - 1} {
				l := row(w(from, from+1), s(from+1+gap, from+1+gap))
				var want []api.Floor
				if gap >= height {
					want = col(f(from+1, from+1+gap))
				}
				if got, e := Floors(tall(height), l); e != api.OK || !slices.Equal(got, want) {
					t.Errorf("Floors(Height %d, %v) = %v, %v; want %v", height, l, got, e, want)
				}
				floorsHold(t, height, l)
			}
			floorsHold(t, height, spaced(most, -50, gap))
		}
	}
}

// P11.1: the room above the topmost span ends at Sky, wherever it stands.
func TestFloorsTopmostAtEachHeight(t *testing.T) {
	for y := -high; y <= high; y++ {
		for _, l := range [][]api.Span{row(w(y, y)), row(w(-high, y))} {
			if got, e := Floors(tall(32), l); e != api.OK || !slices.Equal(got, col(f(y, sky))) {
				t.Fatalf("Floors(%v) = %v, %v", l, got, e)
			}
		}
	}
}

func floorsRefused(t *testing.T, c api.Config, l []api.Span, want api.Errno) {
	t.Helper()
	own := slices.Clone(l)
	if got, e := Floors(c, own); got != nil || e != want {
		t.Errorf("Floors(%v, %v) = %v, %v; want %v", c, l, got, e, want)
	}
	if !slices.Equal(own, l) {
		t.Errorf("of %v, %v is left", l, own)
	}
}

// wrongSpans have Lo above Hi, or are not from -MaxHeight to MaxHeight, or both.
func wrongSpans() []api.Span {
	l := row(s(1, 0), w(0, -1), s(high, -high), w(-high-1, 0), s(-high-1, high), w(-high-1, -high-1), s(0, high+1), w(high+1, high+1), s(-high, high+1), w(-high-1, high+1))
	for _, n := range extremes {
		l = append(l, w(n, n), w(n, 0), s(0, n), w(n, high), w(-high, n))
	}
	return append(l, w(math.MinInt, math.MaxInt), w(math.MaxInt, math.MinInt))
}

// P11.1: one wrong span is enough, the first, the last or one between; so is one that is not above the one ahead.
func TestFloorsOfWrongSpans(t *testing.T) {
	for _, p := range wrongSpans() {
		for _, beside := range [][]api.Span{nil, row(w(0, 0)), row(w(-9, -8), w(30, 31)), spaced(most-1, -40, 9)} {
			for at := range len(beside) + 1 {
				floorsRefused(t, tall(1), slices.Insert(slices.Clone(beside), at, p), api.ErrArg)
			}
		}
	}
	for at := range most - 1 {
		for _, spoil := range []func(l []api.Span){
			func(l []api.Span) { l[at+1].Lo = l[at].Hi }, // at the Hi ahead
			func(l []api.Span) { l[at].Hi = l[at+1].Lo },
			func(l []api.Span) { l[at].Hi = l[at].Lo - 1 },
			func(l []api.Span) { l[at], l[at+1] = l[at+1], l[at] },
			func(l []api.Span) { l[at] = l[at+1] },
			func(l []api.Span) { l[0], l[at+1] = l[at+1], l[0] },
		} {
			l := spaced(most, -40, 9)
			spoil(l)
			floorsRefused(t, tall(1), l, api.ErrArg)
			floorsRefused(t, tall(1), unwalked(l), api.ErrArg)
		}
	}
}

// P11.1: one span more than MaxSpans is too much, and so are many, whatever stands there.
func TestFloorsOfTooManySpans(t *testing.T) {
	for _, n := range []int{most + 1, most + 2, 2 * most, 500, 1 << 16} {
		floorsRefused(t, tall(3), spaced(n, -high, 3), api.ErrArg)
		floorsRefused(t, tall(3), slices.Repeat(row(w(0, 0)), n), api.ErrArg)
		floorsRefused(t, tall(3), make([]api.Span, n), api.ErrArg)
	}
	floorsHold(t, 3, spaced(most, -high, 3))
	floorsHold(t, 3, spaced(most+1, -high, 3)[:most])
}

// goodConfigs may be, at each bound.
func goodConfigs() []api.Config {
	return []api.Config{
		{Clear: 0, Climb: 0, Height: 1, Rise: 0, Run: 1, W: 1, D: 1},
		{Clear: 3, Climb: 8, Height: 32, Rise: 100, Run: 100, W: 32, D: 32},
		{Clear: 3, Climb: 8, Height: 9, Rise: 100, Run: 1, W: 32, D: 1},
		{Clear: 1, Climb: 0, Height: 32, Rise: 0, Run: 100, W: 1, D: 32},
		{Clear: 2, Climb: 2, Height: 3, Rise: 7, Run: 9, W: 8, D: 20},
	}
}

// wrongConfigs have one field past its bounds, or nothing that may be.
func wrongConfigs() []api.Config {
	l := []api.Config{{}, {Height: 3}, {Height: -1, Climb: -3}}
	for _, good := range goodConfigs() {
		for i, bad := range [][]int{{-1, 4}, {-1, 9, good.Height}, {33, good.Climb, 0, -1}, {-1, 101}, {0, -1, 101}, {0, -1, 33}, {0, -1, 33}} {
			for _, n := range slices.Concat(bad, extremes) {
				c := good
				*[]*int{&c.Clear, &c.Climb, &c.Height, &c.Rise, &c.Run, &c.W, &c.D}[i] = n
				l = append(l, c)
			}
		}
	}
	return l
}

// P11.1: a config that may not be is told of ahead of spans that may not be.
func TestFloorsConfigs(t *testing.T) {
	good := [][]api.Span{nil, row(), row(w(0, 1)), row(w(0, 1), w(900, 901)), spaced(most, -900, 40)}
	bad := [][]api.Span{row(w(1, 0)), row(w(0, 1), w(1, 2)), row(w(0, high+1)), spaced(most+1, 0, 40), row(w(math.MinInt, math.MaxInt))}
	for _, c := range wrongConfigs() {
		for _, l := range slices.Concat(good, bad) {
			floorsRefused(t, c, l, api.ErrConfig)
		}
	}
	for _, c := range goodConfigs() {
		for _, l := range good {
			if got, e := Floors(c, l); e != api.OK || !slices.Equal(got, climbed(c.Height, l)) || len(got) != len(l) {
				t.Errorf("Floors(%v, %v) = %v, %v", c, l, got, e)
			}
		}
		for _, l := range bad {
			floorsRefused(t, c, l, api.ErrArg)
		}
	}
}

// R3, R4: what is handed in stays, its spare room, too, which counts for nothing; answers are in memory of their own.
func TestFloorsMemory(t *testing.T) {
	c := tall(3)
	for _, l := range [][]api.Span{spaced(most, 0, 3), row(w(0, 0), s(4, 4), w(9, 9)), row(w(0, 1)), row(w(1, 0)), row()} {
		all := append(slices.Clone(l), w(99, 99), s(98, 98), w(math.MinInt, 97))
		own := slices.Clone(all)
		one, e := Floors(c, own[:len(l)])
		two, _ := Floors(c, own[:len(l)])
		Floors(api.Config{}, own[:len(l)])
		if !slices.Equal(own, all) {
			t.Errorf("of %v, %v is left", all, own)
		}
		if e == api.OK && !slices.Equal(one, climbed(3, l)) {
			t.Errorf("Floors(%v) = %v", l, one)
		}
		kept := slices.Clone(two)
		blot(one, fa(-77, 77, 7))
		blot(own, s(-77, 77))
		if !slices.Equal(two, kept) {
			t.Errorf("of %v: the answer %v has become %v", l, kept, two)
		}
	}
}

// blot writes over a list, and over the spare room behind it.
func blot[T any](l []T, with T) {
	for i := range l[:cap(l)] {
		l[:cap(l)][i] = with
	}
}

// world lets steep triangles be walked: up to 100 heights a column.
func world(w, d int) api.Config {
	return api.Config{Clear: 1, Climb: 1, Height: 3, Rise: 100, Run: 1, W: w, D: d}
}

func v(x, y, z int) api.Vertex { return api.Vertex{X: x, Y: y, Z: z} }

func of(a, b, c api.Vertex) api.Tri { return api.Tri{Id: 1, V: [3]api.Vertex{a, b, c}} }

func tris(l ...api.Tri) []api.Tri { return l }

// slab is a flat square of two triangles.
func slab(x0, z0, x1, z1, y int) []api.Tri {
	return tris(of(v(x0, y, z0), v(x1, y, z0), v(x0, y, z1)), of(v(x1, y, z0), v(x1, y, z1), v(x0, y, z1)))
}

// storeys are n flat squares, so many heights apart.
func storeys(n, apart, x0, z0, x1, z1 int) []api.Tri {
	var l []api.Tri
	for i := range n {
		l = append(l, slab(x0, z0, x1, z1, apart*i)...)
	}
	return l
}

// numbers are told by a rule: the same in each run, and without a pattern that a world has.
type numbers struct{ state uint32 }

func (n *numbers) below(bound int) int {
	n.state = n.state*1664525 + 1013904223
	return int(n.state>>8) % bound
}

// strewn are n triangles of a world, some flat, some steep, at most so wide, between two heights.
func strewn(c api.Config, n, wide, from, to int, seed uint32) []api.Tri {
	rule := &numbers{seed}
	var l []api.Tri
	for len(l) < n {
		x, z, y := rule.below(c.W+1), rule.below(c.D+1), from+rule.below(to-from+1)
		corner := func() api.Vertex {
			p := v(min(x+rule.below(wide+1), c.W), y, min(z+rule.below(wide+1), c.D))
			if len(l)%3 != 0 {
				p.Y = min(y+rule.below(8), to)
			}
			return p
		}
		p, q, r := corner(), corner(), corner()
		if (p.X-r.X)*(q.Z-r.Z) != (q.X-r.X)*(p.Z-r.Z) {
			l = append(l, of(p, q, r))
		}
	}
	return l
}

// buildHolds has Build give, column by column, the floors of what package raster tells of that column alone; or, if one is full, its error.
func buildHolds(t *testing.T, c api.Config, l []api.Tri, x, z, w, d int) api.Grid {
	t.Helper()
	own := slices.Clone(l)
	got, e := Build(c, own, x, z, w, d)
	if !slices.Equal(own, l) {
		t.Fatalf("of %v, %v is left", l, own)
	}
	want := api.Grid{X: x, Z: z, W: w, D: d}
	for cz := z; cz < z+d; cz++ {
		for cx := x; cx < x+w; cx++ {
			spans, wanted := raster.Column(c, l, cx, cz)
			if wanted != api.OK {
				noGrid(t, c, l, [4]int{x, z, w, d}, wanted)
				return api.Grid{}
			}
			want.Floors = append(want.Floors, climbed(c.Height, spans))
		}
	}
	if e != api.OK || !alike(got, want) {
		t.Fatalf("Build(%v, %v, %d, %d, %d, %d) = %v, %v; want %v", c, l, x, z, w, d, got, e, want)
	}
	return got
}

// noGrid asks Build for an error, and for nothing beside it.
func noGrid(t *testing.T, c api.Config, l []api.Tri, b [4]int, want api.Errno) {
	t.Helper()
	g, e := Build(c, l, b[0], b[1], b[2], b[3])
	if e != want || g.X != 0 || g.Z != 0 || g.W != 0 || g.D != 0 || g.Floors != nil {
		t.Errorf("Build(%v, %v, %v) = %v, %v; want %v", c, l, b, g, e, want)
	}
}

// alike is whether two grids are the same, told floor by floor.
func alike(a, b api.Grid) bool {
	if [4]int{a.X, a.Z, a.W, a.D} != [4]int{b.X, b.Z, b.W, b.D} || len(a.Floors) != len(b.Floors) {
		return false
	}
	for i := range a.Floors {
		if len(a.Floors[i]) != len(b.Floors[i]) {
			return false
		}
		for k := range a.Floors[i] {
			if a.Floors[i][k] != b.Floors[i][k] {
				return false
			}
		}
	}
	return true
}

// P11.1: grids of few triangles, column by column.
func TestBuildTable(t *testing.T) {
	c := world(16, 8)
	ground := slab(2, 2, 5, 5, 0) // over the columns from 1, 1 to 5, 5
	ramp := of(v(2, 0, 2), v(5, 9, 2), v(2, 0, 5))
	steep := of(v(2, 0, 2), v(4, 900, 2), v(2, 0, 4))
	under := func(gap int) []api.Tri { return slices.Concat(ground, slab(3, 3, 4, 4, gap)) }
	none, low := []api.Floor(nil), col(f(0, sky))
	for _, x := range []struct {
		name string
		l    []api.Tri
		b    [4]int
		want [][]api.Floor
	}{
		{"no triangle", nil, [4]int{0, 0, 2, 2}, [][]api.Floor{none, none, none, none}},
		{"no triangle, no column", nil, [4]int{3, 4, 0, 7}, nil},
		{"a flat one, no row", ground, [4]int{3, 4, 7, 0}, nil},
		{"no column and no row", ground, [4]int{-3, 9, 0, 0}, nil},
		{"a flat one, one column", ground, [4]int{3, 3, 1, 1}, [][]api.Floor{low}},
		{"a flat one, its last column", ground, [4]int{5, 5, 1, 1}, [][]api.Floor{low}},
		{"a flat one, the column beyond it", ground, [4]int{6, 5, 1, 1}, [][]api.Floor{none}},
		{"a flat one, one row", ground, [4]int{0, 2, 8, 1}, [][]api.Floor{none, low, low, low, low, low, none, none}},
		{"a flat one, one column of rows", ground, [4]int{1, 0, 1, 8}, [][]api.Floor{none, low, low, low, low, low, none, none}},
		{"a flat one, its corner", ground, [4]int{5, 4, 2, 3}, [][]api.Floor{low, none, low, none, none, none}},
		{"a ramp", tris(ramp), [4]int{1, 1, 6, 2}, [][]api.Floor{
			low, col(f(3, sky)), col(f(6, sky)), col(f(9, sky)), col(f(9, sky)), none,
			low, col(f(3, sky)), col(f(6, sky)), col(f(9, sky)), col(f(9, sky)), none}},
		{"a steep one", tris(steep), [4]int{1, 1, 6, 2}, make([][]api.Floor, 12)},
		{"a ramp above a flat one", slices.Concat(ground, tris(of(v(2, 4, 2), v(5, 13, 2), v(2, 4, 5)))), [4]int{1, 2, 5, 1}, [][]api.Floor{
			col(f(0, 4), f(4, sky)), col(f(0, 4), f(7, sky)), col(f(0, 7), f(10, sky)), col(f(0, 10), f(13, sky)), col(f(0, 13), f(13, sky))}},
		{"a ramp up from a flat one", slices.Concat(ground, tris(ramp)), [4]int{1, 2, 5, 1}, [][]api.Floor{
			low, col(f(3, sky)), col(f(0, 3), f(6, sky)), col(f(0, 6), f(9, sky)), col(f(0, 9), f(9, sky))}},
		{"a steep one above a flat one", slices.Concat(ground, tris(of(v(3, 4, 3), v(4, 900, 3), v(3, 4, 4)))), [4]int{1, 3, 5, 1}, [][]api.Floor{
			low, col(f(0, 4)), col(f(0, 4)), col(f(0, 900)), low}},
		{"a storey just Height above", under(3), [4]int{1, 3, 5, 1}, [][]api.Floor{low, col(f(0, 3), f(3, sky)), col(f(0, 3), f(3, sky)), col(f(0, 3), f(3, sky)), low}},
		{"a storey one less above", under(2), [4]int{1, 3, 5, 1}, [][]api.Floor{low, col(f(2, sky)), col(f(2, sky)), col(f(2, sky)), low}},
		{"a storey one more above", under(4), [4]int{1, 3, 5, 1}, [][]api.Floor{low, col(f(0, 4), f(4, sky)), col(f(0, 4), f(4, sky)), col(f(0, 4), f(4, sky)), low}},
		{"a storey one height above", under(1), [4]int{2, 3, 1, 1}, [][]api.Floor{col(f(1, sky))}},
		{"a storey on the ground", under(0), [4]int{2, 3, 1, 1}, [][]api.Floor{low}},
		{"over the world's edge", slab(14, 6, 16, 8, -5), [4]int{14, 7, 4, 3}, [][]api.Floor{
			col(f(-5, sky)), col(f(-5, sky)), none, none, none, none, none, none, none, none, none, none}},
		{"over the world's first edge", slab(0, 0, 1, 1, 5), [4]int{-1, -1, 3, 3}, [][]api.Floor{
			none, none, none, none, col(f(5, sky)), col(f(5, sky)), none, col(f(5, sky)), col(f(5, sky))}},
		{"wholly beyond the world", slab(0, 0, 16, 8, 5), [4]int{16, 2, 2, 2}, [][]api.Floor{none, none, none, none}},
		{"wholly ahead of the world", slab(0, 0, 16, 8, 5), [4]int{2, -2, 2, 2}, [][]api.Floor{none, none, none, none}},
		{"the least height and the greatest", slices.Concat(slab(0, 0, 1, 1, -high), slab(0, 0, 1, 1, high)), [4]int{0, 0, 1, 1}, [][]api.Floor{col(f(-high, high), f(high, sky))}},
		{"just MaxSpans", storeys(most, 3, 0, 0, 1, 1), [4]int{1, 1, 1, 1}, [][]api.Floor{col(f(0, 3), f(3, 6), f(6, 9), f(9, 12), f(12, 15), f(15, 18), f(18, 21), f(21, sky))}},
	} {
		want := api.Grid{X: x.b[0], Z: x.b[1], W: x.b[2], D: x.b[3], Floors: x.want}
		got, e := Build(c, x.l, x.b[0], x.b[1], x.b[2], x.b[3])
		if e != api.OK || !alike(got, want) {
			t.Errorf("%s: Build(%v) = %v, %v; want %v", x.name, x.b, got, e, want)
		}
		buildHolds(t, c, x.l, x.b[0], x.b[1], x.b[2], x.b[3])
	}
}

// P11.1: two storeys at all gaps, in each Height that a config may have.
func TestBuildAtEachHeight(t *testing.T) {
	for height := 1; height <= 32; height++ {
		c := tall(height)
		for _, gap := range []int{height - 1, height, height + 1} {
			want := col(f(-7, gap-7), f(gap-7, sky))
			if gap < height {
				want = want[1:]
			}
			g, e := Build(c, slices.Concat(slab(0, 0, 4, 4, -7), slab(0, 0, 4, 4, gap-7)), 2, 1, 1, 1)
			if e != api.OK || !alike(g, api.Grid{X: 2, Z: 1, W: 1, D: 1, Floors: [][]api.Floor{want}}) {
				t.Errorf("Height %d, a storey %d above: %v, %v; want %v", height, gap, g, e, want)
			}
		}
	}
}

// P11.1: what is refused, and beside the bounds what is not: boxes of all kinds, and a grid's own X, Z, W, D.
func TestBuildBoxes(t *testing.T) {
	c := world(16, 8)
	l := slices.Concat(slab(0, 0, 16, 8, 0), storeys(3, 5, 6, 2, 9, 5))
	for _, b := range [][4]int{
		{0, 0, 16, 8}, {0, 0, 1, 1}, {15, 7, 1, 1}, {0, 7, 16, 1}, {15, 0, 1, 8}, {5, 3, 4, 2}, {5, 3, 0, 2}, {5, 3, 4, 0}, {0, 0, 0, 0},
		{-3, -2, 5, 5}, {14, 6, 7, 7}, {-64, -64, 64, 64}, {-64, 0, 64, 8}, {-1, -1, 64, 64}, {-24, -28, 64, 64}, {64, 64, 64, 64}, {64, 0, 1, 1}, {0, 64, 1, 1},
		{-64, -64, 0, 0}, {64, 64, 0, 0}, {-64, 64, 64, 0}, {3, -64, 1, 64}, {-64, 3, 64, 1}, {0, 0, 64, 64}, {16, 8, 3, 3}, {-5, -5, 5, 5},
	} {
		g := buildHolds(t, c, l, b[0], b[1], b[2], b[3])
		if [4]int{g.X, g.Z, g.W, g.D} != b || len(g.Floors) != b[2]*b[3] || Check(g) != api.OK {
			t.Errorf("Build(%v) = %v", b, g)
		}
	}
	for i := range 4 {
		bad := []int{-1, far + 1}
		if i < 2 {
			bad = []int{-far - 1, far + 1}
		}
		for _, n := range slices.Concat(bad, extremes) {
			for _, b := range [][4]int{{0, 0, 1, 1}, {-far, far, 0, far}, {3, 2, 5, 0}} {
				b[i] = n
				noGrid(t, c, l, b, api.ErrArg)
				noGrid(t, c, nil, b, api.ErrArg)
			}
		}
	}
	noGrid(t, c, l, [4]int{0, 0, 1 << 32, 1 << 32}, api.ErrArg)
	noGrid(t, c, l, [4]int{math.MinInt, math.MaxInt, math.MaxInt, math.MinInt}, api.ErrArg)
	noGrid(t, c, nil, [4]int{0, 0, -1, -1}, api.ErrArg)
}

// P11.1: a column of just MaxSpans spans, and one of one more, the first of the box, the last and one between; such as are no part of the box don't count.
func TestBuildFullColumns(t *testing.T) {
	c := world(16, 8)
	ground := slab(0, 0, 16, 8, 0)
	for _, at := range [][2]int{{3, 2}, {6, 4}, {5, 3}, {3, 4}} {
		// A slab of one column touches the eight round it, which are full, too.
		eight := slices.Concat(ground, storeys(most, 3, at[0], at[1], at[0]+1, at[1]+1))
		nine := slices.Concat(ground, storeys(most+1, 3, at[0], at[1], at[0]+1, at[1]+1))
		buildHolds(t, c, eight, 0, 0, 16, 8)
		noGrid(t, c, nine, [4]int{0, 0, 16, 8}, api.ErrFull)
		noGrid(t, c, nine, [4]int{at[0], at[1], 1, 1}, api.ErrFull)
		noGrid(t, c, nine, [4]int{at[0] + 1, at[1] + 1, 9, 9}, api.ErrFull)
		noGrid(t, c, nine, [4]int{at[0] - 3, at[1] - 3, 3, 3}, api.ErrFull)
		buildHolds(t, c, nine, at[0]+2, at[1]-2, 9, 9)
		buildHolds(t, c, nine, at[0]-3, at[1]-3, 2, 9)
		buildHolds(t, c, nine, at[0], at[1], 0, 1)
		buildHolds(t, c, nine, 16, 0, 9, 9)
	}
	all := storeys(most+1, 3, 0, 0, 16, 8)
	noGrid(t, c, all, [4]int{-1, -1, 2, 2}, api.ErrFull)
	buildHolds(t, c, all, -1, -1, 1, 60)
}

// wrongTris may not be in a world of 16 by 8 columns.
func wrongTris() []api.Tri {
	l := tris(api.Tri{}, of(v(5, 0, 5), v(5, 1, 5), v(5, 2, 5)), of(v(0, 0, 0), v(1, 9, 1), v(2, 0, 2)), of(v(5, 0, 5), v(5, 9, 5), v(6, 0, 6)))
	for corner := range 3 {
		for i, bad := range [][]int{{-1, 17, 32}, {-high - 1, high + 1}, {-1, 9, 32}} {
			for _, n := range slices.Concat(bad, extremes) {
				x := of(v(1, 0, 1), v(2, 5, 1), v(1, 0, 3))
				*[]*int{&x.V[corner].X, &x.V[corner].Y, &x.V[corner].Z}[i] = n
				l = append(l, x)
			}
		}
	}
	return l
}

// P11.1, R2: one triangle that may not be is enough; the config is told of first, a full column last.
func TestBuildRefuses(t *testing.T) {
	c := world(16, 8)
	right := slab(0, 0, 16, 8, 0)
	full := storeys(most+1, 3, 0, 0, 6, 4)
	for _, x := range wrongTris() {
		for at := range len(right) + 1 {
			noGrid(t, c, slices.Insert(slices.Clone(right), at, x), [4]int{0, 0, 16, 8}, api.ErrArg)
		}
		noGrid(t, c, tris(x), [4]int{0, 0, 0, 0}, api.ErrArg)
		noGrid(t, c, append(slices.Clone(full), x), [4]int{0, 0, 2, 2}, api.ErrArg)
	}
	many := slices.Repeat(right, mostTris/2)
	buildHolds(t, c, many, 3, 3, 2, 2)
	noGrid(t, c, append(many, right[0]), [4]int{3, 3, 2, 2}, api.ErrArg)
	noGrid(t, c, full, [4]int{0, 0, 65, 1}, api.ErrArg)
	noGrid(t, c, full, [4]int{0, 0, 1, 1}, api.ErrFull)
	for _, bad := range wrongConfigs() {
		for _, l := range [][]api.Tri{nil, slab(0, 0, 1, 1, 0), full, tris(api.Tri{}), append(many, right[0])} {
			for _, b := range [][4]int{{0, 0, 1, 1}, {0, 0, 0, 0}, {-65, 0, 1, 1}, {0, math.MaxInt, -1, math.MinInt}} {
				noGrid(t, bad, l, b, api.ErrConfig)
			}
		}
	}
	for _, good := range goodConfigs() {
		buildHolds(t, good, slab(0, 0, 1, 1, 0), -1, -1, 4, 4)
	}
}

// P11.1: worlds of one column and of the most columns there may be, with many triangles strewn over them.
func TestBuildStrewn(t *testing.T) {
	floors := 0
	for _, size := range [][2]int{{1, 1}, {2, 5}, {16, 8}, {32, 32}} {
		c := world(size[0], size[1])
		for i, x := range []struct{ n, wide, from, to int }{{3, 2, 0, 4}, {9, 1, -20, 20}, {40, 32, -9, 9}, {60, 3, -4, 4}, {120, 2, -100, 100}, {200, 4, -6, 12}} {
			c.Rise, c.Run, c.Height = 3*i%7, 1+i%3, 2+i
			l := strewn(c, x.n, x.wide, x.from, x.to, uint32(100+i))
			for _, b := range [][4]int{{-2, -1, min(c.W+5, far), min(c.D+3, far)}, {0, 0, c.W, c.D}, {c.W / 2, c.D / 2, 3, 2}} {
				for _, l := range buildHolds(t, c, l, b[0], b[1], b[2], b[3]).Floors {
					floors += len(l)
				}
			}
		}
	}
	if floors < 5000 {
		t.Errorf("%d floors alone", floors)
	}
}

// R3, R4: what is handed in stays, its spare room, too; no two columns of an answer share memory, nor do two answers.
func TestBuildMemory(t *testing.T) {
	c := world(12, 10)
	room := append(strewn(c, 24, 3, -12, 12, 77), api.Tri{}, of(v(99, 0, 0), v(0, 0, 0), v(0, -1, 0)))
	l, kept := room[:24], slices.Clone(room)
	want := buildHolds(t, c, l, -2, -3, 17, 15)
	for at := range want.Floors {
		got, e := Build(c, l, -2, -3, 17, 15)
		if e != api.OK || !alike(got, want) {
			t.Fatalf("Build behind %d spoilt columns = %v, %v", at, got, e)
		}
		blot(got.Floors[at], fa(999, 0, 9))
		for other, p := range got.Floors {
			if other != at && !slices.Equal(p, want.Floors[other]) {
				t.Fatalf("column %d became %v by what was written over column %d", other, p, at)
			}
		}
		blot(got.Floors, col(fa(999, 0, 9)))
	}
	Build(api.Config{}, l, 0, 0, 3, 3)
	Build(c, room, 0, 0, 3, 3)
	if !slices.Equal(room, kept) {
		t.Errorf("of %v, %v is left", kept, room)
	}
	blot(l, api.Tri{})
	if other := buildHolds(t, c, kept[:24], -2, -3, 17, 15); !alike(other, want) {
		t.Error("a built grid hangs on what was handed in")
	}
}

// A column's floors can be left early, though Floors and Build go over all of them.
func TestFloorsAreLeft(t *testing.T) {
	for stop := range most {
		var got []api.Floor
		for p := range floors(tall(3), spaced(most, 0, 3)) {
			got = append(got, p)
			if len(got) == stop+1 {
				break
			}
		}
		if want := climbed(3, spaced(most, 0, 3))[:stop+1]; !slices.Equal(got, want) {
			t.Errorf("left at the %d-th: %v; want %v", stop, got, want)
		}
	}
}

// tower is n floors from a height on, each one's room up to the next one's height.
func tower(n, from, apart int) []api.Floor {
	var l []api.Floor
	for k := range n {
		l = append(l, fa(from+k*apart, from+(k+1)*apart, k%(mostArea+1)))
	}
	return l
}

// filled is a grid of columns of no floor, of one, and so on up to MaxSpans, and again.
func filled(x, z, w, d int) api.Grid {
	g := api.Grid{X: x, Z: z, W: w, D: d}
	for at := range w * d {
		g.Floors = append(g.Floors, tower(at*5%(most+1), at%7-9, 3+at%2))
	}
	return g
}

// goodGrids may be, at each bound.
func goodGrids() []api.Grid {
	l := []api.Grid{{}, {Floors: [][]api.Floor{}}, {X: 5, W: 3}, {Z: -7, D: 4}}
	for _, b := range [][4]int{{0, 0, 1, 1}, {3, -2, 1, 5}, {-4, 7, 6, 1}, {-3, -2, 4, 3}, {-far, -far, 2, 3}, {far, far, 3, 2}, {-far, far, 0, far}, {far, -far, far, 0}, {0, 0, 3, 3}, {9, 4, 2, 2}, {-6, 1, 5, 5}, {-20, -30, far, 2}, {7, 7, 3, far}} {
		l = append(l, filled(b[0], b[1], b[2], b[3]), api.Grid{X: b[0], Z: b[1], W: b[2], D: b[3], Floors: make([][]api.Floor, b[2]*b[3])})
	}
	return append(l, filled(-1, -1, far, far))
}

// copied is the same grid in other memory.
func copied(g api.Grid) api.Grid {
	g.Floors = slices.Clone(g.Floors)
	for i := range g.Floors {
		g.Floors[i] = slices.Clone(g.Floors[i])
	}
	return g
}

// seen is a floor and its spot, as All tells them.
type seen struct {
	at    api.Spot
	floor api.Floor
}

func told(all iter.Seq2[api.Spot, api.Floor]) []seen {
	var l []seen
	for at, f := range all {
		l = append(l, seen{at, f})
	}
	return l
}

// heights are such as a column's floors have, such as lie between, below and above, and far off.
func heights(l []api.Floor) []int {
	ys := slices.Concat(extremes, []int{-high - 1, -high, 0, high, high + 1, sky})
	for _, p := range l {
		ys = append(ys, p.Y-1, p.Y, p.Y+1, p.Top, p.Y+1<<32)
	}
	return ys
}

// gridHolds has Check, At, Find and All give of a grid that may be what its columns tell one by one.
func gridHolds(t *testing.T, g api.Grid) {
	t.Helper()
	kept := copied(g)
	if e := Check(g); e != api.OK {
		t.Fatalf("Check(%v) = %v", g, e)
	}
	var want []seen
	at := 0
	for z := g.Z; z < g.Z+g.D; z++ {
		for x := g.X; x < g.X+g.W; x++ {
			columnHolds(t, g, x, z, g.Floors[at])
			for _, p := range g.Floors[at] {
				want = append(want, seen{api.Spot{X: x, Z: z, Y: p.Y}, p})
			}
			at++
		}
	}
	for _, p := range beside(g) {
		columnHolds(t, g, p[0], p[1], nil)
	}
	if got := told(All(g)); !slices.Equal(got, want) {
		t.Fatalf("All(%v) goes over %v; want %v", g, got, want)
	}
	if !alike(g, kept) {
		t.Fatalf("of %v, %v is left", kept, g)
	}
}

func columnHolds(t *testing.T, g api.Grid, x, z int, want []api.Floor) {
	t.Helper()
	if got := At(g, x, z); !slices.Equal(got, want) || len(want) == 0 && got != nil {
		t.Fatalf("At(%v, %d, %d) = %v; want %v", g, x, z, got, want)
	}
	for _, y := range heights(want) {
		place := slices.IndexFunc(want, func(p api.Floor) bool { return p.Y == y })
		k, ok := Find(g, x, z, y)
		if ok != (place >= 0) || k != max(place, 0) {
			t.Fatalf("Find(%v, %d, %d, %d) = %d, %v; want %d", g, x, z, y, k, ok, place)
		}
	}
}

// beside are columns that a grid has not: one past each side all along it, and as far off as an int reaches.
func beside(g api.Grid) [][2]int {
	var l [][2]int
	for x := g.X - 1; x <= g.X+g.W; x++ {
		l = append(l, [2]int{x, g.Z - 1}, [2]int{x, g.Z + g.D})
	}
	for z := g.Z - 1; z <= g.Z+g.D; z++ {
		l = append(l, [2]int{g.X - 1, z}, [2]int{g.X + g.W, z})
	}
	for _, n := range extremes {
		l = append(l, [2]int{n, g.Z}, [2]int{g.X, n}, [2]int{n, n}, [2]int{n + g.X, g.Z}, [2]int{g.X, n + g.Z}, [2]int{n, -n})
	}
	return l
}

// P11.2: grids of all kinds that may be.
func TestGrids(t *testing.T) {
	for _, g := range goodGrids() {
		if g.W*g.D < 500 {
			gridHolds(t, g)
		}
	}
	g := goodGrids()[len(goodGrids())-1]
	for _, p := range [][2]int{{-1, -1}, {62, -1}, {-1, 62}, {62, 62}, {30, 17}} {
		columnHolds(t, g, p[0], p[1], g.Floors[(p[1]+1)*far+p[0]+1])
	}
	count := 0
	for _, l := range g.Floors {
		count += len(l)
	}
	if got := told(All(g)); len(got) != count || got[count-1].at.Z != 62 || Check(g) != api.OK {
		t.Errorf("All goes over %d of %d; Check = %v", len(got), count, Check(g))
	}
}

// refused holds Check, At, Find and All to what they answer of grids that may not be.
func refused(t *testing.T, g api.Grid) {
	t.Helper()
	kept := copied(g)
	if e := Check(g); e != api.ErrArg {
		t.Errorf("Check(%v) = %v", g, e)
	}
	for _, at := range [][2]int{{0, 0}, {1, 0}, {g.X, g.Z}, {g.X + 1, g.Z}, {g.X, g.Z + 1}, {math.MinInt, 0}, {math.MaxInt, math.MaxInt}} {
		if l := At(g, at[0], at[1]); l != nil {
			t.Errorf("At(%v, %v) = %v", g, at, l)
		}
		for _, l := range g.Floors[:min(len(g.Floors), 20)] {
			for _, p := range l[:min(len(l), 10)] {
				if k, ok := Find(g, at[0], at[1], p.Y); k != 0 || ok {
					t.Errorf("Find(%v, %v, %d) = %d, %v", g, at, p.Y, k, ok)
				}
			}
		}
	}
	all := All(g)
	for range 2 {
		if got := told(all); got != nil {
			t.Errorf("All(%v) goes over %v", g, got)
		}
	}
	if !alike(g, kept) {
		t.Errorf("of %v, %v is left", kept, g)
	}
}

// P11.2: where a grid stands and how wide it is, at and one past each bound, and far past it; too few columns and too many.
func TestCheckPlacesAndSizes(t *testing.T) {
	one := func(x, z int) api.Grid {
		return api.Grid{X: x, Z: z, W: 1, D: 1, Floors: [][]api.Floor{col(f(0, 9))}}
	}
	for _, x := range []int{-far, -far + 1, 0, far - 1, far} {
		for _, z := range []int{-far, 0, far} {
			gridHolds(t, one(x, z))
			gridHolds(t, api.Grid{X: x, Z: z})
		}
	}
	for _, n := range slices.Concat([]int{-far - 1, far + 1}, extremes) {
		for _, z := range []int{-far, 0, 7, far} {
			refused(t, one(n, z))
			refused(t, one(z, n))
			refused(t, api.Grid{X: n, Z: z})
			refused(t, api.Grid{X: z, Z: n})
		}
		refused(t, one(n, n))
	}
	for _, size := range [][2]int{{0, 0}, {0, 5}, {5, 0}, {0, far}, {far, 0}, {1, 1}, {far, 1}, {1, far}, {far, far}, {3, 2}} {
		g := filled(0, 0, size[0], size[1])
		if Check(g) != api.OK {
			t.Errorf("Check(%v) = %v", size, Check(g))
		}
		more := g
		more.Floors = append(slices.Clone(g.Floors), nil)
		refused(t, more)
		more.Floors = append(slices.Clone(g.Floors), col(f(0, 9)))
		refused(t, more)
		if len(g.Floors) > 0 {
			g.Floors = g.Floors[:len(g.Floors)-1] // behind its end a column stands that may be
			refused(t, g)
			g.Floors = nil
			refused(t, g)
		}
	}
	for _, n := range slices.Concat([]int{-1, far + 1}, extremes) {
		for _, other := range []int{0, 1, far, n, -n, 1 << 32} {
			refused(t, api.Grid{W: n, D: other})
			refused(t, api.Grid{W: other, D: n})
			refused(t, api.Grid{W: n, D: other, Floors: make([][]api.Floor, 1)})
			refused(t, api.Grid{W: other, D: n, Floors: make([][]api.Floor, max(far+1, 1))})
		}
	}
	refused(t, filled(0, 0, far+1, 1))
	refused(t, filled(0, 0, 1, far+1))
	refused(t, filled(0, 0, far+1, far+1))
	refused(t, api.Grid{W: -2, D: -3, Floors: make([][]api.Floor, 6)})
	refused(t, api.Grid{W: 1 << 32, D: 1 << 32}) // W * D runs over to 0
	refused(t, api.Grid{W: math.MinInt, D: 2})
	refused(t, api.Grid{W: 1 << 62, D: 4})
	refused(t, api.Grid{W: 1<<32 + 1, D: 1 << 32, Floors: make([][]api.Floor, 1<<10)})
}

// P11.2: one column's floors at each bound, and one past it.
func TestCheckFloorsTable(t *testing.T) {
	for _, x := range []struct {
		name string
		l    []api.Floor
		ok   bool
	}{
		{"none", nil, true},
		{"nothing", col(), true},
		{"one", col(f(0, 9)), true},
		{"Y one below Top", col(f(3, 4)), true},
		{"Y at Top", col(f(4, 4)), false},
		{"Y one above Top", col(f(5, 4)), false},
		{"Y one below Top, at 0", col(f(-1, 0)), true},
		{"Y at Top, at 0", col(f(0, 0)), false},
		{"Y one above Top, at 0", col(f(1, 0)), false},
		{"nought alone", col(api.Floor{}), false},
		{"Top one below the next one's Y", col(f(0, 4), f(5, 9)), true},
		{"Top at the next one's Y", col(f(0, 5), f(5, 9)), true},
		{"Top one above the next one's Y", col(f(0, 6), f(5, 9)), false},
		{"Top at the next one's Top", col(f(0, 9), f(5, 9)), false},
		{"Top above all of the next one", col(f(0, 20), f(5, 9)), false},
		{"the next one below", col(f(5, 9), f(0, 4)), false},
		{"the next one up to it from below", col(f(5, 9), f(0, 5)), false},
		{"one twice", col(f(5, 9), f(5, 9)), false},
		{"Y at the least height", col(f(-high, 0)), true},
		{"Y one below it", col(f(-high-1, 0)), false},
		{"Y at the least height, Top next to it", col(f(-high, 1-high)), true},
		{"Y and Top below it", col(f(-high-9, -high-1)), false},
		{"Y at the greatest height", col(f(high, high+1)), true},
		{"Y one above it", col(f(high+1, high+2)), false},
		{"Top at Sky", col(f(high, sky)), true},
		{"Top one below Sky", col(f(0, sky-1)), true},
		{"Top one past Sky", col(f(0, sky+1)), false},
		{"Top at Sky, one more above", col(f(0, sky), f(9, 10)), false},
		{"Top at Sky, one more at Sky", col(f(0, sky), f(sky, sky+1)), false},
		{"Top far above all heights, within Sky", col(f(0, high+1)), true},
		{"Top above all heights, one more above", col(f(0, high+1), f(high+1, high+2)), false},
		{"area 0", col(fa(0, 9, 0)), true},
		{"the greatest area", col(fa(0, 9, mostArea)), true},
		{"area one past it", col(fa(0, 9, mostArea+1)), false},
		{"area below 0", col(fa(0, 9, -1)), false},
		{"an area that is one in a narrower number", col(fa(0, 9, 1<<32+1)), false},
		{"just MaxSpans", tower(most, -high, 1), true},
		{"just MaxSpans, up to the greatest height", tower(most, high-most+1, 1), true},
		{"one more than MaxSpans", tower(most+1, 0, 1), false},
		{"many more", tower(700, 0, 1), false},
		{"eight from the least height to Sky", append(tower(most-1, -high, 500), fa(high, sky, 7)), true},
	} {
		for _, b := range [][2]int{{0, 0}, {-far, far}} {
			g := api.Grid{X: b[0], Z: b[1], W: 1, D: 1, Floors: [][]api.Floor{x.l}}
			if got := Check(g); (got == api.OK) != x.ok {
				t.Errorf("%s: Check(%v) = %v", x.name, g, got)
			}
			if x.ok {
				gridHolds(t, g)
			} else {
				refused(t, g)
			}
		}
	}
}

// risen tells by each two of a column's floors, not by neighbours alone, whether they may be.
func risen(l []api.Floor) bool {
	for i, p := range l {
		if p.Y >= p.Top || p.Y < -high || p.Y > high || p.Top > sky || p.Area < 0 || p.Area > mostArea {
			return false
		}
		for _, q := range l[:i] {
			if q.Top > p.Y || q.Y >= p.Y {
				return false
			}
		}
	}
	return len(l) <= most
}

// P11.2: all columns of few floors among few heights, and of few floors at the bounds.
func TestCheckAllShortColumns(t *testing.T) {
	hold := func(l []api.Floor) {
		t.Helper()
		want := api.ErrArg
		if risen(l) {
			want = api.OK
		}
		if e := Check(api.Grid{W: 1, D: 1, Floors: [][]api.Floor{l}}); e != want {
			t.Fatalf("Check of %v = %v", l, e)
		}
	}
	var few, bounds []api.Floor
	for y := -1; y <= 2; y++ {
		for top := y - 1; top <= 3; top++ {
			few = append(few, f(y, top))
		}
	}
	for _, y := range []int{math.MinInt, -high - 1, -high, -high + 1, high - 1, high, high + 1, sky - 1, sky, math.MaxInt} {
		for _, top := range []int{math.MinInt, -high - 1, -high, -high + 1, high, high + 1, sky - 1, sky, sky + 1, math.MaxInt} {
			bounds = append(bounds, fa(y, top, 7))
		}
	}
	lists(3, few, hold)
	lists(2, bounds, hold)
}

// P11.2: one floor that may not be is enough, the first of its column, the last or one between, in the first column, the last or one between.
func TestCheckFindsTheOneThatIsWrong(t *testing.T) {
	wrong := []func(p *api.Floor){
		func(p *api.Floor) { p.Top = p.Y },
		func(p *api.Floor) { p.Top = p.Y - 1 },
		func(p *api.Floor) { p.Top = sky + 1 },
		func(p *api.Floor) { p.Y = -high - 1 },
		func(p *api.Floor) { p.Y = high + 1 },
		func(p *api.Floor) { p.Y, p.Top = high+1, high+2 },
		func(p *api.Floor) { p.Area = -1 },
		func(p *api.Floor) { p.Area = mostArea + 1 },
		func(p *api.Floor) { *p = api.Floor{} },
	}
	for _, n := range extremes {
		wrong = append(wrong,
			func(p *api.Floor) { p.Y = n },
			func(p *api.Floor) { p.Top = n },
			func(p *api.Floor) { p.Y, p.Top = n, n+1 },
			func(p *api.Floor) { p.Area = n })
	}
	for _, size := range [][2]int{{1, 1}, {3, 2}, {1, 4}} {
		for at := range size[0] * size[1] {
			for _, n := range []int{1, 2, 5, most} {
				g := filled(-3, 5, size[0], size[1])
				g.Floors[at] = tower(n, 10, 4)
				gridHolds(t, g)
				for k := range n {
					for _, spoil := range wrong {
						bad := copied(g)
						spoil(&bad.Floors[at][k])
						refused(t, bad)
					}
					if k > 0 {
						bad := copied(g)
						bad.Floors[at][k-1].Top++
						refused(t, bad)
						bad = copied(g)
						bad.Floors[at][k], bad.Floors[at][k-1] = bad.Floors[at][k-1], bad.Floors[at][k]
						refused(t, bad)
						bad = copied(g)
						bad.Floors[at][k-1].Top-- // a height that is in no room
						gridHolds(t, bad)
					}
				}
			}
			g := filled(-3, 5, size[0], size[1])
			g.Floors[at] = tower(most+1, 10, 4)
			refused(t, g)
		}
	}
}

// P11.2: columns that are there: in each corner, in the midst; beside the grid there are none, though its list goes on there.
func TestAtTable(t *testing.T) {
	g := api.Grid{X: -2, Z: 5, W: 3, D: 2, Floors: [][]api.Floor{
		col(f(0, 9)), nil, col(f(1, 4), fa(6, sky, 3)),
		col(f(3, 9)), col(f(-7, -3), fa(-1, 5, 0), f(5, 6)), col(f(5, 9)),
	}}
	for _, x := range []struct {
		x, z int
		want []api.Floor
	}{
		{-2, 5, col(f(0, 9))}, {-1, 5, nil}, {0, 5, col(f(1, 4), fa(6, sky, 3))},
		{-2, 6, col(f(3, 9))}, {-1, 6, col(f(-7, -3), fa(-1, 5, 0), f(5, 6))}, {0, 6, col(f(5, 9))},
		{-3, 5, nil}, {1, 5, nil}, {-3, 6, nil}, {1, 6, nil}, {-2, 4, nil}, {0, 4, nil}, {-2, 7, nil}, {0, 7, nil}, {0, 0, nil}, {2, 1, nil}, {1, 1, nil},
	} {
		columnHolds(t, g, x.x, x.z, x.want)
	}
	for _, x := range []struct {
		x, z, y, k int
		ok         bool
	}{
		{-2, 5, 0, 0, true}, {-2, 5, 1, 0, false}, {-2, 5, 9, 0, false}, {-1, 5, 0, 0, false},
		{0, 5, 1, 0, true}, {0, 5, 6, 1, true}, {0, 5, 4, 0, false}, {0, 5, 5, 0, false}, {0, 5, 7, 0, false}, {0, 5, 0, 0, false},
		{-1, 6, -7, 0, true}, {-1, 6, -1, 1, true}, {-1, 6, 5, 2, true}, {-1, 6, -2, 0, false}, {-1, 6, 6, 0, false}, {-1, 6, math.MinInt, 0, false}, {-1, 6, math.MaxInt, 0, false}, {-1, 6, 1<<32 + 5, 0, false},
		{1, 5, 3, 0, false}, {-3, 6, 6, 0, false}, {1, 6, 5, 0, false},
	} {
		if k, ok := Find(g, x.x, x.z, x.y); k != x.k || ok != x.ok {
			t.Errorf("Find(%d, %d, %d) = %d, %v; want %d, %v", x.x, x.z, x.y, k, ok, x.k, x.ok)
		}
	}
	want := []seen{
		{api.Spot{X: -2, Z: 5, Y: 0}, f(0, 9)}, {api.Spot{X: 0, Z: 5, Y: 1}, f(1, 4)}, {api.Spot{X: 0, Z: 5, Y: 6}, fa(6, sky, 3)},
		{api.Spot{X: -2, Z: 6, Y: 3}, f(3, 9)}, {api.Spot{X: -1, Z: 6, Y: -7}, f(-7, -3)}, {api.Spot{X: -1, Z: 6, Y: -1}, fa(-1, 5, 0)}, {api.Spot{X: -1, Z: 6, Y: 5}, f(5, 6)}, {api.Spot{X: 0, Z: 6, Y: 5}, f(5, 9)},
	}
	if got := told(All(g)); !slices.Equal(got, want) {
		t.Errorf("All goes over %v; want %v", got, want)
	}
	gridHolds(t, g)
}

// P11.2: left at each of its steps, gone over again, and within itself.
func TestAllIsLeftAndGoneOverAgain(t *testing.T) {
	for _, g := range []api.Grid{filled(-3, 2, 3, 3), filled(0, 0, 1, 4), filled(5, 5, 4, 1), {W: 1, D: 1, Floors: [][]api.Floor{tower(most, 0, 3)}}, {W: 2, D: 1, Floors: [][]api.Floor{nil, col(f(1, 2))}}, {W: 2, D: 2, Floors: make([][]api.Floor, 4)}, {}} {
		var want []seen
		for at, l := range g.Floors {
			for _, p := range l {
				want = append(want, seen{api.Spot{X: g.X + at%g.W, Z: g.Z + at/g.W, Y: p.Y}, p})
			}
		}
		all := All(g)
		for stop := range want {
			var got []seen
			for at, p := range all {
				got = append(got, seen{at, p})
				if len(got) == stop+1 {
					break
				}
			}
			if !slices.Equal(got, want[:stop+1]) {
				t.Errorf("All(%v), left at the %d-th: %v", g, stop, got)
			}
			calls := 0
			all(func(api.Spot, api.Floor) bool { calls++; return calls <= stop })
			if calls != stop+1 {
				t.Errorf("All(%v) went on: %d calls, left at the %d-th", g, calls, stop)
			}
		}
		if got := told(all); !slices.Equal(got, want) {
			t.Errorf("All(%v) again: %v; want %v", g, got, want)
		}
		var outer, inner []seen
		for at, p := range all {
			outer = append(outer, seen{at, p})
			inner = append(inner, told(all)...)
		}
		if !slices.Equal(outer, want) || !slices.Equal(inner, slices.Repeat(want, len(want))) {
			t.Errorf("All(%v) within itself: %v, %v; want %v", g, outer, inner, want)
		}
	}
}

// R1: an iterator of what may not be, or of nothing, is one.
func TestAllIsNeverNil(t *testing.T) {
	for _, g := range []api.Grid{{}, {W: 1}, {W: 1, D: 1}, {W: -1, D: -1, Floors: [][]api.Floor{col(f(0, 1))}}, {W: math.MaxInt, D: math.MaxInt}, {W: 1, D: 1, Floors: [][]api.Floor{nil}}} {
		if All(g) == nil {
			t.Fatal("no iterator")
		}
		if got := told(All(g)); got != nil {
			t.Errorf("it goes over %v", got)
		}
	}
}

// R4: an iterator tells what there was when the call was made, whatever becomes of the grid then.
func TestAllTellsWhatThereWas(t *testing.T) {
	spoils := []func(g api.Grid){
		func(g api.Grid) { blot(g.Floors, nil) },
		func(g api.Grid) { blot(g.Floors, col(fa(9, 0, -9), f(1, 2))) },
		func(g api.Grid) {
			for _, l := range g.Floors {
				blot(l, fa(77, 78, 7))
			}
		},
		func(g api.Grid) {
			for i := range g.Floors {
				g.Floors[i] = append(g.Floors[i], f(900, 901))
			}
		},
	}
	for _, g := range []api.Grid{filled(-3, 2, 3, 3), filled(far, -far, 5, 2), {W: 1, D: 1, Floors: [][]api.Floor{tower(most, 0, 3)}}} {
		want := told(All(g))
		for _, spoil := range spoils {
			own := copied(g)
			all := All(own)
			spoil(own)
			for range 2 {
				if got := told(all); !slices.Equal(got, want) {
					t.Errorf("All(%v), and then all is written over: %v; want %v", g, got, want)
				}
			}
			// Even while it is gone over.
			own = copied(g)
			var got []seen
			for at, p := range All(own) {
				got = append(got, seen{at, p})
				spoil(own)
			}
			if !slices.Equal(got, want) {
				t.Errorf("All(%v), while all is written over: %v; want %v", g, got, want)
			}
		}
	}
	// What may not be, and may then, is not told either.
	own := api.Grid{W: 1, D: 1, Floors: [][]api.Floor{col(f(1, 0))}}
	all := All(own)
	own.Floors[0][0] = f(0, 1)
	if got := told(all); got != nil {
		t.Errorf("All of what may not be: %v", got)
	}
}

// roomy is the same grid, with spare room behind its columns and behind each of them, in one piece of memory.
func roomy(g api.Grid) (api.Grid, []api.Floor, [][]api.Floor) {
	var all []api.Floor
	for _, l := range g.Floors {
		all = append(append(all, l...), fa(-99, 99, -9))
	}
	list := append(slices.Clone(g.Floors), col(f(8, 9)), nil)
	at := 0
	for i, l := range g.Floors {
		list[i] = all[at : at+len(l)]
		at += len(l) + 1
	}
	g.Floors = list[:len(g.Floors)]
	return g, all, list
}

// R4: what is handed in stays as it was, its spare room, too; answers are in memory of their own.
func TestGridMemory(t *testing.T) {
	wrong := filled(0, 0, 2, 2)
	wrong.Floors[3] = col(f(0, 9), f(8, 10))
	for _, x := range append(goodGrids()[:24], wrong) {
		g, all, list := roomy(x)
		wantAll, wantList := slices.Clone(all), slices.Clone(list)
		Check(g)
		Same(g, g)
		Same(g, x)
		told(All(g))
		for at := range g.Floors {
			cx, cz := g.X+at%g.W, g.Z+at/g.W
			one, two := At(g, cx, cz), At(g, cx, cz)
			for _, p := range g.Floors[at] {
				Find(g, cx, cz, p.Y)
				Find(g, cx, cz, p.Y+1)
			}
			kept := slices.Clone(two)
			blot(one, fa(-77, 77, 7))
			if !slices.Equal(two, kept) || Check(x) == api.OK && !slices.Equal(two, x.Floors[at]) {
				t.Fatalf("At(%v, %d, %d) = %v; it was %v", x, cx, cz, two, kept)
			}
			At(g, cx+1, cz)
		}
		if !slices.Equal(all, wantAll) || !slices.EqualFunc(list, wantList, func(a, b []api.Floor) bool { return slices.Equal(a, b) }) {
			t.Errorf("of %v, %v is left", wantAll, all)
		}
		if !Same(g, x) {
			t.Errorf("%v is not the same as %v", g, x)
		}
	}
	g := api.Grid{W: 1, D: 1, Floors: [][]api.Floor{tower(most, 0, 3)}}
	l := At(g, 0, 0)
	blot(g.Floors[0], api.Floor{})
	if !slices.Equal(l, tower(most, 0, 3)) {
		t.Errorf("the answer of At has become %v", l)
	}
}

func sameHolds(t *testing.T, a, b api.Grid, want bool) {
	t.Helper()
	if Same(a, b) != want || Same(b, a) != want {
		t.Errorf("Same(%v, %v) = %v, the other way round %v", a, b, Same(a, b), Same(b, a))
	}
}

// P11.2: grids that are unlike in one field alone, in one column's length, in one floor's Y, Top or area.
func TestSame(t *testing.T) {
	wrong := filled(2, 3, 3, 2)
	wrong.W, wrong.Floors[1], wrong.Floors[4] = math.MaxInt, col(f(9, 0), fa(math.MinInt, 0, -1)), tower(most+4, 5, 1)
	for _, g := range append(goodGrids()[:24], wrong) {
		sameHolds(t, g, g, true)
		sameHolds(t, g, copied(g), true)
		for i := range 4 {
			for _, n := range []int{1, -1, 64, 1 << 32, math.MinInt} {
				b := copied(g)
				*[]*int{&b.X, &b.Z, &b.W, &b.D}[i] += n
				sameHolds(t, g, b, false)
			}
		}
		for _, more := range [][]api.Floor{nil, col(), col(f(0, 9))} {
			b := copied(g)
			b.Floors = append(b.Floors, more)
			sameHolds(t, g, b, false)
		}
		for at, l := range g.Floors {
			columnSame(t, g, at, len(l))
			b := copied(g)
			b.Floors = slices.Delete(b.Floors, at, at+1)
			sameHolds(t, g, b, false)
			b.Floors = slices.Insert(b.Floors, at, slices.Clone(l))
			sameHolds(t, g, b, true)
		}
	}
}

// columnSame makes one column, and one number of each of its floors, another one.
func columnSame(t *testing.T, g api.Grid, at, n int) {
	t.Helper()
	for k := range n {
		for i := range 3 {
			for _, by := range []int{1, -1, 1 << 32, math.MinInt} {
				b := copied(g)
				p := &b.Floors[at][k]
				*[]*int{&p.Y, &p.Top, &p.Area}[i] += by
				sameHolds(t, g, b, false)
			}
		}
		b := copied(g)
		b.Floors[at] = slices.Delete(b.Floors[at], k, k+1)
		sameHolds(t, g, b, false)
	}
	for k := range n + 1 {
		b := copied(g)
		b.Floors[at] = slices.Insert(b.Floors[at], k, api.Floor{})
		sameHolds(t, g, b, false)
	}
	b := copied(g)
	b.Floors[at] = nil
	sameHolds(t, g, b, n == 0)
	b.Floors[at] = make([]api.Floor, 0, 3)
	sameHolds(t, g, b, n == 0)
}

// P11.2: columns of nothing are like none, floors or columns; grids that may not be are held against each other likewise.
func TestSameOfNothing(t *testing.T) {
	none, nothing := []api.Floor(nil), []api.Floor{}
	grid := func(l ...[]api.Floor) api.Grid { return api.Grid{W: 2, D: 1, Floors: l} }
	sameHolds(t, grid(none, none), grid(nothing, nothing), true)
	sameHolds(t, grid(none, nothing), grid(nothing, none), true)
	sameHolds(t, grid(col(f(0, 1)), nothing), grid(col(f(0, 1)), none), true)
	sameHolds(t, grid(none, col(f(0, 1))), grid(nothing, col(f(0, 1))), true)
	sameHolds(t, grid(none, col(f(0, 1))), grid(col(f(0, 1)), none), false)
	sameHolds(t, grid(none, none), grid(none), false)
	sameHolds(t, api.Grid{}, api.Grid{Floors: [][]api.Floor{}}, true)
	sameHolds(t, api.Grid{D: 3}, api.Grid{D: 3, Floors: make([][]api.Floor, 0, 5)}, true)
	sameHolds(t, api.Grid{W: -5}, api.Grid{W: -5, Floors: [][]api.Floor{}}, true)
	sameHolds(t, api.Grid{W: -5}, api.Grid{W: 5}, false)
	sameHolds(t, api.Grid{X: math.MinInt, Z: math.MaxInt}, api.Grid{X: math.MinInt, Z: math.MaxInt}, true)
	sameHolds(t, api.Grid{X: 1, Z: 2, W: 3, D: 4}, api.Grid{X: 2, Z: 1, W: 3, D: 4}, false)
	sameHolds(t, api.Grid{X: 1, Z: 2, W: 3, D: 4}, api.Grid{X: 1, Z: 2, W: 4, D: 3}, false)
	sameHolds(t, grid(col(f(9, 0))), grid(col(f(9, 0))), true)
}

// part is the columns of a grid that are of a box within it.
func part(g api.Grid, x, z, w, d int) api.Grid {
	p := api.Grid{X: x, Z: z, W: w, D: d}
	for cz := z; cz < z+d; cz++ {
		for cx := x; cx < x+w; cx++ {
			p.Floors = append(p.Floors, g.Floors[(cz-g.Z)*g.W+cx-g.X])
		}
	}
	return p
}

// P11.3: what Build tells may be, each floor has room of Height at least, and all are found where All tells of them.
func TestBuiltGridsMayBe(t *testing.T) {
	for seed := range uint32(24) {
		c := world(3+int(seed)%9, 2+int(seed)%11)
		c.Height, c.Rise = 2+int(seed)%9, int(seed)*4
		g := buildHolds(t, c, strewn(c, 6+int(seed)/2, 4, -12, 12, 300+seed), -1, -2, c.W+2, c.D+4)
		gridHolds(t, g)
		sameHolds(t, g, copied(g), true)
		count := 0
		for at, p := range All(g) {
			count++
			k, ok := Find(g, at.X, at.Z, at.Y)
			if !ok || At(g, at.X, at.Z)[k] != p || p.Y != at.Y {
				t.Fatalf("All tells %v of %v; Find %d, %v", p, at, k, ok)
			}
			if p.Top-p.Y < c.Height || p.Area != 1 {
				t.Fatalf("Height %d: %v has the floor %v", c.Height, at, p)
			}
		}
		if count == 0 {
			t.Errorf("%d: no floor", seed)
		}
	}
}

// P11.3: Floors' room is at least Height, and a column of them may be in a grid.
func TestFloorsMayBe(t *testing.T) {
	rule := &numbers{5}
	for i := range 3000 {
		var l []api.Span
		y := -high + rule.below(high)
		for range i % (most + 1) {
			hi := y + rule.below(1+rule.below(9))
			l = append(l, api.Span{Lo: y, Hi: hi, Walk: rule.below(3) > 0})
			y = hi + 1 + rule.below(1+rule.below(40))
		}
		height := 1 + i%32
		floorsHold(t, height, l)
		floors, _ := Floors(tall(height), l)
		for _, p := range floors {
			if p.Top-p.Y < height {
				t.Fatalf("Floors(Height %d, %v) = %v", height, l, floors)
			}
		}
		if g := (api.Grid{W: 1, D: 1, Floors: [][]api.Floor{floors}}); Check(g) != api.OK {
			t.Fatalf("Floors(Height %d, %v) = %v may not be", height, l, floors)
		}
	}
}

// P11.3: a grid's part is the grid that is built of that part: all of them in one world, in each corner, in the midst, of one column, of one row, of all, of none.
func TestPartsOfGrids(t *testing.T) {
	c := world(9, 7)
	c.Rise = 30
	l := strewn(c, 24, 3, -12, 12, 77)
	whole := buildHolds(t, c, l, -2, -3, 13, 12)
	for z := -3; z <= 9; z++ {
		for x := -2; x <= 11; x++ {
			for d := 0; d <= 9-z; d++ {
				for w := 0; w <= 11-x; w++ {
					got, e := Build(c, l, x, z, w, d)
					if want := part(whole, x, z, w, d); e != api.OK || !alike(got, want) || !Same(got, want) {
						t.Fatalf("Build(%d, %d, %d, %d) = %v, %v; want %v", x, z, w, d, got, e, want)
					}
				}
			}
		}
	}
}
