package cells

import (
	"math"
	"math/big"
	"slices"
	"testing"

	"footpath/api"
)

const (
	side  = 32 // of the world, in columns
	far   = 64 // of the world, in halves of a column
	great = 1 << 30
)

func at(x, z int) api.Point { return api.Point{X: x, Z: z} }

func rat(num, den int) api.Ratio { return api.Ratio{Num: num, Den: den} }

func cell(x, z int) api.Cell { return api.Cell{X: x, Z: z} }

// edge is all points of numbers at and beside the bounds of the chapter and in the middle.
func edge() []api.Point { return pairs(0, 1, 2, 31, 32, 62, 63, 64) }

func pairs(l ...int) []api.Point {
	var ps []api.Point
	for _, x := range l {
		for _, z := range l {
			ps = append(ps, at(x, z))
		}
	}
	return ps
}

// square holds the points from lo, lo to hi, hi.
func square(lo, hi int) []api.Point {
	var l []int
	for n := lo; n <= hi; n++ {
		l = append(l, n)
	}
	return pairs(l...)
}

// none holds points that are none: each number one past its bounds, and far past them.
func none() []api.Point {
	var ps []api.Point
	for _, n := range []int{-1, far + 1, -2, far + 2, -1 << 40, 1 << 40, 1 << 62, math.MinInt, math.MaxInt} {
		ps = append(ps, at(n, 0), at(0, n), at(n, 5), at(5, n), at(n, far), at(far, n), at(n, n))
	}
	return ps
}

func size(n int) int { return max(n, -n) }

// trace is a segment gone along step by step: den equal steps lead from a to b, and each side of a column is met at a whole one. first and last hold the steps by z + 1, x + 1; first is -1 where the segment never is.
type trace struct {
	den         int
	first, last [side + 2][side + 2]int
	steps       [][]api.Cell // the columns at each step
}

func step(a, b api.Point) *trace {
	dx, dz := b.X-a.X, b.Z-a.Z
	t := &trace{den: max(1, size(dx)) * max(1, size(dz))}
	for z := range t.first {
		for x := range t.first[z] {
			t.first[z][x] = -1
		}
	}
	for k := 0; k <= t.den; k++ {
		var here []api.Cell
		for _, z := range holders(a.Z*t.den+k*dz, 2*t.den) {
			for _, x := range holders(a.X*t.den+k*dx, 2*t.den) {
				here = append(here, cell(x, z))
				if t.first[z+1][x+1] < 0 {
					t.first[z+1][x+1] = k
				}
				t.last[z+1][x+1] = k
			}
		}
		t.steps = append(t.steps, here)
	}
	return t
}

// holders holds the numbers k for which n is from k * width to (k + 1) * width, n being 0 or above.
func holders(n, width int) []int {
	if n%width == 0 {
		return []int{n/width - 1, n / width}
	}
	return []int{n / width}
}

func (t *trace) meets(x, z int) bool {
	return x >= -1 && x <= side && z >= -1 && z <= side && t.first[z+1][x+1] >= 0
}

func (t *trace) count() int {
	n := 0
	for _, row := range t.first {
		for _, k := range row {
			if k >= 0 {
				n++
			}
		}
	}
	return n
}

// is tells whether a ratio in lowest terms is that of k steps.
func (t *trace) is(r api.Ratio, k int) bool {
	if r.Den < 1 || r.Num*t.den != k*r.Den {
		return false
	}
	for n := 2; n <= r.Den; n++ {
		if r.Num%n == 0 && r.Den%n == 0 {
			return false
		}
	}
	return true
}

// ahead tells whether p comes ahead of q in the order.
func (t *trace) ahead(p, q api.Cell) bool {
	return slices.Compare(
		[]int{t.first[p.Z+1][p.X+1], p.Z, p.X},
		[]int{t.first[q.Z+1][q.X+1], q.Z, q.X}) < 0
}

func checkCells(t *testing.T, a, b api.Point) {
	t.Helper()
	way := step(a, b)
	l, e := Cells(a, b)
	if e != api.OK || len(l) != way.count() {
		t.Fatalf("Cells(%v, %v): %d columns, %v; want %d", a, b, len(l), e, way.count())
	}
	for i, c := range l {
		if !way.meets(c.X, c.Z) {
			t.Fatalf("Cells(%v, %v): %v is not met", a, b, c)
		}
		if !way.is(c.First, way.first[c.Z+1][c.X+1]) || !way.is(c.Last, way.last[c.Z+1][c.X+1]) {
			t.Fatalf("Cells(%v, %v): %v; want it from step %d to step %d of %d", a, b, c, way.first[c.Z+1][c.X+1], way.last[c.Z+1][c.X+1], way.den)
		}
		if i > 0 && !way.ahead(l[i-1], c) {
			t.Fatalf("Cells(%v, %v): %v ahead of %v", a, b, l[i-1], c)
		}
	}
}

func TestCellsTable(t *testing.T) {
	for _, c := range []struct {
		name string
		a, b api.Point
		want []api.Cell
	}{
		{"the chapter's first", at(1, 1), at(3, 1), []api.Cell{
			{X: 0, Z: 0, First: rat(0, 1), Last: rat(1, 2)},
			{X: 1, Z: 0, First: rat(1, 2), Last: rat(1, 1)},
		}},
		{"the chapter's second", at(1, 1), at(3, 3), []api.Cell{
			{X: 0, Z: 0, First: rat(0, 1), Last: rat(1, 2)},
			{X: 1, Z: 0, First: rat(1, 2), Last: rat(1, 2)},
			{X: 0, Z: 1, First: rat(1, 2), Last: rat(1, 2)},
			{X: 1, Z: 1, First: rat(1, 2), Last: rat(1, 1)},
		}},
		{"the chapter's third", at(2, 2), at(2, 2), []api.Cell{
			{X: 0, Z: 0, First: rat(0, 1), Last: rat(1, 1)},
			{X: 1, Z: 0, First: rat(0, 1), Last: rat(1, 1)},
			{X: 0, Z: 1, First: rat(0, 1), Last: rat(1, 1)},
			{X: 1, Z: 1, First: rat(0, 1), Last: rat(1, 1)},
		}},
		{"a point within a column", at(5, 3), at(5, 3), []api.Cell{
			{X: 2, Z: 1, First: rat(0, 1), Last: rat(1, 1)},
		}},
		{"a point on a side", at(4, 3), at(4, 3), []api.Cell{
			{X: 1, Z: 1, First: rat(0, 1), Last: rat(1, 1)},
			{X: 2, Z: 1, First: rat(0, 1), Last: rat(1, 1)},
		}},
		{"the least corner", at(0, 0), at(0, 0), []api.Cell{
			{X: -1, Z: -1, First: rat(0, 1), Last: rat(1, 1)},
			{X: 0, Z: -1, First: rat(0, 1), Last: rat(1, 1)},
			{X: -1, Z: 0, First: rat(0, 1), Last: rat(1, 1)},
			{X: 0, Z: 0, First: rat(0, 1), Last: rat(1, 1)},
		}},
		{"the greatest corner", at(far, far), at(far, far), []api.Cell{
			{X: 31, Z: 31, First: rat(0, 1), Last: rat(1, 1)},
			{X: 32, Z: 31, First: rat(0, 1), Last: rat(1, 1)},
			{X: 31, Z: 32, First: rat(0, 1), Last: rat(1, 1)},
			{X: 32, Z: 32, First: rat(0, 1), Last: rat(1, 1)},
		}},
		{"within one column", at(1, 1), at(2, 0), []api.Cell{
			{X: 0, Z: 0, First: rat(0, 1), Last: rat(1, 1)},
			{X: 0, Z: -1, First: rat(1, 1), Last: rat(1, 1)},
			{X: 1, Z: -1, First: rat(1, 1), Last: rat(1, 1)},
			{X: 1, Z: 0, First: rat(1, 1), Last: rat(1, 1)},
		}},
		{"along a side", at(2, 1), at(2, 3), []api.Cell{
			{X: 0, Z: 0, First: rat(0, 1), Last: rat(1, 2)},
			{X: 1, Z: 0, First: rat(0, 1), Last: rat(1, 2)},
			{X: 0, Z: 1, First: rat(1, 2), Last: rat(1, 1)},
			{X: 1, Z: 1, First: rat(1, 2), Last: rat(1, 1)},
		}},
		{"along the world's side", at(far, 63), at(far, 64), []api.Cell{
			{X: 31, Z: 31, First: rat(0, 1), Last: rat(1, 1)},
			{X: 32, Z: 31, First: rat(0, 1), Last: rat(1, 1)},
			{X: 31, Z: 32, First: rat(1, 1), Last: rat(1, 1)},
			{X: 32, Z: 32, First: rat(1, 1), Last: rat(1, 1)},
		}},
		{"through corners, the other diagonal, back", at(3, 1), at(1, 3), []api.Cell{
			{X: 1, Z: 0, First: rat(0, 1), Last: rat(1, 2)},
			{X: 0, Z: 0, First: rat(1, 2), Last: rat(1, 2)},
			{X: 0, Z: 1, First: rat(1, 2), Last: rat(1, 1)},
			{X: 1, Z: 1, First: rat(1, 2), Last: rat(1, 2)},
		}},
		{"shares in lowest terms", at(1, 1), at(7, 3), []api.Cell{
			{X: 0, Z: 0, First: rat(0, 1), Last: rat(1, 6)},
			{X: 1, Z: 0, First: rat(1, 6), Last: rat(1, 2)},
			{X: 2, Z: 0, First: rat(1, 2), Last: rat(1, 2)},
			{X: 1, Z: 1, First: rat(1, 2), Last: rat(1, 2)},
			{X: 2, Z: 1, First: rat(1, 2), Last: rat(5, 6)},
			{X: 3, Z: 1, First: rat(5, 6), Last: rat(1, 1)},
		}},
		{"shares of unlike Den", at(0, 1), at(3, 6), []api.Cell{
			{X: -1, Z: 0, First: rat(0, 1), Last: rat(0, 1)},
			{X: 0, Z: 0, First: rat(0, 1), Last: rat(1, 5)},
			{X: 0, Z: 1, First: rat(1, 5), Last: rat(3, 5)},
			{X: 0, Z: 2, First: rat(3, 5), Last: rat(2, 3)},
			{X: 1, Z: 2, First: rat(2, 3), Last: rat(1, 1)},
			{X: 1, Z: 3, First: rat(1, 1), Last: rat(1, 1)},
		}},
	} {
		if l, e := Cells(c.a, c.b); e != api.OK || !slices.Equal(l, c.want) {
			t.Errorf("%s: Cells(%v, %v) = %v, %v; want %v", c.name, c.a, c.b, l, e, c.want)
		}
	}
}

func TestCellsOfAllSmallSegments(t *testing.T) {
	for _, lo := range []int{0, 29, far - 6} {
		for _, a := range square(lo, lo+6) {
			for _, b := range square(lo, lo+6) {
				checkCells(t, a, b)
			}
		}
	}
}

func TestCellsOfSegmentsThroughTheWorld(t *testing.T) {
	for _, a := range edge() {
		for _, b := range edge() {
			checkCells(t, a, b)
		}
	}
	for _, c := range [][2]api.Point{{at(7, 3), at(58, 40)}, {at(61, 2), at(1, 63)}, {at(0, 17), at(64, 18)}, {at(35, 64), at(34, 0)}, {at(13, 13), at(50, 50)}} {
		checkCells(t, c[0], c[1])
		checkCells(t, c[1], c[0])
	}
}

func TestCellsReachColumnsBesideTheWorld(t *testing.T) {
	l, _ := Cells(at(0, 0), at(far, far))
	first, last := l[0], l[len(l)-1]
	if first.X != -1 || first.Z != -1 || last.X != side || last.Z != side {
		t.Errorf("from %v to %v", first, last)
	}
	if len(l) != 34+2*33 { // the 34 on the way, and two at each of 33 corners
		t.Errorf("%d columns", len(l))
	}
	l, _ = Cells(at(0, far), at(far, far))
	if len(l) != 2*34 { // both rows along the world's side
		t.Errorf("%d columns", len(l))
	}
}

// bad goes over all pairs of points of which one or both are none.
func bad(check func(a, b api.Point)) {
	for _, p := range none() {
		for _, q := range []api.Point{at(0, 0), at(1, 1), at(far, far)} {
			check(p, q)
			check(q, p)
		}
		check(p, p)
	}
}

func TestCellsRefuseWhatIsNoPoint(t *testing.T) {
	bad(func(a, b api.Point) {
		if l, e := Cells(a, b); e != api.ErrArg || len(l) != 0 {
			t.Errorf("Cells(%v, %v) = %v, %v", a, b, l, e)
		}
	})
}

func TestCellsTakeThePointsAtTheBounds(t *testing.T) {
	for _, a := range pairs(0, far) {
		for _, b := range pairs(0, far) {
			if l, e := Cells(a, b); e != api.OK || len(l) == 0 {
				t.Errorf("Cells(%v, %v) = %v, %v", a, b, l, e)
			}
		}
	}
}

func TestCellsAnswerNewMemory(t *testing.T) {
	l, _ := Cells(at(1, 1), at(7, 3))
	want := slices.Clone(l)
	clear(l)
	if again, _ := Cells(at(1, 1), at(7, 3)); !slices.Equal(again, want) {
		t.Errorf("%v; want %v", again, want)
	}
}

func TestEachGoesOverTheCells(t *testing.T) {
	for _, a := range edge() {
		for _, b := range edge() {
			want, _ := Cells(a, b)
			n := 0
			for i, c := range Each(a, b) {
				if i != n || n >= len(want) || c != want[n] {
					t.Fatalf("Each(%v, %v): %d, %v at place %d of %v", a, b, i, c, n, want)
				}
				n++
			}
			if n != len(want) {
				t.Fatalf("Each(%v, %v): %d of %d", a, b, n, len(want))
			}
		}
	}
}

func TestEachMayBeLeftEarlyAndGoneOverAgain(t *testing.T) {
	want, _ := Cells(at(1, 1), at(7, 3))
	each := Each(at(1, 1), at(7, 3))
	for stop := range len(want) {
		n := 0
		// Called as it is: a range would fail by itself, were it called once more.
		each(func(i int, c api.Cell) bool {
			if i != n || c != want[n] {
				t.Errorf("%d, %v at place %d", i, c, n)
			}
			n++
			return n <= stop
		})
		if n != stop+1 {
			t.Errorf("left at %d, it went on to %d", stop, n)
		}
	}
	n := 0
	for range each {
		for i, c := range each {
			if c != want[i] {
				t.Errorf("%d, %v within another range", i, c)
			}
			n++
		}
	}
	if n != len(want)*len(want) {
		t.Errorf("%d in ranges within ranges", n)
	}
}

func TestEachGoesOverNoneBesideAnError(t *testing.T) {
	bad(func(a, b api.Point) {
		each := Each(a, b)
		if each == nil {
			t.Fatalf("Each(%v, %v) is nil", a, b)
		}
		for i, c := range each {
			t.Errorf("Each(%v, %v): %d, %v", a, b, i, c)
		}
	})
}

func TestMeetsTable(t *testing.T) {
	for _, c := range []struct {
		a, b api.Point
		x, z int
		want bool
	}{
		{at(1, 1), at(3, 1), 0, 0, true},
		{at(1, 1), at(3, 1), 1, 0, true},
		{at(1, 1), at(3, 1), 2, 0, false},
		{at(1, 1), at(3, 1), 0, 1, false},
		{at(1, 1), at(3, 3), 1, 0, true}, // in one corner
		{at(1, 1), at(3, 3), 2, 2, false},
		{at(2, 2), at(2, 2), 1, 1, true},
		{at(2, 2), at(2, 2), 2, 1, false},
		{at(1, 1), at(2, 1), 1, 0, true}, // its end, on a side
		{at(0, 3), at(1, 5), 1, 1, false},
		{at(1, 0), at(5, 3), 1, 1, true},
		{at(1, 0), at(5, 3), 0, 1, false},
		{at(0, 5), at(0, 5), -1, 2, true},
		{at(1, 5), at(1, 5), -1, 2, false},
		{at(far, 5), at(far, 5), side, 2, true},
		{at(far-1, 5), at(far-1, 5), side, 2, false},
		{at(5, far), at(5, far), 2, side, true},
		{at(5, 0), at(5, 0), 2, -1, true},
		{at(5, 0), at(5, far), 2, -2, false},
		{at(5, 0), at(5, far), 2, side + 1, false},
	} {
		if got := Meets(c.a, c.b, c.x, c.z); got != c.want {
			t.Errorf("Meets(%v, %v, %d, %d) = %v", c.a, c.b, c.x, c.z, got)
		}
	}
}

func checkMeets(t *testing.T, a, b api.Point, lo, hi int) {
	t.Helper()
	way := step(a, b)
	for z := lo; z <= hi; z++ {
		for x := lo; x <= hi; x++ {
			if got := Meets(a, b, x, z); got != way.meets(x, z) {
				t.Fatalf("Meets(%v, %v, %d, %d) = %v", a, b, x, z, got)
			}
		}
	}
}

func TestMeetsOfAllSmallSegments(t *testing.T) {
	for _, lo := range []int{0, far - 6} {
		for _, a := range square(lo, lo+6) {
			for _, b := range square(lo, lo+6) {
				checkMeets(t, a, b, lo/2-3, lo/2+6)
			}
		}
	}
}

func TestMeetsOfSegmentsThroughTheWorld(t *testing.T) {
	for _, a := range pairs(0, 1, 32, 63, 64) {
		for _, b := range pairs(0, 1, 32, 63, 64) {
			checkMeets(t, a, b, -4, side+4)
		}
	}
}

// farColumns are numbers of which twice is, or one more is, near the world again once it has run over.
var farColumns = []int{-2, side + 1, math.MinInt, math.MinInt + 1, math.MinInt + 2, math.MinInt / 2, math.MinInt/2 + 1, math.MaxInt / 2, math.MaxInt/2 + 1, math.MaxInt - 1, math.MaxInt, -great, great}

func TestMeetsNoColumnFarAway(t *testing.T) {
	for _, a := range pairs(0, 1, 2, 5, far) {
		for _, b := range pairs(0, 1, 2, 5, far) {
			for _, n := range farColumns {
				for _, near := range []int{-1, 0, 1, side - 1, side} {
					if Meets(a, b, n, near) || Meets(a, b, near, n) || Meets(a, b, n, n) {
						t.Fatalf("(%v, %v) meets a column of number %d", a, b, n)
					}
				}
			}
		}
	}
}

func TestMeetsIsFalseOfWhatIsNoPoint(t *testing.T) {
	bad(func(a, b api.Point) {
		for x := -2; x <= side+1; x++ {
			for z := -2; z <= side+1; z++ {
				if Meets(a, b, x, z) {
					t.Fatalf("Meets(%v, %v, %d, %d)", a, b, x, z)
				}
			}
		}
	})
}

func TestShareTable(t *testing.T) {
	for _, c := range []struct {
		name string
		a, b api.Point
		c, d api.Cell
		want bool
	}{
		{"neighbours", at(1, 1), at(5, 1), cell(1, 0), cell(2, 0), true},
		{"not neighbours", at(1, 1), at(5, 1), cell(0, 0), cell(2, 0), false},
		{"over a corner", at(1, 1), at(3, 3), cell(0, 0), cell(1, 1), true},
		{"beside a corner", at(1, 1), at(3, 3), cell(1, 0), cell(0, 1), true},
		{"neighbours that share other points only", at(1, 1), at(5, 5), cell(1, 0), cell(2, 1), false},
		{"both of one row, met one behind the other", at(0, 1), at(3, 6), cell(0, 1), cell(0, 2), true},
		{"apart by one column between", at(0, 1), at(3, 6), cell(0, 1), cell(1, 2), false},
		{"one column", at(1, 1), at(5, 1), cell(1, 0), cell(1, 0), true},
		{"one column that is not met", at(1, 1), at(5, 1), cell(1, 1), cell(1, 1), false},
		{"one of them is not met", at(1, 1), at(5, 1), cell(1, 0), cell(1, 1), false},
		{"the other one is not met", at(1, 1), at(5, 1), cell(1, 1), cell(1, 0), false},
		{"a point", at(2, 2), at(2, 2), cell(0, 0), cell(1, 1), true},
		{"a point, and a column beside it", at(2, 2), at(2, 2), cell(0, 0), cell(2, 1), false},
		{"along a side", at(2, 0), at(2, 8), cell(0, 2), cell(1, 2), true},
		{"beside the world", at(0, 0), at(0, 4), cell(-1, -1), cell(0, 0), true},
		{"beside the world, at its end", at(far, far), at(0, 1), cell(31, 32), cell(32, 31), true},
	} {
		if Share(c.a, c.b, c.c, c.d) != c.want || Share(c.a, c.b, c.d, c.c) != c.want {
			t.Errorf("%s: Share(%v, %v, %v, %v) isn't %v", c.name, c.a, c.b, c.c, c.d, c.want)
		}
	}
}

func (t *trace) shares() map[[2]api.Cell]bool {
	m := map[[2]api.Cell]bool{}
	for _, here := range t.steps {
		for _, c := range here {
			for _, d := range here {
				m[[2]api.Cell{c, d}] = true
			}
		}
	}
	return m
}

func checkShare(t *testing.T, a, b api.Point, cs []api.Cell) {
	t.Helper()
	want := step(a, b).shares()
	for _, c := range cs {
		for _, d := range cs {
			if got := Share(a, b, c, d); got != want[[2]api.Cell{c, d}] {
				t.Fatalf("Share(%v, %v, %v, %v) = %v", a, b, c, d, got)
			}
		}
	}
}

func columns(lo, hi int) []api.Cell {
	var cs []api.Cell
	for z := lo; z <= hi; z++ {
		for x := lo; x <= hi; x++ {
			cs = append(cs, cell(x, z))
		}
	}
	return cs
}

func TestShareOfAllSmallSegments(t *testing.T) {
	for _, lo := range []int{0, far - 4} {
		for _, a := range square(lo, lo+4) {
			for _, b := range square(lo, lo+4) {
				checkShare(t, a, b, columns(lo/2-2, lo/2+3))
			}
		}
	}
}

func TestShareOfSegmentsThroughTheWorld(t *testing.T) {
	for _, c := range [][2]api.Point{{at(0, 0), at(64, 64)}, {at(7, 3), at(58, 40)}, {at(61, 2), at(1, 63)}, {at(0, 17), at(64, 18)}, {at(35, 64), at(34, 0)}, {at(32, 0), at(32, 64)}} {
		l, _ := Cells(c[0], c[1])
		for i := range l {
			l[i] = cell(l[i].X, l[i].Z)
		}
		checkShare(t, c[0], c[1], l)
	}
}

func TestShareGoesByTheNumbersOfColumnsAlone(t *testing.T) {
	a, b := at(1, 1), at(7, 3)
	for _, c := range columns(-1, 4) {
		for _, d := range columns(-1, 4) {
			want := Share(a, b, c, d)
			for _, r := range []api.Ratio{{}, rat(1, 1), rat(-5, 3), rat(9, 1), rat(math.MinInt, math.MaxInt), rat(1, -1)} {
				p, q := c, d
				p.First, q.Last = r, r
				p.Last, q.First = rat(3, 0), rat(7, 2)
				if Share(a, b, p, q) != want {
					t.Fatalf("Share(%v, %v, %v, %v) isn't %v", a, b, p, q, want)
				}
			}
		}
	}
}

func TestShareIsFalseOfColumnsFarAway(t *testing.T) {
	for _, n := range farColumns {
		for _, c := range []api.Cell{cell(n, 0), cell(0, n), cell(n, n)} {
			for _, p := range []api.Point{at(0, 0), at(1, 1), at(far, far)} {
				if Share(at(0, 0), p, cell(0, 0), c) || Share(at(0, 0), p, c, cell(0, 0)) || Share(at(0, 0), p, c, c) {
					t.Errorf("(0, 0) to %v: %v is shared", p, c)
				}
			}
		}
	}
}

func TestShareIsFalseOfWhatIsNoPoint(t *testing.T) {
	bad(func(a, b api.Point) {
		for _, c := range []api.Cell{cell(-1, -1), cell(0, 0), cell(2, 2), cell(31, 31), cell(32, 32)} {
			if Share(a, b, c, c) || Share(a, b, c, cell(0, 0)) || Share(a, b, cell(0, 0), c) {
				t.Errorf("Share(%v, %v, %v, ..)", a, b, c)
			}
		}
	})
}

func TestLessTable(t *testing.T) {
	for _, c := range []struct {
		p, q api.Ratio
		want bool
	}{
		{rat(1, 3), rat(1, 2), true},
		{rat(1, 2), rat(1, 3), false},
		{rat(1, 2), rat(1, 2), false},
		{rat(2, 4), rat(1, 2), false}, // the same number, not in lowest terms
		{rat(1, 2), rat(2, 4), false},
		{rat(-1, 2), rat(-1, 3), true},
		{rat(-1, 3), rat(-1, 2), false},
		{rat(-1, 2), rat(0, 1), true},
		{rat(0, 5), rat(0, 1), false},
		{rat(-great, 1), rat(great, 1), true},
		{rat(great, 1), rat(-great, 1), false},
		{rat(great, 1), rat(great, 1), false},
		{rat(great-1, great), rat(great, great), true},
		{rat(great-1, great), rat(great-2, great-1), false},
		{rat(great-2, great-1), rat(great-1, great), true},
		{rat(1, great), rat(1, great-1), true},
		{rat(-great, great-1), rat(-1, 1), true},
		{rat(1, 0), rat(2, 1), false},
		{rat(0, 1), rat(1, 0), false},
		{rat(0, 0), rat(0, 0), false},
		{rat(1, -1), rat(2, 1), false},
		{rat(-2, 1), rat(1, -1), false},
		{rat(0, great+1), rat(1, 1), false},
		{rat(0, 1), rat(1, great+1), false},
		{rat(-great-1, 1), rat(0, 1), false},
		{rat(0, 1), rat(great+1, 1), false},
		{rat(0, math.MaxInt), rat(1, 1), false},
		{rat(math.MinInt, 1), rat(0, 1), false},
	} {
		if got := Less(c.p, c.q); got != c.want {
			t.Errorf("Less(%v, %v) = %v", c.p, c.q, got)
		}
	}
}

// oddRatios are all that have numbers at and beside the bounds, between them and far beyond them.
func oddRatios() []api.Ratio {
	var l []api.Ratio
	for _, num := range []int{math.MinInt, -great - 1, -great, 1 - great, -1, 0, 1, 3, great - 1, great, great + 1, math.MaxInt} {
		for _, den := range []int{math.MinInt, -great, -1, 0, 1, 2, 3, great - 1, great, great + 1, 1 << 62, math.MaxInt} {
			l = append(l, rat(num, den))
		}
	}
	return l
}

func TestLessAgainstWideNumbers(t *testing.T) {
	may := func(r api.Ratio) bool {
		return r.Den >= 1 && r.Den <= great && r.Num >= -great && r.Num <= great
	}
	for _, p := range oddRatios() {
		for _, q := range oddRatios() {
			want := may(p) && may(q) &&
				big.NewRat(int64(p.Num), int64(p.Den)).Cmp(big.NewRat(int64(q.Num), int64(q.Den))) < 0
			if got := Less(p, q); got != want {
				t.Errorf("Less(%v, %v) = %v", p, q, got)
			}
		}
	}
}

// follows checks P3.3 of one segment.
func follows(t *testing.T, a, b api.Point) {
	t.Helper()
	l, _ := Cells(a, b)
	back, _ := Cells(b, a)
	there := map[api.Cell]bool{}
	for _, c := range l {
		if a != b { // turned, what comes first comes last
			c.First, c.Last = rest(c.Last), rest(c.First)
		}
		there[c] = true
	}
	for _, c := range back {
		if !there[c] {
			t.Fatalf("(%v, %v): %v is only there if it is turned", a, b, c)
		}
	}
	if len(back) != len(l) {
		t.Fatalf("(%v, %v): %d columns, turned %d", a, b, len(l), len(back))
	}
	for i, c := range l {
		if i > 0 && !slices.ContainsFunc(l[:i], func(d api.Cell) bool { return Share(a, b, c, d) }) {
			t.Fatalf("(%v, %v): %v shares no point with one ahead of it", a, b, c)
		}
	}
	if !told(l, a) || !told(l, b) {
		t.Fatalf("(%v, %v): not both ends lie in %v", a, b, l)
	}
}

// rest is 1 less r.
func rest(r api.Ratio) api.Ratio { return rat(r.Den-r.Num, r.Den) }

func told(l []api.Cell, p api.Point) bool {
	return slices.ContainsFunc(l, func(c api.Cell) bool {
		return size(p.X-2*c.X-1) <= 1 && size(p.Z-2*c.Z-1) <= 1
	})
}

func TestWhatFollowsOfAllSmallSegments(t *testing.T) {
	for _, a := range square(0, 6) {
		for _, b := range square(0, 6) {
			follows(t, a, b)
		}
	}
}

func TestWhatFollowsOfSegmentsThroughTheWorld(t *testing.T) {
	for _, a := range pairs(0, 1, 31, 32, 63, 64) {
		for _, b := range pairs(0, 1, 31, 32, 63, 64) {
			follows(t, a, b)
		}
	}
}
