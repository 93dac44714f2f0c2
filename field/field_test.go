package field

import (
	"math"
	"slices"
	"strings"
	"testing"

	"footpath/api"
	"footpath/links"
	"footpath/open"
	"footpath/whole"
)

const (
	high     = 2048 // the greatest height
	most     = 8    // floors of a column
	mostArea = 7
	sky      = 1 << 20 // where the room above the topmost floor ends
	far      = 64      // where grids may begin, and how wide they may be
)

// extremes are such as run over if one adds to them, multiplies them, turns them round, or keeps half of their bits.
var extremes = []int{math.MinInt, math.MinInt + 1, math.MinInt / 2, -1 << 58, -1 << 40, -1<<32 - 1, -1 << 32, 1 << 32, 1<<32 + 1, 1 << 40, 1 << 58, 1 << 62, math.MaxInt - 1, math.MaxInt}

// config is one that may be, of that Clear, of Climb 1 and Height 3.
func config(clear int) api.Config {
	return api.Config{Clear: clear, Climb: 1, Height: 3, Run: 1, W: 8, D: 8}
}

// climbing is one of that Clear and Climb, and one more Height.
func climbing(clear, climb int) api.Config {
	return api.Config{Clear: clear, Climb: climb, Height: climb + 1, Run: 1, W: 8, D: 8}
}

func f(y, top, area int) api.Floor { return api.Floor{Y: y, Top: top, Area: area} }

// p is a floor of area 1.
func p(y, top int) api.Floor { return f(y, top, 1) }

func col(l ...api.Floor) []api.Floor { return l }

// at is where a floor is: its column, and its place there.
type at struct{ x, z, k int }

// goodConfigs may be, at each bound.
func goodConfigs() []api.Config {
	return []api.Config{
		{Clear: 0, Climb: 0, Height: 1, Rise: 0, Run: 1, W: 1, D: 1},
		{Clear: 3, Climb: 8, Height: 32, Rise: 100, Run: 100, W: 32, D: 32},
		{Clear: 3, Climb: 8, Height: 9, Rise: 100, Run: 1, W: 32, D: 1},
		{Clear: 1, Climb: 0, Height: 32, Rise: 0, Run: 100, W: 1, D: 32},
		{Clear: 2, Climb: 2, Height: 3, Rise: 7, Run: 9, W: 8, D: 20},
	}
}

// wrongConfigs have one field past its bounds, or nothing that may be.
func wrongConfigs() []api.Config {
	l := []api.Config{{}, {Height: 3}, {Height: -1, Climb: -3}}
	for _, good := range goodConfigs() {
		for i, bad := range [][]int{{-1, 4}, {-1, 9, good.Height}, {33, good.Climb, 0, -1}, {-1, 101}, {0, -1, 101}, {0, -1, 33}, {0, -1, 33}} {
			for _, n := range slices.Concat(bad, extremes) {
				c := good
				*[]*int{&c.Clear, &c.Climb, &c.Height, &c.Rise, &c.Run, &c.W, &c.D}[i] = n
				l = append(l, c)
			}
		}
	}
	return l
}

// P14.1: each Clear that may be, one below 0, one past MaxClear; configs at each bound.
func TestCap(t *testing.T) {
	for clear, want := range []int{3, 4, 5, 6} {
		c := config(clear)
		if n := Cap(c); n != want {
			t.Errorf("Cap(%v) = %d", c, n)
		}
		for _, c := range goodConfigs() {
			c.Clear = clear
			if n := Cap(c); n != want {
				t.Errorf("Cap(%v) = %d", c, n)
			}
		}
	}
	for _, clear := range slices.Concat(extremes, []int{-4, -3, -2, -1, 4, 5, 1<<32 + 2, math.MaxInt - 3}) {
		if n := Cap(config(clear)); n != 0 {
			t.Errorf("Cap of Clear %d is %d", clear, n)
		}
	}
	for _, c := range goodConfigs() {
		if n := Cap(c); n != c.Clear+3 {
			t.Errorf("Cap(%v) = %d", c, n)
		}
	}
	for _, c := range wrongConfigs() {
		if e := whole.Check(c); e != api.ErrConfig {
			t.Fatalf("Check(%v) = %v", c, e)
		}
		if n := Cap(c); n != 0 {
			t.Errorf("Cap(%v) = %d", c, n)
		}
	}
}

// P14.1: the edges that there are, by name.
func TestLeast(t *testing.T) {
	for _, x := range []struct {
		name string
		l    [][]int
		want int
		ok   bool
	}{
		{"none", nil, 0, false},
		{"no row", [][]int{}, 0, false},
		{"a row of nothing", [][]int{{}}, 0, false},
		{"a row that is nil", [][]int{nil}, 0, false},
		{"rows of nothing", [][]int{{}, nil, {}, nil}, 0, false},
		{"one number", [][]int{{7}}, 7, true},
		{"one number, 0", [][]int{{0}}, 0, true},
		{"one number below 0", [][]int{{-7}}, -7, true},
		{"the first", [][]int{{1, 2, 3}}, 1, true},
		{"the last", [][]int{{3, 2, 1}}, 1, true},
		{"between", [][]int{{3, 1, 2}}, 1, true},
		{"twice", [][]int{{3, 1, 2, 1}, {1, 5}}, 1, true},
		{"all alike", [][]int{{4, 4}, {4}}, 4, true},
		{"in the first row", [][]int{{2, 9}, {3, 4}, {5}}, 2, true},
		{"in the last row", [][]int{{3, 4}, {5}, {9, 2}}, 2, true},
		{"in the row between", [][]int{{3, 4}, {2}, {9, 5}}, 2, true},
		{"behind rows of nothing", [][]int{{}, nil, {6, 5}}, 5, true},
		{"ahead of rows of nothing", [][]int{{6, 5}, nil, {}}, 5, true},
		{"between rows of nothing", [][]int{nil, {6, 5}, nil, {8}, {}}, 5, true},
		{"the chapter's neighbours", [][]int{{}, {5, 3}, {4}}, 3, true},
		{"below 0 among others", [][]int{{0, 3}, {-1}, {2}}, -1, true},
		{"all below 0", [][]int{{-1, -3}, {-2}}, -3, true},
		{"0 is the least", [][]int{{4}, {0}, {3}}, 0, true},
		{"the least that there is", [][]int{{math.MaxInt, 0}, {math.MinInt}, {-1}}, math.MinInt, true},
		{"the greatest alone", [][]int{{math.MaxInt}, {}}, math.MaxInt, true},
		{"next to the greatest", [][]int{{math.MaxInt, math.MaxInt - 1}}, math.MaxInt - 1, true},
		{"one more than the least", [][]int{{math.MaxInt}, {math.MinInt + 1}}, math.MinInt + 1, true},
	} {
		if n, ok := Least(x.l); n != x.want || ok != x.ok {
			t.Errorf("%s: Least(%v) = %d, %v", x.name, x.l, n, ok)
		}
	}
}

// rows are all lists of up to so many rows, each of up to two of those numbers.
func rows(n int, of []int) [][][]int {
	one := [][]int{nil}
	for _, a := range of {
		one = append(one, []int{a})
		for _, b := range of {
			one = append(one, []int{a, b})
		}
	}
	all, last := [][][]int{nil}, [][][]int{nil}
	for range n {
		var next [][][]int
		for _, l := range last {
			for _, row := range one {
				next = append(next, append(slices.Clone(l), row))
			}
		}
		all, last = append(all, next...), next
	}
	return all
}

// P14.1: the least is one of the numbers, and at most each other one; all short lists.
func TestLeastOfAllShortLists(t *testing.T) {
	for _, l := range rows(3, []int{-1, 0, 2}) {
		n, ok := Least(l)
		some, there, above := false, false, false
		for _, row := range l {
			for _, i := range row {
				some, there, above = true, there || i == n, above || i < n
			}
		}
		if ok != some || there != some || above || !some && n != 0 {
			t.Fatalf("Least(%v) = %d, %v", l, n, ok)
		}
	}
}

// sameHolds has Same answer so, both ways about.
func sameHolds(t *testing.T, a, b [][]int, want bool) {
	t.Helper()
	for _, got := range []bool{Same(a, b), Same(b, a)} {
		if got != want {
			t.Fatalf("Same(%v, %v) = %v", a, b, got)
		}
	}
}

// P14.1: the edges that there are, by name; each list is the same as itself.
func TestSame(t *testing.T) {
	for _, x := range []struct {
		name string
		a, b [][]int
		want bool
	}{
		{"none and none", nil, nil, true},
		{"nothing and none", [][]int{}, nil, true},
		{"nothing and none, of a row", [][]int{{}}, [][]int{nil}, true},
		{"nothing and none, among others", [][]int{nil, {1}, {}}, [][]int{{}, {1}, nil}, true},
		{"no row and a row of nothing", nil, [][]int{{}}, false},
		{"no row and a row that is nil", [][]int{}, [][]int{nil}, false},
		{"a row of nothing more, behind", [][]int{{1}}, [][]int{{1}, {}}, false},
		{"a row of nothing more, ahead", [][]int{{1}}, [][]int{nil, {1}}, false},
		{"a row more, behind", [][]int{{1}, {2}}, [][]int{{1}, {2}, {3}}, false},
		{"a row more, ahead", [][]int{{1}, {2}}, [][]int{{3}, {1}, {2}}, false},
		{"a row more, the same again", [][]int{{1}}, [][]int{{1}, {1}}, false},
		{"a number more, behind", [][]int{{1, 2}, {4}}, [][]int{{1, 2, 3}, {4}}, false},
		{"a number more, ahead", [][]int{{1, 2}, {4}}, [][]int{{3, 1, 2}, {4}}, false},
		{"a number more in the last row", [][]int{{1}, {4}}, [][]int{{1}, {4, 4}}, false},
		{"a number in the place of nothing", [][]int{{1}, {}}, [][]int{{1}, {0}}, false},
		{"another number first", [][]int{{1, 2, 3}, {4}}, [][]int{{0, 2, 3}, {4}}, false},
		{"another number between", [][]int{{1, 2, 3}, {4}}, [][]int{{1, 0, 3}, {4}}, false},
		{"another number last", [][]int{{1, 2, 3}, {4}}, [][]int{{1, 2, 0}, {4}}, false},
		{"another number in the last row", [][]int{{1, 2, 3}, {4}}, [][]int{{1, 2, 3}, {5}}, false},
		{"another number in the row between", [][]int{{1}, {2}, {3}}, [][]int{{1}, {-2}, {3}}, false},
		{"rows in another order", [][]int{{1}, {2}}, [][]int{{2}, {1}}, false},
		{"numbers in another order", [][]int{{1, 2}}, [][]int{{2, 1}}, false},
		{"numbers parted otherwise", [][]int{{1, 2}, {3}}, [][]int{{1}, {2, 3}}, false},
		{"numbers far off", [][]int{{math.MinInt}, {math.MaxInt}}, [][]int{{math.MinInt}, {math.MaxInt}}, true},
		{"numbers alike in half of their bits", [][]int{{1 << 32}}, [][]int{{0}}, false},
		{"numbers alike but for the first bit", [][]int{{math.MinInt + 5}}, [][]int{{5}}, false},
	} {
		t.Run(x.name, func(t *testing.T) {
			sameHolds(t, x.a, x.b, x.want)
			sameHolds(t, x.a, x.a, true)
			sameHolds(t, x.b, x.b, true)
			sameHolds(t, x.a, copiedRows(x.a), true)
		})
	}
}

func copiedRows(l [][]int) [][]int {
	l = slices.Clone(l)
	for i := range l {
		l[i] = slices.Clone(l[i])
	}
	return l
}

// told is a list as a text, so that unlike lists have unlike texts.
func told(l [][]int) string {
	var s strings.Builder
	for _, row := range l {
		for _, n := range row {
			s.WriteString(string(rune('5' + n)))
		}
		s.WriteString("/")
	}
	return s.String()
}

// P14.1: all short lists against each other, told as texts.
func TestSameOfAllShortLists(t *testing.T) {
	all := rows(2, []int{-1, 0, 2})
	for _, a := range all {
		for _, b := range all {
			sameHolds(t, a, b, told(a) == told(b))
		}
	}
}

// zeros are as many rows as columns, each of as many noughts as floors.
func zeros(g api.Grid) [][]int {
	var l [][]int
	for _, column := range g.Floors {
		l = append(l, make([]int, len(column)))
	}
	return l
}

func fitsHolds(t *testing.T, g api.Grid, l [][]int, want bool) {
	t.Helper()
	was, wasRows := copied(g), copiedRows(l)
	if got := Fits(g, l); got != want {
		t.Fatalf("Fits(%v, %v) = %v", g, l, got)
	}
	if !alike(g, was) || told(l) != told(wasRows) {
		t.Fatalf("of %v and %v, %v and %v are left", was, wasRows, g, l)
	}
}

// P14.1: rows that fit; in each row one number more and less, a number at 0, below 0, as great as an int holds; a row more and less, at either side.
func TestFits(t *testing.T) {
	for _, g := range goodGrids() {
		fitsHolds(t, g, zeros(g), true)
		fitsHolds(t, g, append(zeros(g), nil), false)
		fitsHolds(t, g, append(zeros(g), []int{}), false)
		fitsHolds(t, g, append(zeros(g), []int{0}), false)
		fitsHolds(t, g, append([][]int{nil}, zeros(g)...), false)
		if len(g.Floors) == 0 {
			fitsHolds(t, g, nil, true)
			fitsHolds(t, g, [][]int{}, true)
			continue
		}
		fitsHolds(t, g, nil, false)
		fitsHolds(t, g, zeros(g)[1:], false)
		fitsHolds(t, g, zeros(g)[:len(g.Floors)-1], false)
		for i := range g.Floors {
			l := zeros(g)
			l[i] = append(l[i], 0)
			fitsHolds(t, g, l, false)
			if l = zeros(g); len(l[i]) == 0 {
				l[i] = nil
				fitsHolds(t, g, l, true)
				l[i] = []int{}
				fitsHolds(t, g, l, true)
				continue
			}
			l[i] = l[i][1:]
			fitsHolds(t, g, l, false)
			l[i] = nil
			fitsHolds(t, g, l, false)
			for k := range g.Floors[i] {
				for _, n := range slices.Concat(extremes, []int{-2, -1, 0, 1, 3, 6, 7, 100}) {
					l := zeros(g)
					l[i][k] = n
					fitsHolds(t, g, l, n >= 0)
				}
			}
		}
	}
}

// P14.1: rows of other columns than theirs: as many numbers in all, and as many rows, do not do.
func TestFitsColumnByColumn(t *testing.T) {
	g := api.Grid{X: -3, Z: 9, W: 2, D: 2, Floors: [][]api.Floor{col(p(0, 9)), nil, col(p(0, 4), p(4, 9)), col(p(-9, -5), p(0, 4), p(4, 9))}}
	for _, x := range []struct {
		l    [][]int
		want bool
	}{
		{[][]int{{1}, {}, {2, 3}, {4, 5, 6}}, true},
		{[][]int{{1}, nil, {2, 3}, {4, 5, 6}}, true},
		{[][]int{{}, {1}, {2, 3}, {4, 5, 6}}, false},
		{[][]int{{1, 1}, {}, {2}, {4, 5, 6}}, false},
		{[][]int{{1}, {}, {4, 5, 6}, {2, 3}}, false},
		{[][]int{{1}, {2, 3}, {4, 5, 6}}, false},
		{[][]int{{1, 2, 3, 4, 5, 6}}, false},
		{[][]int{{1}, {}, {2, 3}, {4, 5}}, false},
		{[][]int{{1}, {}, {2, 3}, {4, 5, -6}}, false},
		{[][]int{{-1}, {}, {2, 3}, {4, 5, 6}}, false},
	} {
		fitsHolds(t, g, x.l, x.want)
	}
}

// P14.1: a grid that may not be, in each way, with rows that would fit otherwise.
func TestFitsOfWrongGrids(t *testing.T) {
	for _, g := range wrongGrids() {
		fitsHolds(t, g, zeros(g), false)
		fitsHolds(t, g, nil, false)
		fitsHolds(t, g, [][]int{{}}, false)
	}
}

// beside is the column that a direction leads to.
func beside(x, z, dir int) (int, int) {
	switch dir {
	case 0:
		return x + 1, z
	case 1:
		return x, z + 1
	case 2:
		return x - 1, z
	default:
		return x, z - 1
	}
}

// stood are a grid's floors by where they are, told by counting columns on.
func stood(g api.Grid) map[at]api.Floor {
	m := map[at]api.Floor{}
	i := 0
	for z := g.Z; z < g.Z+g.D; z++ {
		for x := g.X; x < g.X+g.W; x++ {
			for k, a := range g.Floors[i] {
				m[at{x, z, k}] = a
			}
			i++
		}
	}
	return m
}

func joined(c api.Config, a, b api.Floor) bool {
	up := a.Y - b.Y
	return a.Area > 0 && b.Area > 0 && up <= c.Climb && -up <= c.Climb &&
		a.Top-a.Y >= c.Height && a.Top-b.Y >= c.Height && b.Top-a.Y >= c.Height && b.Top-b.Y >= c.Height
}

// led are all floors of the column beside one in a direction that are linked with it.
func led(c api.Config, m map[at]api.Floor, from at, dir int) []at {
	var l []at
	x, z := beside(from.x, from.z, dir)
	for k := range most {
		to := at{x, z, k}
		if b, ok := m[to]; ok && joined(c, m[from], b) {
			l = append(l, to)
		}
	}
	return l
}

// eightOf are, of each floor, those of its eight that there are: told by going through all floors of the columns beside.
func eightOf(c api.Config, m map[at]api.Floor) map[at][]at {
	all := map[at][]at{}
	for from := range m {
		for dir := range 4 {
			all[from] = append(all[from], led(c, m, from, dir)...)
			var one, other []at
			for _, mid := range led(c, m, from, dir) {
				one = append(one, led(c, m, mid, (dir+1)%4)...)
			}
			for _, mid := range led(c, m, from, (dir+1)%4) {
				other = append(other, led(c, m, mid, dir)...)
			}
			for _, to := range one {
				if slices.Contains(other, to) {
					all[from] = append(all[from], to)
				}
			}
		}
	}
	return all
}

// kept is how many steps round a floor all have all eight, at most so many: the chapter's other way of telling a clearance.
func kept(round map[at][]at, from at, limit int) int {
	reached, last := map[at]bool{from: true}, []at{from}
	for n := range limit {
		var next []at
		for _, s := range last {
			if len(round[s]) != 8 {
				return n
			}
			for _, to := range round[s] {
				if !reached[to] {
					reached[to] = true
					next = append(next, to)
				}
			}
		}
		last = next
	}
	return limit
}

// view is what Build answers of a grid, floor by floor, and what that stands on.
type view struct {
	floors map[at]api.Floor
	round  map[at][]at
	far    map[at]int
}

// spread are a field's numbers by where their floors are.
func spread(t *testing.T, c api.Config, g api.Grid) map[at]int {
	t.Helper()
	was := copied(g)
	l, e := Build(c, g)
	if e != api.OK || !Fits(g, l) || len(l) == 0 && l != nil {
		t.Fatalf("Build(%v, %v) = %v, %v", c, g, l, e)
	}
	if !alike(g, was) {
		t.Fatalf("of %v, %v is left", was, g)
	}
	far := map[at]int{}
	for i, row := range l {
		if len(row) == 0 && row != nil {
			t.Fatalf("Build(%v, %v): the %d-th column has %v", c, g, i, row)
		}
		for k, n := range row {
			far[at{g.X + i%g.W, g.Z + i/g.W, k}] = n
		}
	}
	return far
}

// gridHolds has Build tell of each floor what both ways of telling it do, and holds what follows of floors beside one another.
func gridHolds(t *testing.T, c api.Config, g api.Grid) view {
	t.Helper()
	v := view{stood(g), nil, spread(t, c, g)}
	v.round = eightOf(c, v.floors)
	limit := c.Clear + 3
	for from, a := range v.floors {
		got, want := v.far[from], kept(v.round, from, limit)
		if got != want {
			t.Fatalf("Build(%v, %v) has %d at %v; want %d", c, g, got, from, want)
		}
		zero := a.Area == 0 || len(v.round[from]) != 8
		if zero != (got == 0) {
			t.Fatalf("Build(%v, %v) has %d at %v, of area %d, with %d of its eight", c, g, got, from, a.Area, len(v.round[from]))
		}
		least := limit
		for _, to := range v.round[from] {
			least = min(least, v.far[to])
			if apart := got - v.far[to]; apart < -1 || apart > 1 {
				t.Fatalf("Build(%v, %v) has %d at %v, %d at %v", c, g, got, from, v.far[to], to)
			}
		}
		if !zero && got != min(limit, least+1) {
			t.Fatalf("Build(%v, %v) has %d at %v, %d as the least of its eight", c, g, got, from, least)
		}
	}
	return v
}

// numbers are told by a rule: the same in each run, and without a pattern that a grid has.
type numbers struct{ state uint32 }

func (n *numbers) below(bound int) int {
	n.state = n.state*1664525 + 1013904223
	return int(n.state>>8) % bound
}

// strewn is a grid of up to so many storeys that are about as high as the config lets one go through, some with too little room, some that may not be walked.
func strewn(c api.Config, x, z, w, d, storeys int, seed uint32) api.Grid {
	rule := &numbers{seed}
	g := api.Grid{X: x, Z: z, W: w, D: d}
	for range w * d {
		var l []api.Floor
		y := rule.below(c.Climb+2) - 9
		for range 1 + rule.below(storeys+1) - rule.below(2) {
			area := 1 + rule.below(mostArea)
			if rule.below(15) == 0 {
				area = 0
			}
			top := max(y+1, y+c.Height+rule.below(c.Climb+4)-1)
			if len(l) < most {
				l = append(l, f(y, top, area))
			}
			y = top + rule.below(2)
		}
		g.Floors = append(g.Floors, l)
	}
	return g
}

// rolling is a grid of two storeys, each up and down by one height at the most, in one of so many columns with a hole, a greater step, or what may not be walked.
func rolling(x, z, w, d, one int, seed uint32) api.Grid {
	rule := &numbers{seed}
	g := api.Grid{X: x, Z: z, W: w, D: d}
	for range w * d {
		var l []api.Floor
		for _, y := range []int{-9, 9} {
			a := f(y+rule.below(2), y+14, 1+rule.below(mostArea))
			switch rule.below(3 * one) {
			case 0:
				a.Area = 0
			case 1:
				a.Y += 3
			case 2:
				continue
			}
			l = append(l, a)
		}
		g.Floors = append(g.Floors, l)
	}
	return g
}

// plain is a grid of one floor a column, of one height, with room up to the Sky.
func plain(x, z, w, d int) api.Grid {
	g := api.Grid{X: x, Z: z, W: w, D: d}
	for range w * d {
		g.Floors = append(g.Floors, col(p(0, sky)))
	}
	return g
}

// piled is a grid of so many storeys that are all linked within themselves.
func piled(x, z, w, d, n, apart int) api.Grid {
	g := api.Grid{X: x, Z: z, W: w, D: d}
	for range w * d {
		var l []api.Floor
		for k := range n {
			l = append(l, f(k*apart, (k+1)*apart, 1+k%mostArea))
		}
		g.Floors = append(g.Floors, l)
	}
	return g
}

const (
	breadth = 5           // of a ramp that winds round
	turn    = 4 * breadth // how high it is when it has gone round once
)

// upRing is how high a ramp that winds round a square is at a column; false, if that is within the ring or outside of it.
func upRing(x, z int) (int, bool) {
	switch i, k := x/breadth, z/breadth; {
	case i == 0 && k == 0:
		return 0, true
	case i == 1 && k == 0:
		return x - 4, true
	case i == 2 && k == 0:
		return 5, true
	case i == 2 && k == 1:
		return 5 + z - 4, true
	case i == 2 && k == 2:
		return 10, true
	case i == 1 && k == 2:
		return 10 + 10 - x, true
	case i == 0 && k == 2:
		return 15, true
	case i == 0 && k == 1:
		return 15 + 10 - z, true
	default:
		return 0, false
	}
}

// wound is a ramp of that breadth that goes round so many times, with flat corners.
func wound(x, z, n int) api.Grid {
	g := api.Grid{X: x, Z: z, W: 3 * breadth, D: 3 * breadth}
	for i := range g.W * g.D {
		var l []api.Floor
		if y, ok := upRing(i%g.W, i/g.W); ok {
			for k := range n {
				l = append(l, p(y+k*turn, y+(k+1)*turn))
			}
		}
		g.Floors = append(g.Floors, l)
	}
	return g
}

// drawn is a grid of one floor a column: a digit is its height; a letter from a on is that height, too, where nothing may be walked; . is a column of no floor.
func drawn(x, z int, rows ...string) api.Grid {
	g := api.Grid{X: x, Z: z, W: len(rows[0]), D: len(rows)}
	for _, r := range strings.Join(rows, "") {
		switch {
		case r == '.':
			g.Floors = append(g.Floors, nil)
		case r >= 'a':
			g.Floors = append(g.Floors, col(f(int(r-'a'), sky, 0)))
		default:
			g.Floors = append(g.Floors, col(p(int(r-'0'), sky)))
		}
	}
	return g
}

// shown are the numbers of each column's k-th floor; . where there is none.
func shown(v view, g api.Grid, k int) string {
	var l []string
	for z := g.Z; z < g.Z+g.D; z++ {
		row := ""
		for x := g.X; x < g.X+g.W; x++ {
			if n, ok := v.far[at{x, z, k}]; ok {
				row += string(rune('0' + n))
			} else {
				row += "."
			}
		}
		l = append(l, row)
	}
	return strings.Join(l, " ")
}

// showsHolds has Build tell so of the k-th floors.
func showsHolds(t *testing.T, c api.Config, g api.Grid, k int, want string) {
	t.Helper()
	if got := shown(gridHolds(t, c, g), g, k); got != want {
		t.Fatalf("Build(%v, %v) shows %s; want %s", c, g, got, want)
	}
}

// goodGrids may be.
func goodGrids() []api.Grid {
	return []api.Grid{
		{}, {W: 5}, {D: 7}, {X: 64, Z: -64, W: 64}, {W: 2, D: 3, Floors: make([][]api.Floor, 6)},
		{W: 2, D: 2, Floors: [][]api.Floor{{}, nil, col(p(0, 9)), {}}},
		plain(0, 0, 1, 1), plain(-9, 5, 1, 1), plain(far, -far, 1, 1), plain(3, 4, 7, 1), plain(3, -4, 1, 7), plain(-2, -2, 5, 5), plain(far, far, 3, 2), plain(-far, -far, 2, 3),
		piled(-1, -1, 3, 3, most, 3), piled(-1, -1, 3, 3, most, 2), piled(7, 9, 2, 2, 2, 40), piled(0, 0, 1, 1, most, 3),
		wound(-7, 9, 1),
	}
}

// copied is the same grid in other memory.
func copied(g api.Grid) api.Grid {
	g.Floors = slices.Clone(g.Floors)
	for i := range g.Floors {
		g.Floors[i] = slices.Clone(g.Floors[i])
	}
	return g
}

// alike is whether two grids are the same, told floor by floor.
func alike(a, b api.Grid) bool {
	if [4]int{a.X, a.Z, a.W, a.D} != [4]int{b.X, b.Z, b.W, b.D} {
		return false
	}
	return slices.EqualFunc(a.Floors, b.Floors, func(l, m []api.Floor) bool { return slices.Equal(l, m) })
}

// P14.2: the chapter's example, number by number.
func TestTheChaptersExample(t *testing.T) {
	got, e := Build(config(1), plain(0, 0, 5, 5))
	want := [][]int{
		{0}, {0}, {0}, {0}, {0},
		{0}, {1}, {1}, {1}, {0},
		{0}, {1}, {2}, {1}, {0},
		{0}, {1}, {1}, {1}, {0},
		{0}, {0}, {0}, {0}, {0},
	}
	if e != api.OK || !slices.EqualFunc(got, want, func(a, b []int) bool { return slices.Equal(a, b) }) {
		t.Errorf("Build answers %v, %v", got, e)
	}
	if n, ok := Least(got); n != 0 || !ok {
		t.Errorf("Least(%v) = %d, %v", got, n, ok)
	}
}

// P14.2: grids of each shape, by configs at each bound.
func TestGoodGrids(t *testing.T) {
	for clear := range 4 {
		for _, c := range append(goodConfigs(), config(clear), climbing(clear, 0), climbing(clear, 2)) {
			for _, g := range goodGrids() {
				gridHolds(t, c, g)
			}
		}
	}
}

// P14.2: no column, columns of no floor, one column, one row: what is told of them.
func TestBuildOfLittle(t *testing.T) {
	for _, x := range []struct {
		g    api.Grid
		want [][]int
	}{
		{api.Grid{}, nil},
		{api.Grid{X: 5, Z: -5, W: 9}, nil},
		{api.Grid{D: 64}, nil},
		{api.Grid{Floors: [][]api.Floor{}}, nil},
		{api.Grid{W: 1, D: 1, Floors: [][]api.Floor{nil}}, [][]int{nil}},
		{api.Grid{W: 2, D: 1, Floors: [][]api.Floor{{}, nil}}, [][]int{nil, nil}},
		{plain(3, 3, 1, 1), [][]int{{0}}},
		{plain(3, 3, 4, 1), [][]int{{0}, {0}, {0}, {0}}},
		{plain(3, 3, 1, 4), [][]int{{0}, {0}, {0}, {0}}},
		{plain(3, 3, 2, 2), [][]int{{0}, {0}, {0}, {0}}},
		{plain(3, 3, 3, 2), [][]int{{0}, {0}, {0}, {0}, {0}, {0}}},
		{plain(3, 3, 3, 3), [][]int{{0}, {0}, {0}, {0}, {1}, {0}, {0}, {0}, {0}}},
		{piled(0, 0, 1, 1, 3, 5), [][]int{{0, 0, 0}}},
		{api.Grid{W: 1, D: 1, Floors: [][]api.Floor{col(f(0, 9, 0))}}, [][]int{{0}}},
		{api.Grid{W: 1, D: 3, Floors: [][]api.Floor{col(p(0, 9), p(9, 20)), nil, col(p(0, 9))}}, [][]int{{0, 0}, nil, {0}}},
	} {
		for clear := range 4 {
			got, e := Build(config(clear), x.g)
			if e != api.OK || !slices.EqualFunc(got, x.want, func(a, b []int) bool { return slices.Equal(a, b) && (a == nil) == (b == nil) }) || (got == nil) != (x.want == nil) {
				t.Errorf("Build(%v) = %v, %v; want %v", x.g, got, e, x.want)
			}
		}
	}
}

// toSide is how many columns a column of a grid has between it and the nearest side.
func toSide(g api.Grid, x, z int) int {
	return min(x-g.X, z-g.Z, g.X+g.W-1-x, g.Z+g.D-1-z)
}

// P14.2: flat grids of each side, so that the clearance in the midst is less than the cap, just one less, just the cap, and would go past it.
func TestBuildOfFlatGrids(t *testing.T) {
	for clear := range 4 {
		limit := clear + 3
		seen := map[int]int{}
		for w := range 2*limit + 4 {
			for _, d := range []int{1, 2, w, w + 1, 2*limit + 3} {
				for _, from := range [][2]int{{0, 0}, {-far, far}, {far, -far}, {-5, -5}, {9, 3}} {
					g := plain(from[0], from[1], w, d)
					got := spread(t, config(clear), g)
					greatest := 0
					for s, n := range got {
						want := min(toSide(g, s.x, s.z), limit)
						if n != want {
							t.Fatalf("a flat grid of %d by %d, Clear %d, has %d at %v; want %d", w, d, clear, n, s, want)
						}
						greatest = max(greatest, n)
					}
					seen[greatest]++
				}
			}
		}
		for n := range limit + 1 {
			if seen[n] == 0 {
				t.Errorf("with Clear %d no grid has %d as its greatest clearance", clear, n)
			}
		}
		if seen[limit+1] != 0 {
			t.Errorf("with Clear %d some clearance is past the cap", clear)
		}
	}
}

// P14.2: the greatest grid there may be, of MaxSpans in each column, and of one.
func TestBuildOfGreatGrids(t *testing.T) {
	for _, n := range []int{1, most} {
		g := piled(-far, far, far, far, n, 4)
		c := config(3)
		far := spread(t, c, g)
		for s, got := range far {
			if want := min(toSide(g, s.x, s.z), 6); got != want {
				t.Fatalf("%v has %d; want %d", s, got, want)
			}
		}
	}
}

// P14.2: what may not be walked, in the midst, at a side, at a corner, next to a side; a hole in its place is the same.
func TestBuildRoundWhatMayNotBeWalked(t *testing.T) {
	for _, x := range []struct {
		name string
		rows []string
		want string
	}{
		{"in the midst", []string{"0000000", "0000000", "0000000", "000a000", "0000000", "0000000", "0000000"}, "0000000 0111110 0100010 0100010 0100010 0111110 0000000"},
		{"at a side", []string{"0000000", "0000000", "0000000", "a000000", "0000000", "0000000", "0000000"}, "0000000 0111110 0012210 0012210 0012210 0111110 0000000"},
		{"at the side across", []string{"0000000", "0000000", "0000000", "000000a", "0000000", "0000000", "0000000"}, "0000000 0111110 0122100 0122100 0122100 0111110 0000000"},
		{"at a corner", []string{"a000000", "0000000", "0000000", "0000000", "0000000", "0000000", "0000000"}, "0000000 0011110 0112210 0122210 0122210 0111110 0000000"},
		{"at the corner across", []string{"0000000", "0000000", "0000000", "0000000", "0000000", "0000000", "000000a"}, "0000000 0111110 0122210 0122210 0122110 0111100 0000000"},
		{"next to a corner", []string{"0000000", "0a00000", "0000000", "0000000", "0000000", "0000000", "0000000"}, "0000000 0001110 0001210 0111210 0122210 0111110 0000000"},
		{"two, with a gap of one", []string{"0000000", "0000000", "0000000", "00a0a00", "0000000", "0000000", "0000000"}, "0000000 0111110 0000000 0000000 0000000 0111110 0000000"},
		{"a row", []string{"00000000", "00000000", "00000000", "aaaaaaaa", "00000000", "00000000", "00000000"}, "00000000 01111110 00000000 00000000 00000000 01111110 00000000"},
		{"all but one", []string{"aaa", "a0a", "aaa"}, "000 000 000"},
		{"all", []string{"aaa", "aaa", "aaa"}, "000 000 000"},
	} {
		t.Run(x.name, func(t *testing.T) {
			showsHolds(t, config(0), drawn(-3, 40, x.rows...), 0, x.want)
			holes := drawn(7, -9, x.rows...)
			want := []rune(strings.ReplaceAll(x.want, " ", ""))
			for i := range holes.Floors {
				if holes.Floors[i][0].Area == 0 {
					holes.Floors[i], want[i] = nil, '.'
				}
			}
			if got := strings.ReplaceAll(shown(gridHolds(t, config(2), holes), holes, 0), " ", ""); got != string(want) {
				t.Fatalf("Build(%v) shows %s; want %s", holes, got, string(want))
			}
		})
	}
}

// P14.2: all areas that are above 0 count alike.
func TestBuildOfUnlikeAreas(t *testing.T) {
	g := plain(0, 0, 9, 9)
	for i := range g.Floors {
		g.Floors[i][0].Area = 1 + i%mostArea
	}
	want := "000000000 011111110 012222210 012333210 012343210 012333210 012222210 011111110 000000000"
	showsHolds(t, config(1), g, 0, want)
	showsHolds(t, config(2), plain(0, 0, 9, 9), 0, want)
	for i := range g.Floors {
		g.Floors[i][0].Area = mostArea
	}
	showsHolds(t, config(3), g, 0, want)
}

// P14.2: one link missing, by a height, by a room; the floors that lack it, and those that lack a diagonal by it, are an edge, and all round them count anew.
func TestBuildWithoutOneLink(t *testing.T) {
	flat := "000000000 011111110 012222210 012333210 012343210 012333210 012222210 011111110 000000000"
	cut := "000000000 011111110 012111110 012100110 012100110 012100110 012111110 011111110 000000000"
	slope := []string{
		"444444444",
		"444444444",
		"444444444",
		"444445444",
		"444446544",
		"444445444",
		"444444444",
		"444444444",
		"444444444",
	}
	showsHolds(t, config(2), drawn(0, 0, slope...), 0, cut)
	for i, row := range slope {
		slope[i] = strings.ReplaceAll(row, "6", "5")
	}
	showsHolds(t, config(2), drawn(0, 0, slope...), 0, flat)
	low := func(room, up int) api.Grid {
		g := plain(-4, -4, 9, 9)
		g.Floors[4*9+4], g.Floors[4*9+5] = col(p(0, room)), col(p(up, sky))
		return g
	}
	showsHolds(t, config(1), low(3, 0), 0, flat)
	showsHolds(t, config(1), low(4, 1), 0, flat)
	showsHolds(t, config(1), low(3, 1), 0, cut)
	showsHolds(t, config(1), low(2, 0), 0, "000000000 011111110 011111110 011000110 011000110 011000110 011111110 011111110 000000000")
}

// P14.2: one diagonal missing, though all four links are there: one direction goes up, the other one down, and they end one above the other.
func TestBuildWithoutOneDiagonal(t *testing.T) {
	c := climbing(1, 1)
	for dir := range 4 {
		for _, side := range []int{(dir + 1) % 4, (dir + 3) % 4} {
			g := plain(-20, 11, 11, 11)
			put := func(x, z int, l ...api.Floor) { g.Floors[z*11+x] = l }
			x, z := beside(5, 5, dir)
			put(x, z, p(1, sky))
			x, z = beside(5, 5, side)
			put(x, z, p(-1, sky))
			x, z = beside(x, z, dir)
			put(x, z, p(-2, 2), p(2, sky))
			v := gridHolds(t, c, g)
			mid, straight := at{-15, 16, 0}, 0
			for dir := range 4 {
				straight += len(led(c, v.floors, mid, dir))
			}
			if straight != 4 || len(v.round[mid]) != 7 || v.far[mid] != 0 {
				t.Fatalf("the midst of %v has %d links, %v, clearance %d", g, straight, v.round[mid], v.far[mid])
			}
			for range 2 { // back there all is flat
				x, z = mid.x, mid.z
				x, z = beside(x, z, (dir+2)%4)
				mid.x, mid.z = beside(x, z, (side+2)%4)
			}
			if n := v.far[mid]; n != 2 {
				t.Fatalf("two diagonals from the midst %v has %d at %v", g, n, mid)
			}
		}
	}
}

// P14.2: clearances count on by diagonals, too: round a hole by squares; from a corner that is bent in, which lacks nothing but a diagonal.
func TestBuildCountsByDiagonals(t *testing.T) {
	g := plain(30, -7, 13, 13)
	g.Floors[6*13+6] = nil
	showsHolds(t, config(3), g, 0, "0000000000000 0111111111110 0122222222210 0122222222210 0122111112210 0122100012210 012210.012210 0122100012210 0122111112210 0122222222210 0122222222210 0111111111110 0000000000000")
	showsHolds(t, config(0), drawn(5, 5,
		"00000......",
		"00000......",
		"00000......",
		"00000......",
		"00000......",
		"00000000000",
		"00000000000",
		"00000000000",
		"00000000000",
		"00000000000",
	), 0, "00000...... 01110...... 01210...... 01210...... 01210...... 01210000000 01211111110 01222222210 01111111110 00000000000")
}

// P14.2: storeys one above another: each has its own edge, whatever is above or below it, at whichever place in its column it is.
func TestBuildOfStoreys(t *testing.T) {
	g := plain(-3, 2, 9, 9)
	for i := range g.Floors {
		x, z := i%9, i/9
		l := col(f(0, 8, 1))
		if x > 0 && z > 0 && x < 8 && z < 8 {
			l = append(l, f(10, 18, 2))
		}
		if x < 6 {
			l = append(l, f(20, 28, 3))
		}
		g.Floors[i] = l
	}
	v := gridHolds(t, config(0), g)
	for s, a := range v.floors {
		x, z := s.x-g.X, s.z-g.Z
		side := min(x, z, 8-x, 8-z)
		want := map[int]int{0: side, 10: side - 1, 20: min(x, z, 8-z, 5-x)}[a.Y]
		if want = min(want, 3); v.far[s] != want {
			t.Fatalf("%v, %v has %d; want %d", s, a, v.far[s], want)
		}
	}
	for n := 1; n <= most; n++ {
		for clear := range 4 {
			g := piled(5, 5, 9, 9, n, 3)
			g.Floors[4*9+4][n-1].Area = 0
			v := gridHolds(t, config(clear), g)
			for s, got := range v.far {
				want := min(toSide(g, s.x, s.z), clear+3)
				if s.k == n-1 {
					want = min(want, max(0, max(s.x-9, 9-s.x, s.z-9, 9-s.z)-1))
				}
				if got != want {
					t.Fatalf("of %d storeys the one at %v has %d; want %d", n, s, got, want)
				}
			}
		}
	}
}

// P14.2: a ramp that winds round: but for its two ends it is as far from its sides as a flat one, storey by storey.
func TestBuildOfRampsThatWindRound(t *testing.T) {
	for clear := range 4 {
		c := config(clear)
		flat := plain(0, 0, 3*breadth, 3*breadth)
		for i := range flat.Floors {
			if _, ok := upRing(i%flat.W, i/flat.W); !ok {
				flat.Floors[i] = nil
			}
		}
		want := spread(t, c, flat)
		for _, n := range []int{1, 2, 3, most} {
			g := wound(-5, 9, n)
			unlike := 0
			for s, got := range gridHolds(t, c, g).far {
				like := want[at{s.x - g.X, s.z - g.Z, 0}]
				if got > like || got < like && s.k > 0 && s.k < n-1 {
					t.Fatalf("of a ramp that winds round %d times, %v has %d; a flat one has %d", n, s, got, like)
				}
				if got < like {
					unlike++
				}
			}
			if unlike == 0 {
				t.Fatalf("a ramp that winds round %d times has no end", n)
			}
		}
	}
	// One breadth too steep at each column of a side, it is cut there.
	g := wound(0, 0, 2)
	for i := range g.Floors {
		for k := range g.Floors[i] {
			if x, z := i%g.W, i/g.W; x >= 7 && z < breadth && k == 0 {
				g.Floors[i][k].Y++
			}
		}
	}
	v := gridHolds(t, config(0), g)
	for z := range breadth {
		if v.far[at{6, z, 0}] != 0 || v.far[at{7, z, 0}] != 0 {
			t.Fatalf("at the cut there is %d, %d", v.far[at{6, z, 0}], v.far[at{7, z, 0}])
		}
	}
}

// P14.2: two heights that only some steps join, of a breadth of one, three, and five columns: on the narrow ones all is edge.
func TestBuildOfSteps(t *testing.T) {
	for _, x := range []struct {
		name string
		rows []string
		want string
	}{
		{"none", []string{"0000044444", "0000044444", "0000044444", "0000044444", "0000044444", "0000044444", "0000044444"},
			"0000000000 0111001110 0121001210 0121001210 0121001210 0111001110 0000000000"},
		{"one column", []string{"00000...44444", "00000...44444", "00000...44444", "0000012344444", "00000...44444", "00000...44444", "00000...44444"},
			"00000...00000 01110...01110 01210...01210 0121000001210 01210...01210 01110...01110 00000...00000"},
		{"three columns", []string{"00000...44444", "00000...44444", "0000012344444", "0000012344444", "0000012344444", "00000...44444", "00000...44444"},
			"00000...00000 01110...01110 0121000001210 0121111111210 0121000001210 01110...01110 00000...00000"},
		{"five columns", []string{"0000012344444", "0000012344444", "0000012344444", "0000012344444", "0000012344444"},
			"0000000000000 0111111111110 0122222222210 0111111111110 0000000000000"},
		{"five columns, one step two heights up", []string{"0000013344444", "0000012344444", "0000012344444", "0000012344444", "0000012344444"},
			"0000000000000 0111100111110 0122111122210 0111111111110 0000000000000"},
	} {
		t.Run(x.name, func(t *testing.T) {
			showsHolds(t, config(1), drawn(1, 2, x.rows...), 0, x.want)
		})
	}
}

// P14.2: wherever a grid begins, and however high its floors are, the numbers are the same.
func TestBuildOfMovedGrids(t *testing.T) {
	for seed := range uint32(4) {
		g := rolling(0, 0, 12, 9, 20, 60+seed)
		want, e := Build(config(2), g)
		if e != api.OK {
			t.Fatal(e)
		}
		for _, x := range []int{-far, -12, -5, -1, 1, far} {
			for _, z := range []int{-far, -9, -1, 3, far} {
				moved := copied(g)
				moved.X, moved.Z = x, z
				for _, l := range moved.Floors {
					for k := range l {
						l[k].Y, l[k].Top = l[k].Y+5*x, l[k].Top+5*x
					}
				}
				if got, e := Build(config(2), moved); e != api.OK || !slices.EqualFunc(got, want, func(a, b []int) bool { return slices.Equal(a, b) }) {
					t.Fatalf("moved to %d, %d, %v has %v, %v; want %v", x, z, g, got, e, want)
				}
			}
		}
	}
}

// P14.2: all choices of holes, of what may not be walked, of a step, in the midst of a grid of 7 by 7.
func TestBuildOfAllHoles(t *testing.T) {
	for _, bad := range [][]api.Floor{nil, col(f(0, sky, 0)), col(p(2, sky)), col(p(0, 2))} {
		for there := range 1 << 9 {
			g := plain(-1, -1, 7, 7)
			for i := range 9 {
				if there>>i&1 == 1 {
					g.Floors[(2+i/3)*7+2+i%3] = slices.Clone(bad)
				}
			}
			gridHolds(t, config(there%4), g)
		}
	}
}

// P14.2: heights of all kinds in the midst of a flat grid, so that some links and some diagonals are missing.
func TestBuildOfAllHeights(t *testing.T) {
	for choice := range 3 * 3 * 3 * 3 * 3 * 3 {
		g := plain(-1, -1, 6, 6)
		for i, n := 0, choice; i < 6; i, n = i+1, n/3 {
			g.Floors[(2+i/3)*6+1+i%3][0].Y = n % 3
		}
		gridHolds(t, config(choice%4), g)
	}
}

// P14.2: all heights round a floor that are one below it, as high, one above it: all kinds of links and diagonals that are missing, at each corner, too.
func TestBuildOfAllHeightsRoundAFloor(t *testing.T) {
	var seen [2]int
	for choice := range 3 * 3 * 3 * 3 * 3 * 3 * 3 * 3 {
		g := plain(-1, -1, 3, 3)
		n := choice
		for i := range g.Floors {
			if i != 4 {
				g.Floors[i][0].Y = n%3 - 1
				n /= 3
			}
		}
		seen[gridHolds(t, config(0), g).far[at{0, 0, 0}]]++
	}
	if seen[0] < 1000 || seen[1] < 500 {
		t.Errorf("the midst has 0 and 1 so often: %v", seen)
	}
}

// P14.2, P14.3: strewn grids of several storeys, and rolling ones, in which there is enough of each clearance.
func TestStrewnGrids(t *testing.T) {
	for climb := range 4 {
		for seed := range uint32(16) {
			c := climbing(int(seed)%4, climb)
			gridHolds(t, c, strewn(c, int(seed)*5-far, far-int(seed)*5, 1+int(seed)%7, 1+int(seed)*3%8, []int{1, 3, most}[seed%3], seed))
		}
	}
	for clear := range 4 {
		var seen [7]int
		for seed := range uint32(16) {
			g := rolling(-8, 5, 16, 15, []int{9, 40, 90, 400}[seed%4], 100+seed)
			for _, n := range gridHolds(t, config(clear), g).far {
				seen[n]++
			}
		}
		for n, some := range seen {
			if (some >= 50) != (n <= clear+3) {
				t.Errorf("with Clear %d, %d floors have %d", clear, some, n)
			}
		}
	}
}

// P14.2: what the calls of layer 13 tell of a floor is what its clearance stands on.
func TestBuildByLinks(t *testing.T) {
	for seed := range uint32(6) {
		c := config(int(seed) % 4)
		g := rolling(3, -3, 9, 9, 30, 200+seed)
		far := spread(t, c, g)
		for s, got := range far {
			_, all := links.Eight(c, g, s.x, s.z, s.k)
			if all != (got > 0) {
				t.Fatalf("Eight is %v of %v, whose clearance is %d", all, s, got)
			}
			if !all {
				continue
			}
			least := Cap(c)
			for dir := range 4 {
				x, z := beside(s.x, s.z, dir)
				k, _ := links.To(c, g, s.x, s.z, s.k, dir)
				least = min(least, far[at{x, z, k}])
				x, z = beside(x, z, (dir+1)%4)
				k, _ = links.Diagonal(c, g, s.x, s.z, s.k, dir, (dir+1)%4)
				least = min(least, far[at{x, z, k}])
			}
			if got != min(Cap(c), least+1) {
				t.Fatalf("%v has %d; the least of its eight is %d", s, got, least)
			}
		}
	}
}

// v is a corner of a triangle.
func v(x, y, z int) api.Vertex { return api.Vertex{X: x, Y: y, Z: z} }

// sheet is two triangles, from a corner to another one, that rise by x from a height to another one.
func sheet(x0, z0, x1, z1, from, to int) []api.Tri {
	return []api.Tri{
		{Id: 1, V: [3]api.Vertex{v(x0, from, z0), v(x0, from, z1), v(x1, to, z1)}},
		{Id: 2, V: [3]api.Vertex{v(x0, from, z0), v(x1, to, z1), v(x1, to, z0)}},
	}
}

// P14.2: floors of built worlds: a ground, a ramp to a storey above it.
func TestOfBuiltWorlds(t *testing.T) {
	c := api.Config{Clear: 1, Climb: 1, Height: 3, Rise: 100, Run: 1, W: 22, D: 9}
	tris := slices.Concat(sheet(0, 0, 22, 9, 0, 0), sheet(0, 1, 12, 8, 0, 12), sheet(12, 0, 22, 9, 12, 12))
	g, e := open.Build(c, tris, 0, 0, c.W, c.D)
	if e != api.OK {
		t.Fatal(e)
	}
	view := gridHolds(t, c, g)
	greatest := map[bool]int{}
	for s, a := range view.floors {
		greatest[a.Y > 6] = max(greatest[a.Y > 6], view.far[s])
	}
	if greatest[false] < 2 || greatest[true] != 4 {
		t.Errorf("below and above there is %v at the most", greatest)
	}
}

// part is what of a grid is from x0, z0 to just ahead of x1, z1.
func part(g api.Grid, x0, z0, x1, z1 int) api.Grid {
	of := api.Grid{X: x0, Z: z0, W: x1 - x0, D: z1 - z0}
	for z := z0; z < z1; z++ {
		for x := x0; x < x1; x++ {
			of.Floors = append(of.Floors, slices.Clone(g.Floors[(z-g.Z)*g.W+x-g.X]))
		}
	}
	return of
}

// followed are grids of each kind, large enough for parts that lack nothing within a cap's distance.
func followed() []api.Grid {
	l := []api.Grid{plain(-9, 4, 17, 15), piled(5, -8, 15, 14, 3, 4), wound(-7, -7, 3), plain(0, 0, 3, 20)}
	for seed := range uint32(3) {
		l = append(l, rolling(-9, 3, 18, 17, []int{15, 60, 300}[seed], 300+seed))
	}
	return l
}

// partHolds has a part tell at most what the whole tells, and the same of floors all of whose columns within the cap's distance it has; it answers of how many floors each was so.
func partHolds(t *testing.T, c api.Config, g api.Grid, all map[at]int, x0, z0, x1, z1 int) (same, less int) {
	t.Helper()
	limit := Cap(c)
	for s, got := range spread(t, c, part(g, x0, z0, x1, z1)) {
		want := all[s]
		if got > want {
			t.Fatalf("%v has %d; its part from %d, %d to %d, %d has %d at %v", g, want, x0, z0, x1, z1, got, s)
		}
		kept := max(g.X, s.x-limit) >= x0 && max(g.Z, s.z-limit) >= z0 && min(g.X+g.W-1, s.x+limit) < x1 && min(g.Z+g.D-1, s.z+limit) < z1
		if kept && got != want {
			t.Fatalf("%v has %d at %v; its part from %d, %d to %d, %d, which has all round it, has %d", g, want, s, x0, z0, x1, z1, got)
		}
		if kept {
			same++
		}
		if got < want {
			less++
		}
	}
	return same, less
}

// P14.3: parts that are cut off at each of the four sides, and at all of them.
func TestOfParts(t *testing.T) {
	for clear := range 4 {
		c := config(clear)
		for i, g := range followed() {
			all := spread(t, c, g)
			x1, z1 := g.X+g.W, g.Z+g.D
			same, less := 0, 0
			add := func(s, l int) { same, less = same+s, less+l }
			for n := range g.W + 1 {
				add(partHolds(t, c, g, all, g.X+n, g.Z, x1, z1))
				add(partHolds(t, c, g, all, g.X, g.Z, x1-n, z1))
			}
			for n := range g.D + 1 {
				add(partHolds(t, c, g, all, g.X, g.Z+n, x1, z1))
				add(partHolds(t, c, g, all, g.X, g.Z, x1, z1-n))
			}
			for n := range min(g.W, g.D)/2 + 1 {
				add(partHolds(t, c, g, all, g.X+n, g.Z+n, x1-n, z1-n))
				add(partHolds(t, c, g, all, g.X+n/2, g.Z+n, x1, z1-n/3))
			}
			if same < 300 || less < 20 {
				t.Errorf("of grid %d, with Clear %d, %d floors of parts have all round them, %d have less", i, clear, same, less)
			}
		}
	}
}

// P14.3: a part that lacks one column at just the cap's distance from a floor of the cap's clearance tells less of it; one column further off it tells the same.
func TestOfPartsAtTheCapsDistance(t *testing.T) {
	for clear := range 4 {
		c := config(clear)
		limit := clear + 3
		g := plain(-10, 7, 3*limit+4, 3*limit+4)
		all := spread(t, c, g)
		x, z := g.X+limit+2, g.Z+limit+2
		if all[at{x, z, 0}] != limit {
			t.Fatalf("the midst of %v has %d", g, all[at{x, z, 0}])
		}
		for near := limit - 1; near <= limit+1; near++ {
			want := min(near, limit)
			for i := range 4 {
				x0, z0, x1, z1 := g.X, g.Z, g.X+g.W, g.Z+g.D
				*[]*int{&x0, &z0, &x1, &z1}[i] = []int{x - near, z - near, x + near + 1, z + near + 1}[i]
				got := spread(t, c, part(g, x0, z0, x1, z1))
				if n := got[at{x, z, 0}]; n != want {
					t.Fatalf("cut %d columns from it at side %d, a floor has %d; want %d", near, i, n, want)
				}
			}
		}
	}
}

// P14.3: another Clear, and nothing else, changes no clearance below the lesser cap; above it each is at its cap or between the two.
func TestOfOtherCaps(t *testing.T) {
	for _, g := range append(followed(), goodGrids()...) {
		var last map[at]int
		for clear := range 4 {
			c := config(clear)
			got := spread(t, c, g)
			for s, was := range last {
				if n := got[s]; min(n, clear+2) != was {
					t.Fatalf("with Clear %d, %v has %d at %v; with one less, %d", clear, g, n, s, was)
				}
			}
			c.Rise, c.Run, c.W, c.D = 100, 7, 32, 1
			for s, n := range spread(t, c, g) {
				if n != got[s] {
					t.Fatalf("%v has %d at %v; by another slope and another world, %d", g, got[s], s, n)
				}
			}
			last = got
		}
	}
}

// turned is a grid whose columns come from others of one, told by where they stand in it.
func turned(g api.Grid, w, d int, from func(x, z int) (int, int)) api.Grid {
	of := api.Grid{X: g.X, Z: g.Z, W: w, D: d}
	for i := range w * d {
		x, z := from(i%w, i/w)
		of.Floors = append(of.Floors, slices.Clone(g.Floors[z*g.W+x]))
	}
	return of
}

// P14.3: grids that are turned about in x, in z, and x with z, have their numbers turned about alike.
func TestOfTurnedGrids(t *testing.T) {
	grids := append(followed(), goodGrids()...)
	for seed := range uint32(8) {
		c := climbing(0, int(seed)%4)
		grids = append(grids, strewn(c, 3, 4, 7, 5, 1+int(seed)%4, 500+seed))
	}
	for _, g := range grids {
		for clear := range 4 {
			c := config(clear)
			want := spread(t, c, g)
			for _, x := range []struct {
				w, d int
				from func(x, z int) (int, int)
			}{
				{g.W, g.D, func(x, z int) (int, int) { return g.W - 1 - x, z }},
				{g.W, g.D, func(x, z int) (int, int) { return x, g.D - 1 - z }},
				{g.W, g.D, func(x, z int) (int, int) { return g.W - 1 - x, g.D - 1 - z }},
				{g.D, g.W, func(x, z int) (int, int) { return z, x }},
				{g.D, g.W, func(x, z int) (int, int) { return g.W - 1 - z, x }},
			} {
				of := turned(g, x.w, x.d, x.from)
				for s, got := range spread(t, c, of) {
					fromX, fromZ := x.from(s.x-g.X, s.z-g.Z)
					if n := want[at{g.X + fromX, g.Z + fromZ, s.k}]; got != n {
						t.Fatalf("%v has %d; turned about, at %v, %d", g, n, s, got)
					}
				}
			}
		}
	}
}

// P14.3: linked floors, and diagonals, as layer 13 tells them, are at most 1 apart; up to the cap and at it.
func TestApartByOneAtMost(t *testing.T) {
	for clear := range 4 {
		c := config(clear)
		steps := map[int]int{}
		for _, g := range followed() {
			far := spread(t, c, g)
			all, e := links.Build(c, g)
			if e != api.OK {
				t.Fatal(e)
			}
			leads := func(s at, dir int) (at, bool) {
				k := all[(s.z-g.Z)*g.W+s.x-g.X][s.k][dir]
				x, z := beside(s.x, s.z, dir)
				return at{x, z, k}, k >= 0
			}
			for s, n := range far {
				for dir := range 4 {
					to, ok := leads(s, dir)
					if !ok {
						continue
					}
					steps[far[to]-n]++
					if end, ok := leads(to, (dir+1)%4); ok {
						back, too := leads(s, (dir+1)%4)
						if !too {
							continue
						}
						if other, ok := leads(back, dir); ok && other == end {
							steps[far[end]-n]++
						}
					}
				}
			}
		}
		if len(steps) != 3 || steps[-1] < 500 || steps[0] < 500 || steps[1] < 500 {
			t.Errorf("with Clear %d, floors beside one another are apart by %v", clear, steps)
		}
	}
}

// wrongGrids may not be, in each way that layer 11's chapter names.
func wrongGrids() []api.Grid {
	one := func(l ...api.Floor) api.Grid { return api.Grid{W: 1, D: 1, Floors: [][]api.Floor{l}} }
	tower := piled(0, 0, 1, 1, most+1, 4).Floors[0]
	l := []api.Grid{
		{W: 1, D: 1}, {Floors: make([][]api.Floor, 1)}, {W: 2, D: 2, Floors: make([][]api.Floor, 3)}, {W: 2, D: 2, Floors: make([][]api.Floor, 5)}, {W: 3, Floors: make([][]api.Floor, 3)},
		{W: -1, D: -1, Floors: make([][]api.Floor, 1)}, {W: 1 << 32, D: 1 << 32}, {W: far + 1, D: 1, Floors: make([][]api.Floor, far+1)}, {W: 1, D: far + 1, Floors: make([][]api.Floor, far+1)},
		one(p(4, 4)), one(p(5, 4)), one(p(0, 5), p(4, 9)), one(p(5, 9), p(0, 5)), one(p(0, 4), p(0, 4)),
		one(f(0, 9, -1)), one(f(0, 9, mostArea+1)), one(f(0, 9, math.MinInt)), one(f(0, 9, math.MaxInt)), one(f(0, 9, 1<<32+1)),
		one(p(-high-1, 9)), one(p(high+1, high+2)), one(p(0, sky+1)), one(p(math.MinInt, math.MaxInt)), one(tower...), one(api.Floor{}),
		plain(-far-1, 0, 2, 2), plain(0, far+1, 2, 2), plain(0, 0, far+1, 1), plain(0, 0, 1, far+1),
	}
	for _, n := range slices.Concat(extremes, []int{-far - 1, far + 1}) {
		for i := range 4 {
			for _, g := range []api.Grid{plain(0, 0, 2, 3), {}} {
				*[]*int{&g.X, &g.Z, &g.W, &g.D}[i] = n
				l = append(l, g)
			}
		}
	}
	for i := range 9 { // one wrong floor in a grid of which each other one has its links
		for _, bad := range [][]api.Floor{col(p(0, 9), p(8, 20)), col(f(0, 9, mostArea+1)), col(p(0, sky+1)), tower} {
			g := plain(-1, -1, 3, 3)
			g.Floors[i] = bad
			l = append(l, g)
		}
	}
	return l
}

func buildRefused(t *testing.T, c api.Config, g api.Grid, want api.Errno) {
	t.Helper()
	was := copied(g)
	if got, e := Build(c, g); got != nil || e != want {
		t.Fatalf("Build(%v, %v) = %v, %v; want %v", c, g, got, e, want)
	}
	if !alike(g, was) {
		t.Fatalf("of %v, %v is left", was, g)
	}
}

// P14.2: a grid that may not be is refused, in each way.
func TestWrongGrids(t *testing.T) {
	for _, g := range wrongGrids() {
		if e := open.Check(g); e != api.ErrArg {
			t.Fatalf("Check(%v) = %v", g, e)
		}
		for _, c := range append(goodConfigs(), config(0), config(1), config(2), config(3)) {
			buildRefused(t, c, g, api.ErrArg)
		}
	}
}

// P14.2, R2: a config that may not be is told of first.
func TestWrongConfigs(t *testing.T) {
	good, wrong := goodGrids(), wrongGrids()
	for i, c := range wrongConfigs() {
		for _, g := range []api.Grid{{}, plain(0, 0, 3, 3), good[i%len(good)], wrong[i%len(wrong)]} {
			buildRefused(t, c, g, api.ErrConfig)
		}
	}
}

// blot writes over a list, and over the spare room behind it.
func blot[T any](l []T, with T) {
	for i := range l[:cap(l)] {
		l[:cap(l)][i] = with
	}
}

// roomy is the same grid, with spare room behind its columns and behind each of them, in one piece of memory.
func roomy(g api.Grid) (api.Grid, []api.Floor, [][]api.Floor) {
	var all []api.Floor
	for _, l := range g.Floors {
		all = append(append(all, l...), p(0, sky))
	}
	list := append(slices.Clone(g.Floors), col(p(0, sky)), nil)
	from := 0
	for i, l := range g.Floors {
		list[i] = all[from : from+len(l)]
		from += len(l) + 1
	}
	g.Floors = list[:len(g.Floors)]
	return g, all, list
}

// R3, R4: what is handed in stays, its spare room, too, which counts for nothing; no two columns of an answer share memory, nor do two answers, nor an answer and what was handed in.
func TestMemory(t *testing.T) {
	c := config(1)
	for _, x := range []api.Grid{plain(-1, -2, 5, 4), piled(0, 0, 3, 3, most, 4), wound(3, 8, 1), strewn(c, 5, 5, 4, 4, 3, 77), {W: 2, D: 1, Floors: [][]api.Floor{col(p(0, 9)), nil}}, {}} {
		want, _ := Build(c, x)
		for i := range max(1, len(want)) {
			g, all, list := roomy(x)
			wasAll, wasList := slices.Clone(all), slices.Clone(list)
			one, _ := Build(c, g)
			two, _ := Build(c, g)
			Build(api.Config{}, g)
			if told(one) != told(want) || told(two) != told(want) || !Fits(g, one) {
				t.Fatalf("Build(%v) = %v, then %v; want %v", x, one, two, want)
			}
			if !slices.Equal(all, wasAll) || !slices.EqualFunc(list, wasList, func(a, b []api.Floor) bool { return slices.Equal(a, b) }) {
				t.Fatalf("of %v, %v and %v are left", x, g, list)
			}
			if i < len(one) {
				blot(one[i], 9)
			}
			for other, l := range one {
				if other != i && !slices.Equal(l, want[other]) {
					t.Fatalf("column %d became %v by what was written over column %d", other, l, i)
				}
			}
			blot(one, []int{8})
			if told(two) != told(want) || !alike(g, x) {
				t.Fatalf("by what was written over an answer, %v and %v have become %v and %v", want, x, two, g)
			}
			blot(all, f(-77, 77, 7))
			blot(list, col(f(-77, 77, 7)))
			if told(two) != told(want) {
				t.Fatalf("the answer %v has become %v by what was written over what was handed in", want, two)
			}
		}
	}
}

// R4: the lists that Least, Same and Fits are asked of stay, their spare room, too, which counts for nothing.
func TestMemoryOfRows(t *testing.T) {
	g := plain(0, 0, 3, 1)
	g.Floors[1] = nil
	all := []int{4, -9, -8, 5, -7}
	list := [][]int{all[0:1], all[1:1], all[3:4], {-6}, nil}
	was, wasList := slices.Clone(all), copiedRows(list)
	l := list[:3]
	if n, ok := Least(l); n != 4 || !ok {
		t.Errorf("Least(%v) = %d, %v", l, n, ok)
	}
	if !Same(l, [][]int{{4}, nil, {5}}) || !Same([][]int{{4}, {}, {5}}, l) {
		t.Errorf("%v is not the same as its copy", l)
	}
	if !Fits(g, l) {
		t.Errorf("%v does not fit", l)
	}
	if !slices.Equal(all, was) || told(list) != told(wasList) {
		t.Errorf("%v and %v are left", all, list)
	}
}
