package region

import (
	"math"
	"slices"
	"strconv"
	"strings"
	"testing"

	"footpath/api"
	"footpath/field"
	"footpath/open"
	"footpath/whole"
)

const (
	high     = 2048 // the greatest height
	most     = 8    // floors of a column
	mostArea = 7
	sky      = 1 << 20 // where the room above the topmost floor ends
	far      = 64      // where grids may begin, and how wide they may be
)

// extremes are such as run over if one adds to them, multiplies them, turns them round, or keeps half of their bits.
var extremes = []int{math.MinInt, math.MinInt + 1, math.MinInt / 2, -1 << 58, -1 << 40, -1<<32 - 1, -1 << 32, 1 << 32, 1<<32 + 1, 1 << 40, 1 << 58, 1 << 62, math.MaxInt - 1, math.MaxInt}

// config is one that may be, of that Clear, of Climb 1 and Height 3.
func config(clear int) api.Config {
	return api.Config{Clear: clear, Climb: 1, Height: 3, Run: 1, W: 8, D: 8}
}

func f(y, top, area int) api.Floor { return api.Floor{Y: y, Top: top, Area: area} }

// p is a floor of area 1.
func p(y, top int) api.Floor { return f(y, top, 1) }

func col(l ...api.Floor) []api.Floor { return l }

// at is where a floor is: its column, and its place there.
type at struct{ x, z, k int }

// goodConfigs may be, at each bound.
func goodConfigs() []api.Config {
	return []api.Config{
		{Clear: 0, Climb: 0, Height: 1, Rise: 0, Run: 1, W: 1, D: 1},
		{Clear: 3, Climb: 8, Height: 32, Rise: 100, Run: 100, W: 32, D: 32},
		{Clear: 3, Climb: 8, Height: 9, Rise: 100, Run: 1, W: 32, D: 1},
		{Clear: 1, Climb: 0, Height: 32, Rise: 0, Run: 100, W: 1, D: 32},
		{Clear: 2, Climb: 2, Height: 3, Rise: 7, Run: 9, W: 8, D: 20},
	}
}

// wrongConfigs have one field past its bounds, or nothing that may be.
func wrongConfigs() []api.Config {
	l := []api.Config{{}, {Height: 3}, {Height: -1, Climb: -3}}
	for _, good := range goodConfigs() {
		for i, bad := range [][]int{{-1, 4}, {-1, 9, good.Height}, {33, good.Climb, 0, -1}, {-1, 101}, {0, -1, 101}, {0, -1, 33}, {0, -1, 33}} {
			for _, n := range slices.Concat(bad, extremes) {
				c := good
				*[]*int{&c.Clear, &c.Climb, &c.Height, &c.Rise, &c.Run, &c.W, &c.D}[i] = n
				l = append(l, c)
			}
		}
	}
	return l
}

// rule tells numbers: the same in each run, and without a pattern that a grid has.
type rule struct{ state uint32 }

func (n *rule) below(bound int) int {
	n.state = n.state*1664525 + 1013904223
	return int(n.state>>8) % bound
}

// strewn is a grid of up to so many storeys that are about as high as the config lets one go through, some with too little room, some that may not be walked, of so many areas.
func strewn(c api.Config, x, z, w, d, storeys, areas int, seed uint32) api.Grid {
	by := &rule{seed}
	g := api.Grid{X: x, Z: z, W: w, D: d}
	for range w * d {
		var l []api.Floor
		y := by.below(c.Climb+2) - 9
		for range 1 + by.below(storeys+1) - by.below(2) {
			area := 1 + by.below(areas)
			if by.below(15) == 0 {
				area = 0
			}
			top := max(y+1, y+c.Height+by.below(c.Climb+4)-1)
			if len(l) < most {
				l = append(l, f(y, top, area))
			}
			y = top + by.below(2)
		}
		g.Floors = append(g.Floors, l)
	}
	return g
}

// rolling is a grid of two storeys, each up and down by one height at the most, in one of so many columns with a hole, a greater step, or what may not be walked.
func rolling(x, z, w, d, one, areas int, seed uint32) api.Grid {
	by := &rule{seed}
	g := api.Grid{X: x, Z: z, W: w, D: d}
	for range w * d {
		var l []api.Floor
		for _, y := range []int{-9, 9} {
			a := f(y+by.below(2), y+14, 1)
			if by.below(5) == 0 {
				a.Area = 1 + by.below(areas)
			}
			switch by.below(3 * one) {
			case 0:
				a.Area = 0
			case 1:
				a.Y += 3
			case 2:
				continue
			}
			l = append(l, a)
		}
		g.Floors = append(g.Floors, l)
	}
	return g
}

// sloped is a grid of storeys that lean, each towards a side of its own, so that ramps lead from one to another one over holes.
func sloped(x, z, w, d int, seed uint32) api.Grid {
	by := &rule{seed}
	lean := []int{by.below(3) - 1, by.below(3) - 1, by.below(3) - 1, by.below(3) - 1}
	g := api.Grid{X: x, Z: z, W: w, D: d}
	for i := range w * d {
		var l []api.Floor
		heights := []int{lean[0]*(i%w) + lean[1]*(i/w), 7 + lean[2]*(i%w) + lean[3]*(i/w)}
		slices.Sort(heights)
		for n, y := range heights {
			top := sky
			if n == 0 {
				top = heights[1]
			}
			if by.below(9) > 0 && top > y {
				l = append(l, f(y, top, 1))
			}
		}
		g.Floors = append(g.Floors, l)
	}
	return g
}

// plain is a grid of one floor a column, of one height, with room up to the Sky.
func plain(x, z, w, d int) api.Grid {
	g := api.Grid{X: x, Z: z, W: w, D: d}
	for range w * d {
		g.Floors = append(g.Floors, col(p(0, sky)))
	}
	return g
}

// piled is a grid of so many storeys that are all linked within themselves.
func piled(x, z, w, d, n, apart int) api.Grid {
	g := api.Grid{X: x, Z: z, W: w, D: d}
	for range w * d {
		var l []api.Floor
		for k := range n {
			l = append(l, f(k*apart, (k+1)*apart, 1+k%mostArea))
		}
		g.Floors = append(g.Floors, l)
	}
	return g
}

// wound is a ramp, one column wide, that goes round a square of 3 by 3 columns, 8 heights each time, from one of the eight columns on, as often as its floors last.
func wound(x, z, from, n int) api.Grid {
	ring := [][2]int{{0, 0}, {1, 0}, {2, 0}, {2, 1}, {2, 2}, {1, 2}, {0, 2}, {0, 1}}
	g := api.Grid{X: x, Z: z, W: 3, D: 3, Floors: make([][]api.Floor, 9)}
	for y := range n {
		c := ring[(from+y)%8]
		g.Floors[c[1]*3+c[0]] = append(g.Floors[c[1]*3+c[0]], p(y, y+8))
	}
	return g
}

// landed is a ramp that winds round, cut here and there, with landings on the columns round it.
func landed(x, z int, seed uint32) api.Grid {
	by := &rule{seed}
	ramp := wound(0, 0, by.below(8), 9+by.below(40))
	g := api.Grid{X: x, Z: z, W: 5, D: 5, Floors: make([][]api.Floor, 25)}
	for i, l := range ramp.Floors {
		for _, a := range l {
			if by.below(20) == 0 {
				continue
			}
			at := (i/3+1)*5 + i%3 + 1
			for _, to := range []int{at, at + 5, at - 5, at + 1, at - 1} {
				if n := len(g.Floors[to]); to == at || by.below(3) > 0 && (n == 0 || g.Floors[to][n-1].Y+4 < a.Y) {
					if n > 0 && g.Floors[to][n-1].Y >= a.Y || n == most {
						continue
					}
					if n > 0 {
						g.Floors[to][n-1].Top = min(g.Floors[to][n-1].Top, a.Y)
					}
					g.Floors[to] = append(g.Floors[to], a)
				}
			}
		}
	}
	return g
}

// drawn is a grid of those rows of columns: of each floor its height, and a letter from a to g for its area, o for none; . is a column of no floor. The room ends at the next floor.
func drawn(x, z int, rows ...string) api.Grid {
	g := api.Grid{X: x, Z: z, W: len(strings.Fields(rows[0])), D: len(rows)}
	for _, column := range strings.Fields(strings.Join(rows, " ")) {
		var l []api.Floor
		for _, s := range strings.Split(column, ",") {
			if s == "." {
				break
			}
			y, err := strconv.Atoi(s[:len(s)-1])
			if err != nil {
				panic(err)
			}
			area := int(s[len(s)-1]-'a') + 1
			if s[len(s)-1] == 'o' {
				area = 0
			}
			if n := len(l); n > 0 {
				l[n-1].Top = y
			}
			l = append(l, f(y, sky, area))
		}
		g.Floors = append(g.Floors, l)
	}
	return g
}

// shown are a grid's numbers, drawn alike.
func shown(g api.Grid, l [][]int) string {
	var rows []string
	for i, column := range l {
		var s []string
		for _, n := range column {
			s = append(s, strconv.Itoa(n))
		}
		if len(s) == 0 {
			s = []string{"."}
		}
		if i%g.W == 0 {
			rows = append(rows, "")
		}
		rows[len(rows)-1] += " " + strings.Join(s, ",")
	}
	return strings.Join(rows, " /")
}

// goodGrids may be.
func goodGrids() []api.Grid {
	return []api.Grid{
		{}, {W: 5}, {D: 7}, {X: 64, Z: -64, W: 64}, {W: 2, D: 3, Floors: make([][]api.Floor, 6)},
		{W: 2, D: 2, Floors: [][]api.Floor{{}, nil, col(p(0, 9)), {}}},
		plain(0, 0, 1, 1), plain(-9, 5, 1, 1), plain(far, -far, 1, 1), plain(3, 4, 7, 1), plain(3, -4, 1, 7), plain(-2, -2, 5, 5), plain(far, far, 3, 2), plain(-far, -far, 2, 3),
		piled(-1, -1, 3, 3, most, 3), piled(-1, -1, 3, 3, most, 2), piled(7, 9, 2, 2, 2, 40), piled(0, 0, 1, 1, most, 3),
		wound(-7, 9, 0, 9), wound(3, 3, 5, 30),
	}
}

// wrongGrids may not be, in each way that layer 11's chapter names.
func wrongGrids() []api.Grid {
	one := func(l ...api.Floor) api.Grid { return api.Grid{W: 1, D: 1, Floors: [][]api.Floor{l}} }
	tower := piled(0, 0, 1, 1, most+1, 4).Floors[0]
	l := []api.Grid{
		{W: 1, D: 1}, {Floors: make([][]api.Floor, 1)}, {W: 2, D: 2, Floors: make([][]api.Floor, 3)}, {W: 2, D: 2, Floors: make([][]api.Floor, 5)}, {W: 3, Floors: make([][]api.Floor, 3)},
		{W: -1, D: -1, Floors: make([][]api.Floor, 1)}, {W: 1 << 32, D: 1 << 32}, {W: far + 1, D: 1, Floors: make([][]api.Floor, far+1)}, {W: 1, D: far + 1, Floors: make([][]api.Floor, far+1)},
		one(p(4, 4)), one(p(5, 4)), one(p(0, 5), p(4, 9)), one(p(5, 9), p(0, 5)), one(p(0, 4), p(0, 4)),
		one(f(0, 9, -1)), one(f(0, 9, mostArea+1)), one(f(0, 9, math.MinInt)), one(f(0, 9, math.MaxInt)), one(f(0, 9, 1<<32+1)),
		one(p(-high-1, 9)), one(p(high+1, high+2)), one(p(0, sky+1)), one(p(math.MinInt, math.MaxInt)), one(tower...), one(api.Floor{}),
		plain(-far-1, 0, 2, 2), plain(0, far+1, 2, 2), plain(0, 0, far+1, 1), plain(0, 0, 1, far+1),
	}
	for _, n := range slices.Concat(extremes, []int{-far - 1, far + 1}) {
		for i := range 4 {
			for _, g := range []api.Grid{plain(0, 0, 2, 3), {}} {
				*[]*int{&g.X, &g.Z, &g.W, &g.D}[i] = n
				l = append(l, g)
			}
		}
	}
	for i := range 9 { // one wrong floor in a grid of which each other one has its links
		for _, bad := range [][]api.Floor{col(p(0, 9), p(8, 20)), col(f(0, 9, mostArea+1)), col(p(0, sky+1)), tower} {
			g := plain(-1, -1, 3, 3)
			g.Floors[i] = bad
			l = append(l, g)
		}
	}
	return l
}

// copied is the same grid in other memory.
func copied(g api.Grid) api.Grid {
	g.Floors = slices.Clone(g.Floors)
	for i := range g.Floors {
		g.Floors[i] = slices.Clone(g.Floors[i])
	}
	return g
}

func copiedRows(l [][]int) [][]int {
	l = slices.Clone(l)
	for i := range l {
		l[i] = slices.Clone(l[i])
	}
	return l
}

func sameRows(a, b [][]int) bool {
	return slices.EqualFunc(a, b, func(l, m []int) bool { return slices.Equal(l, m) })
}

// alike is whether two grids are the same, told floor by floor.
func alike(a, b api.Grid) bool {
	if [4]int{a.X, a.Z, a.W, a.D} != [4]int{b.X, b.Z, b.W, b.D} {
		return false
	}
	return slices.EqualFunc(a.Floors, b.Floors, func(l, m []api.Floor) bool { return slices.Equal(l, m) })
}

// zeros are as many rows as columns, each of as many noughts as floors.
func zeros(g api.Grid) [][]int {
	var l [][]int
	for _, column := range g.Floors {
		l = append(l, make([]int, len(column)))
	}
	return l
}

// plot is a grid as the second way of telling regions goes through it: floors by where they are, and of each its clearance and those that are linked with it.
type plot struct {
	floors map[at]api.Floor
	far    map[at]int
	led    map[at][]at
}

func joined(c api.Config, a, b api.Floor) bool {
	up := a.Y - b.Y
	return a.Area > 0 && b.Area > 0 && up <= c.Climb && -up <= c.Climb &&
		a.Top-a.Y >= c.Height && a.Top-b.Y >= c.Height && b.Top-a.Y >= c.Height && b.Top-b.Y >= c.Height
}

func plotOf(t *testing.T, c api.Config, g api.Grid) plot {
	t.Helper()
	by := plot{map[at]api.Floor{}, map[at]int{}, map[at][]at{}}
	all, e := field.Build(c, g)
	if e != api.OK {
		t.Fatalf("field.Build(%v, %v) answers %v", c, g, e)
	}
	for i, l := range g.Floors {
		for k, a := range l {
			s := at{g.X + i%g.W, g.Z + i/g.W, k}
			by.floors[s], by.far[s] = a, all[i][k]
		}
	}
	for s, a := range by.floors {
		for _, n := range [][2]int{{s.x + 1, s.z}, {s.x - 1, s.z}, {s.x, s.z + 1}, {s.x, s.z - 1}} {
			for k := range most {
				to := at{n[0], n[1], k}
				if b, ok := by.floors[to]; ok && joined(c, a, b) {
					by.led[s] = append(by.led[s], to)
				}
			}
		}
	}
	return by
}

// inOrder are all floors in the order, picked one by one: each time the one that is ahead of all that are left.
func (by plot) inOrder() []at {
	ahead := func(a, b at) bool {
		switch {
		case by.far[a] != by.far[b]:
			return by.far[a] > by.far[b]
		case a.z != b.z:
			return a.z < b.z
		case a.x != b.x:
			return a.x < b.x
		}
		return by.floors[a].Y < by.floors[b].Y
	}
	var l []at
	for s := range by.floors {
		i := 0
		for i < len(l) && ahead(l[i], s) {
			i++
		}
		l = slices.Insert(l, i, s)
	}
	return l
}

// joins is the number of the region that a floor joins; 0, if there is none: all regions are gone through, from 1 on.
func (by plot) joins(in map[at]int, regions int, s at) int {
	var above, beside []int
	for k := range most {
		above = append(above, in[at{s.x, s.z, k}])
	}
	for _, to := range by.led[s] {
		if by.floors[to].Area == by.floors[s].Area {
			beside = append(beside, in[to])
		}
	}
	for n := 1; n <= regions; n++ {
		if slices.Contains(beside, n) && !slices.Contains(above, n) {
			return n
		}
	}
	return 0
}

// tally tells how often something happened while regions grew.
type tally map[string]int

// grown are the regions, told by the chapter's words one after the other.
func (by plot) grown(seen tally) map[at]int {
	in, regions := map[at]int{}, 0
	order := by.inOrder()
	for level := 6; level >= 0; level-- {
		begun := 0
		for {
			for round := 0; ; round++ {
				some := false
				for _, s := range order {
					if by.far[s] != level || by.floors[s].Area == 0 || in[s] != 0 {
						continue
					}
					n := by.joins(in, regions, s)
					if n == 0 {
						continue
					}
					in[s], some = n, true
					by.note(seen, in, s, round)
				}
				if !some {
					break
				}
			}
			i := slices.IndexFunc(order, func(s at) bool { return by.far[s] == level && by.floors[s].Area > 0 && in[s] == 0 })
			if i < 0 {
				break
			}
			regions++
			begun++
			in[order[i]] = regions
			for _, to := range by.led[order[i]] {
				if in[to] > 0 && by.floors[to].Area == by.floors[order[i]].Area {
					seen["begun beside a region of its area"]++
				}
			}
		}
		if begun > 0 {
			seen["begun at level "+strconv.Itoa(level)]++
		}
	}
	return in
}

// note tells of a floor that has just joined a region.
func (by plot) note(seen tally, in map[at]int, s at, round int) {
	if round > 0 {
		seen["joined later"]++
	}
	for _, to := range by.led[s] {
		if in[to] == 0 || by.floors[to].Area != by.floors[s].Area {
			continue
		}
		if in[to] > in[s] {
			seen["joined the lesser"]++
		}
		if in[to] < in[s] {
			seen["joined another one than the least"]++
		}
	}
}

// gridHolds has Build, Order, Floors, Count and Check tell of a grid what the second way tells.
func gridHolds(t *testing.T, c api.Config, g api.Grid, seen tally) [][]int {
	t.Helper()
	was := copied(g)
	by := plotOf(t, c, g)
	want, got := by.grown(seen), built(t, c, g)
	for i, l := range got {
		for k, n := range l {
			if s := (at{g.X + i%g.W, g.Z + i/g.W, k}); n != want[s] {
				t.Fatalf("Build(%v, %v) =%s: %d at %v; want %d", c, g, shown(g, got), n, s, want[s])
			}
		}
	}
	var order []api.Spot
	for _, s := range by.inOrder() {
		order = append(order, api.Spot{X: s.x, Z: s.z, Y: by.floors[s].Y})
	}
	if l := slices.Collect(Order(c, g)); !slices.Equal(l, order) {
		t.Fatalf("Order(%v, %v) goes over %v; want %v", c, g, l, order)
	}
	greatest := 0
	for _, n := range want {
		greatest = max(greatest, n)
	}
	if n := Count(got); n != greatest {
		t.Fatalf("Count(%v) = %d; want %d", got, n, greatest)
	}
	for n := -1; n <= min(greatest+1, 9); n++ {
		floorsHold(t, g, got, n)
	}
	if e := Check(c, g, got); e != api.OK {
		t.Fatalf("Check(%v, %v, %v) = %v", c, g, shown(g, got), e)
	}
	if !alike(g, was) {
		t.Fatalf("of %v, %v is left", was, g)
	}
	return got
}

// built is what Build answers; it has a row of each column, nil of a column of no floor.
func built(t *testing.T, c api.Config, g api.Grid) [][]int {
	t.Helper()
	l, e := Build(c, g)
	if e != api.OK || len(l) != len(g.Floors) || len(l) == 0 && l != nil {
		t.Fatalf("Build(%v, %v) = %v, %v", c, g, l, e)
	}
	for i, row := range l {
		if len(row) != len(g.Floors[i]) || len(row) == 0 && row != nil {
			t.Fatalf("Build(%v, %v): the %d-th column has %v", c, g, i, row)
		}
	}
	return l
}

// floorsHold has Floors tell those that going through the grid column by column tells.
func floorsHold(t *testing.T, g api.Grid, l [][]int, n int) {
	t.Helper()
	var want []api.Spot
	for i := range g.Floors {
		for k, a := range g.Floors[i] {
			if l[i][k] == n {
				want = append(want, api.Spot{X: g.X + i%g.W, Z: g.Z + i/g.W, Y: a.Y})
			}
		}
	}
	if got := Floors(g, l, n); !slices.Equal(got, want) || len(got) == 0 && got != nil {
		t.Fatalf("Floors(%v, %v, %d) = %v; want %v", g, l, n, got, want)
	}
}

// spots reads spots that are written so: "x z y, x z y".
func spots(s string) []api.Spot {
	var l []api.Spot
	for _, one := range strings.Split(s, ",") {
		if n := strings.Fields(one); len(n) == 3 {
			x, _ := strconv.Atoi(n[0])
			z, _ := strconv.Atoi(n[1])
			y, _ := strconv.Atoi(n[2])
			l = append(l, api.Spot{X: x, Z: z, Y: y})
		}
	}
	return l
}

// P16.1: the order by name: clearances first, then z, x, height; floors of area 0 stand among those of clearance 0.
func TestOrder(t *testing.T) {
	for _, x := range []struct {
		name string
		g    api.Grid
		want string
	}{
		{"of no column", api.Grid{}, ""},
		{"of a column of no floor", drawn(4, 4, "."), ""},
		{"of columns of no floor", drawn(4, 4, ". .", ". ."), ""},
		{"of one floor", drawn(-4, 9, "7a"), "-4 9 7"},
		{"of one floor of area 0", drawn(-4, 9, "7o"), "-4 9 7"},
		{"by height, in one column", drawn(2, 3, "-5a,0b,9o,20g"), "2 3 -5, 2 3 0, 2 3 9, 2 3 20"},
		{"by x, in one row", drawn(-1, 3, "5a 4a 3a 2a"), "-1 3 5, 0 3 4, 1 3 3, 2 3 2"},
		{"by z, in one row of columns behind one another", drawn(7, -1, "5a", "4a", "3a", "2a"), "7 -1 5, 7 0 4, 7 1 3, 7 2 2"},
		{"by z ahead of x, by x ahead of height", drawn(-1, -1, "9a,12a 4a", "0a 1a,30a"), "-1 -1 9, -1 -1 12, 0 -1 4, -1 0 0, 0 0 1, 0 0 30"},
		{"past columns of no floor", drawn(0, 0, ". 3a .", "2a . 1a,8a"), "1 0 3, 0 1 2, 2 1 1, 2 1 8"},
		{"of areas 0 among others", drawn(0, 0, "1a 1o 1b", "1o 1a 1o"), "0 0 1, 1 0 1, 2 0 1, 0 1 1, 1 1 1, 2 1 1"},
		{"of two clearances", drawn(5, 5, "0a 0a 0a", "0a 0a 0a", "0a 0a 0a"), "6 6 0, 5 5 0, 6 5 0, 7 5 0, 5 6 0, 7 6 0, 5 7 0, 6 7 0, 7 7 0"},
		{"of two clearances, the second in the same column", drawn(5, 5, "0a 0a 0a", "0a -9a,0a,9o 0a", "0a 0a 0a"), "6 6 0, 5 5 0, 6 5 0, 7 5 0, 5 6 0, 6 6 -9, 6 6 9, 7 6 0, 5 7 0, 6 7 0, 7 7 0"},
		{"of the same clearance, rows further on", drawn(0, 0, "0a 0a 0a .", "0a 0a 0a 0a", "0a 0a 0a 0a", ". 0a 0a 0a"), "1 1 0, 2 2 0, 0 0 0, 1 0 0, 2 0 0, 0 1 0, 2 1 0, 3 1 0, 0 2 0, 1 2 0, 3 2 0, 1 3 0, 2 3 0, 3 3 0"},
	} {
		if got := slices.Collect(Order(config(0), x.g)); !slices.Equal(got, spots(x.want)) {
			t.Errorf("%s: %v", x.name, got)
		}
		gridHolds(t, config(3), x.g, tally{})
	}
}

// P16.1: a flat grid of each Clear, so that there are floors of each clearance up to the cap: each square ring from the midst outwards.
func TestOrderOfEachClearance(t *testing.T) {
	for clear := range 4 {
		limit := clear + 3
		g := plain(-3, 8, 2*limit+3, 2*limit+3)
		var want []api.Spot
		for n := limit; n >= 0; n-- {
			for z := range g.D {
				for x := range g.W {
					if min(x, z, g.W-1-x, g.D-1-z, limit) == n {
						want = append(want, api.Spot{X: g.X + x, Z: g.Z + z})
					}
				}
			}
		}
		if got := slices.Collect(Order(config(clear), g)); !slices.Equal(got, want) {
			t.Errorf("with Clear %d the order is %v", clear, got)
		}
	}
}

// P16.1, R4: a range that is left at each floor, and gone over again, in the midst of another one, too.
func TestOrderLeftEarly(t *testing.T) {
	g := rolling(-3, 4, 5, 4, 5, 3, 11)
	order := Order(config(0), g)
	all := slices.Collect(order)
	if len(all) < 30 {
		t.Fatal(len(all))
	}
	for n := range len(all) + 1 {
		var l []api.Spot
		for s := range order {
			if l = append(l, s); len(l) >= n {
				break
			}
		}
		if !slices.Equal(l, all[:max(n, 1)]) {
			t.Fatalf("left at the %d-th floor, the order was %v", n, l)
		}
		if again := slices.Collect(order); !slices.Equal(again, all) {
			t.Fatalf("gone over again, the order is %v", again)
		}
	}
	i := 0
	for s := range order {
		if s != all[i] || !slices.Equal(slices.Collect(order), all) {
			t.Fatalf("the %d-th is %v", i, s)
		}
		i++
	}
}

// R4: the order tells what there was when the call was made.
func TestOrderOfWhatThereWas(t *testing.T) {
	g := rolling(-3, 4, 5, 4, 5, 3, 12)
	want := slices.Collect(Order(config(1), g))
	order := Order(config(1), g)
	for i := range g.Floors {
		blot(g.Floors[i], f(77, 99, 0))
		g.Floors[i] = nil
	}
	if got := slices.Collect(order); !slices.Equal(got, want) {
		t.Errorf("of %v, %v is gone over", want, got)
	}
}

// P16.1: regions by name.
func TestBuild(t *testing.T) {
	for _, x := range []struct {
		name string
		g    api.Grid
		want string
	}{
		{"the chapter's first", drawn(0, 0, "0a 0a 0a"), " 1 1 1"},
		{"two storeys that are not linked", drawn(0, 0, "0a,9a 0a,9a", "0a,9a 0a,9a"), " 1,2 1,2 / 1,2 1,2"},
		{"one column", drawn(0, 0, "0a"), " 1"},
		{"one column of no floor", drawn(0, 0, "."), " ."},
		{"one column of area 0", drawn(0, 0, "0o"), " 0"},
		{"one column of several floors", drawn(0, 0, "0a,4a,8o,12g"), " 1,2,0,3"},
		{"one row behind another", drawn(0, 0, "0a", "1a", "2a", "1a"), " 1 / 1 / 1 / 1"},
		{"a step that is too high", drawn(0, 0, "0a 1a 3a 3a"), " 1 1 2 2"},
		{"too little room", drawn(0, 0, "0a 0a,2a 0a"), " 1 2,3 4"},
		{"a hole between", drawn(0, 0, "0a . 0a"), " 1 . 2"},
		{"areas 0, 1 and the greatest side by side", drawn(0, 0, "0a 0o 0a 0g 0g 0a", "0g 0o 0a 0g 0o 0a"), " 1 0 2 3 3 4 / 5 0 2 3 0 4"},
		{"areas all round", drawn(0, 0, "0a 0a 0a", "0a 0b 0a", "0a 0a 0a"), " 2 2 2 / 2 1 2 / 2 2 2"},
		{"areas across a corner", drawn(0, 0, "0a 0b", "0b 0a"), " 1 2 / 3 4"},
		{"all of area 0", drawn(0, 0, "0o 0o", "0o 0o,9o"), " 0 0 / 0 0,0"},
		{"area 0 between", drawn(0, 0, "0a 0a 0a 0a 0a", "0a 0o 0o 0o 0a", "0a 0o 0a 0o 0a", "0a 0o 0o 0o 0a", "0a 0a 0a 0a 0a"), " 1 1 1 1 1 / 1 0 0 0 1 / 1 0 2 0 1 / 1 0 0 0 1 / 1 1 1 1 1"},
		{"joined at a later going over, from the right", drawn(0, 0, ". . 0a", "0a 0a 0a"), " . . 1 / 1 1 1"},
		{"joined at a later going over, from below", drawn(0, 0, "0a . 0a", "0a . 0a", "0a 0a 0a"), " 1 . 1 / 1 . 1 / 1 1 1"},
		{"a way there and back", drawn(0, 0, "0a 0a 0a 0a 0a", ". . . . 0a", "0a 0a 0a 0a 0a", "0a . . . .", "0a 0a 0a 0a 0a"), " 1 1 1 1 1 / . . . . 1 / 1 1 1 1 1 / 1 . . . . / 1 1 1 1 1"},
		{"a ramp that winds round once", drawn(0, 0, "0a,4a 1a", "3a 2a"), " 1,2 1 / 1 1"},
		{"a ramp that winds round, and on", drawn(0, 0, "0a,4a,8a 1a,5a", "3a,7a 2a,6a"), " 1,2,3 1,2 / 1,2 1,2"},
		{"a storey above that a ramp leads to: a floor of it joins the other one, though the lesser is linked with it", drawn(0, 0, ". 0a,9a 0a,9a 0a,9a", ". . 8a 1a", ". . 7a 2a", ". . 6a 3a", ". . 5a 4a"), " . 1,2 1,2 1,2 / . . 1 1 / . . 1 1 / . . 1 1 / . . 1 1"},
		{"the same, of two areas", drawn(0, 0, ". 0a,9a 0a,9a 0a,9b", ". . 8a 1a", ". . 7a 2a", ". . 6a 3a", ". . 5a 4a"), " . 1,2 1,2 1,3 / . . 1 1 / . . 1 1 / . . 1 1 / . . 1 1"},
		{"the same from the top: the storey above is the lesser one of the column that comes first", drawn(0, 0, "9a 9a 0a,9a 0a,9a", ". . 1a 8a", ". . 2a 7a", ". . 3a 6a", ". . 4a 5a"), " 1 1 2,1 2,1 / . . 1 1 / . . 1 1 / . . 1 1 / . . 1 1"},
		{"a storey above that a ramp leads to, whose last column it goes round", drawn(0, 0, "0a,4a 0a,4a", "1a 4a", "2a 3a"), " 1,2 1,2 / 1 1 / 1 1"},
	} {
		if got := shown(x.g, gridHolds(t, config(0), x.g, tally{})); got != x.want {
			t.Errorf("%s:%s; want%s", x.name, got, x.want)
		}
	}
}

// flats is a grid of one floor a column, of height 0: a letter from a to g is its area, o none, . a hole.
func flats(rows ...string) api.Grid {
	for i, row := range rows {
		var l []string
		for _, r := range row {
			if r == '.' {
				l = append(l, ".")
			} else {
				l = append(l, "0"+string(r))
			}
		}
		rows[i] = strings.Join(l, " ")
	}
	return drawn(-5, 9, rows...)
}

// P16.1: levels by name: regions begin where the clearance is greatest, and what is between them joins the lesser number of those beside it.
func TestBuildByLevels(t *testing.T) {
	for _, x := range []struct {
		name string
		g    api.Grid
		want string
	}{
		{"two rooms with a door between", flats("aaa.aaa", "aaaaaaa", "aaa.aaa"), "111.122 1111122 111.111"},
		{"two rooms with a door between, one below the other", flats("aaa", "aaa", "aaa", ".a.", "aaa", "aaa", "aaa"), "111 111 111 .1. 111 221 221"},
		{"the lesser is further to the right", flats("....aaa", "aaa.aaa", "aaaaaaa", "aaa....", "......."), "....111 222.111 2222111 222.... ......."},
		{"a row of doors runs on from the first one", flats("aaa....aaa", "aaaaaaaaaa", "aaa....aaa"), "111....122 1111111122 111....111"},
		{"a row of doors runs back step by step", flats("......aaa", "aaa...aaa", "aaa..aaaa", "aaaaaa...", "aaa......"), "......111 222...111 222..1111 222222... 222......"},
		{"a greater room further on begins first", flats("aaa..aaaaa", "aaa..aaaaa", "aaa..aaaaa", ".a...aaaaa", ".aaaaaaaaa"), "222..11111 222..11111 222..11111 .2...11111 .222211111"},
		{"a region begins at a lower level beside a greater one, of another area", flats("aaaaa", "aaaaa", "aabaa", "aaaaa", "aaaaa"), "22222 22222 22122 22222 22222"},
		{"three levels", flats("aaaaaobbb", "aaaaa.bbb", "aaaaaabbb", "aaaaa....", "aaaaa.a.b"), "111110222 11111.222 111111222 11111.... 11111.3.4"},
		{"two rooms of two levels, the lower one ahead", flats("aaa.....", "aaaaaaaa", "aaaaaaaa", "...aaaaa", "...aaaaa", "...aaaaa"), "222..... 22221111 22211111 ...11111 ...11111 ...11111"},
	} {
		l := gridHolds(t, config(0), x.g, tally{})
		got := strings.ReplaceAll(strings.ReplaceAll(shown(x.g, l)[1:], " /", "/"), " ", "")
		if got = strings.ReplaceAll(got, "/", " "); got != x.want {
			t.Errorf("%s: %s; want %s", x.name, got, x.want)
		}
	}
}

// mirrored is a grid the other way round in x.
func mirrored(g api.Grid) api.Grid {
	g.Floors = slices.Clone(g.Floors)
	for z := range g.D {
		slices.Reverse(g.Floors[z*g.W : (z+1)*g.W])
	}
	return g
}

// P16.1: a floor between two rooms that meet across a corner joins the lesser number, whichever of the four sides that is at, and whichever other one the greater is at.
func TestBuildJoinsTheLesser(t *testing.T) {
	for _, x := range []struct {
		g              api.Grid
		floors, lesser [2][2]int // the floors between, and which floor beside each is of the lesser region
		greater        [2]int    // the one beside both that is of the greater region
	}{
		{flats(".aaa", "aaaa", "aaaa", "aaa."), [2][2]int{{1, 1}, {2, 2}}, [2][2]int{{2, 1}, {2, 1}}, [2]int{1, 2}},
		{flats("...aaa", "aaaaaa", "aaaaaa", "aaaaa.", "aaaaa.", "aaaaa."), [2][2]int{{3, 1}, {4, 2}}, [2][2]int{{3, 2}, {3, 2}}, [2]int{4, 1}},
	} {
		for _, turned := range []bool{false, true} {
			g := x.g
			number := func(l [][]int, at [2]int) int {
				if turned {
					at[0] = g.W - 1 - at[0]
				}
				return l[at[1]*g.W+at[0]][0]
			}
			if turned {
				g = mirrored(g)
			}
			seen := tally{}
			l := gridHolds(t, config(0), g, seen)
			for i, at := range x.floors {
				if number(l, at) != 1 || number(l, x.lesser[i]) != 1 || number(l, x.greater) != 2 || seen["joined the lesser"] < 2 {
					t.Errorf("between two rooms:%s", shown(g, l))
				}
			}
		}
	}
}

// P16.1: a ramp, one column wide, that winds round: each time round is a region of its own, so that no column has two floors of one.
func TestBuildOfRampsThatWindRound(t *testing.T) {
	for n := range 8*most + 1 {
		g := wound(-3, 7, 0, n)
		l := gridHolds(t, config(n%4), g, tally{})
		if want := (n + 7) / 8; Count(l) != want {
			t.Fatalf("a ramp of %d columns has%s", n, shown(g, l))
		}
	}
	// Of two heights a column, where Climb is 2.
	c := config(1)
	c.Climb = 2
	g := wound(0, 0, 0, 40)
	for _, l := range g.Floors {
		for k := range l {
			l[k].Y, l[k].Top = 2*l[k].Y, 2*l[k].Top
		}
	}
	if l := gridHolds(t, c, g, tally{}); Count(l) != 5 {
		t.Error(shown(g, l))
	}
	if l := gridHolds(t, config(1), g, tally{}); Count(l) != 40 {
		t.Error(shown(g, l))
	}
}

// P16.1: flat grids of one column, one row, of all sides up to the greatest: one region, whatever the levels.
func TestBuildOfFlatGrids(t *testing.T) {
	for clear := range 4 {
		for w := range 12 {
			for _, d := range []int{1, 2, w, 2*clear + 7} {
				g := plain(-far, far, w, d)
				if l := gridHolds(t, config(clear), g, tally{}); Count(l) != min(1, w*d) {
					t.Fatalf("a flat grid of %d by %d, Clear %d, has%s", w, d, clear, shown(g, l))
				}
			}
		}
	}
	for _, n := range []int{1, most} {
		g := piled(far, -far, far, far, n, 4)
		l := built(t, config(3), g)
		for i := range l {
			for k := range l[i] {
				if l[i][k] != k+1 {
					t.Fatalf("of %d storeys, the %d-th one is in region %d", n, k, l[i][k])
				}
			}
		}
		if e := Check(config(3), g, l); e != api.OK {
			t.Fatal(e)
		}
	}
}

// P16.1: grids of each shape, by configs at each bound.
func TestGoodGrids(t *testing.T) {
	for clear := range 4 {
		for _, c := range append(goodConfigs(), config(clear)) {
			for _, g := range goodGrids() {
				gridHolds(t, c, g, tally{})
			}
		}
	}
}

// P16.1: all choices of holes, areas, steps in a grid of 3 by 2; of heights in one of 2 by 3, with a storey above.
func TestBuildOfAllSmallGrids(t *testing.T) {
	kinds := [][]api.Floor{nil, col(p(0, sky)), col(f(0, sky, 2)), col(p(2, sky)), col(f(0, sky, 0)), col(p(0, 3), p(3, sky))}
	for choice := range 6 * 6 * 6 * 6 * 6 * 6 {
		if choice%3 > 0 && choice > 1000 {
			continue // a third of them will do
		}
		g := api.Grid{X: -1, Z: 1, W: 3, D: 2}
		for n := choice; len(g.Floors) < 6; n /= 6 {
			g.Floors = append(g.Floors, kinds[n%6])
		}
		gridHolds(t, config(0), g, tally{})
	}
	for choice := range 3 * 3 * 3 * 3 * 3 * 3 {
		g := api.Grid{X: -1, Z: 1, W: 2, D: 3}
		for n := choice; len(g.Floors) < 6; n /= 3 {
			g.Floors = append(g.Floors, col(p(n%3, n%3+4), p(4+(n+1)%3, sky)))
		}
		for i, l := range g.Floors {
			if l[0].Top > l[1].Y {
				g.Floors[i][0].Top = l[1].Y
			}
		}
		gridHolds(t, config(0), g, tally{})
	}
}

// P16.1, P16.4: strewn, rolling and leaning grids of several storeys, by each Climb and Height; all that may happen while regions grow happens often enough.
func TestStrewnGrids(t *testing.T) {
	seen := tally{}
	for climb := range 9 {
		for seed, height := range []int{climb + 1, climb + 2, climb + 5, 32} {
			c := api.Config{Clear: (climb + seed) % 4, Climb: climb, Height: height, Run: 1, W: 8, D: 8}
			for i := range 4 {
				g := strewn(c, 5*seed-far, far-7*climb, 1+(2*seed+3*i)%8, 1+(climb+3*i)%8, []int{1, 3, most}[i%3], []int{1, 2, mostArea}[(i+seed)%3], uint32(100*climb+10*seed+i))
				gridHolds(t, c, g, seen)
			}
		}
	}
	for height := 1; height <= 32; height++ {
		for climb := range min(height, 9) {
			c := api.Config{Clear: (climb + height) % 4, Climb: climb, Height: height, Run: 1, W: 8, D: 8}
			gridHolds(t, c, strewn(c, height, -climb, 1+height%5, 1+climb, 3, 1+(height+climb)%3, uint32(1000+40*climb+height)), seen)
		}
	}
	for seed := range uint32(24) {
		c := config(int(seed) % 4)
		gridHolds(t, c, rolling(-8, 5, 4+int(seed)%9, 11, []int{5, 20, 90, 400}[seed/4%4], 1+int(seed)%2, 300+seed), seen)
		gridHolds(t, c, sloped(3, -5, 4+int(seed)%5, 7, 400+seed), seen)
		gridHolds(t, c, landed(-far, far, 500+seed), seen)
		gridHolds(t, c, wound(-9, 9, int(seed)%8, 9+2*int(seed)), seen)
	}
	for seed := range uint32(4) {
		gridHolds(t, config(int(seed)), rolling(0, 0, 11, 10, 900, 1, 600+seed), seen)
	}
	for _, s := range []string{"joined later", "joined the lesser", "joined another one than the least", "begun beside a region of its area"} {
		if seen[s] < 15 {
			t.Errorf("%s: only %d", s, seen[s])
		}
	}
	for level := range 5 {
		if s := "begun at level " + strconv.Itoa(level); seen[s] < 3 {
			t.Errorf("%s: only %d", s, seen[s])
		}
	}
}

// v is a corner of a triangle.
func v(x, y, z int) api.Vertex { return api.Vertex{X: x, Y: y, Z: z} }

// sheet is two triangles, from a corner to another one, that rise by x from a height to another one.
func sheet(x0, z0, x1, z1, from, to int) []api.Tri {
	return []api.Tri{
		{Id: 1, V: [3]api.Vertex{v(x0, from, z0), v(x0, from, z1), v(x1, to, z1)}},
		{Id: 2, V: [3]api.Vertex{v(x0, from, z0), v(x1, to, z1), v(x1, to, z0)}},
	}
}

// P16.1: floors of a built world: a ground, a ramp that leads from it to a storey above it, and on over it.
func TestOfBuiltWorlds(t *testing.T) {
	c := api.Config{Clear: 0, Climb: 1, Height: 3, Rise: 100, Run: 1, W: 22, D: 9}
	tris := slices.Concat(sheet(0, 0, 22, 9, 0, 0), sheet(0, 1, 12, 8, 0, 12), sheet(12, 0, 22, 9, 12, 12))
	g, e := open.Build(c, tris, 0, 0, c.W, c.D)
	if e != api.OK {
		t.Fatal(e)
	}
	seen := tally{}
	l := gridHolds(t, c, g, seen)
	if Count(l) < 2 || seen["joined later"] == 0 {
		t.Errorf("%d regions, %v", Count(l), seen)
	}
}

// P16.1: the greatest ways there are of going on: a way of one column's width to and fro, which joins step by step; as many regions as floors.
func TestBuildOfLongWays(t *testing.T) {
	g := plain(0, 0, far, far)
	alone := plain(0, 0, far, far)
	for i := range g.Floors {
		if x, z := i%far, i/far; z%2 == 1 && (z%4 == 1 && x != far-1 || z%4 == 3 && x != 0) {
			g.Floors[i] = nil
		}
		alone.Floors[i][0].Y = 2 * (i%2 ^ i/far%2)
	}
	if l := built(t, config(0), g); Count(l) != 1 || Check(config(0), g, l) != api.OK {
		t.Errorf("a long way has %d regions", Count(l))
	}
	l := built(t, config(0), alone)
	for i := range l {
		if l[i][0] != i+1 {
			t.Fatalf("the %d-th floor, which is alone, is in region %d", i, l[i][0])
		}
	}
	if e := Check(config(0), alone, l); e != api.OK {
		t.Error(e)
	}
}

// P16.2: the greatest number, by name.
func TestCount(t *testing.T) {
	for _, x := range []struct {
		l    [][]int
		want int
	}{
		{nil, 0}, {[][]int{}, 0}, {[][]int{nil}, 0}, {[][]int{{}}, 0}, {[][]int{nil, {}, nil}, 0},
		{[][]int{{0}}, 0}, {[][]int{{0, 0}, nil, {0}}, 0}, {[][]int{{-1}}, 0}, {[][]int{{-7, -2}, {-9}}, 0}, {[][]int{{math.MinInt}}, 0}, {[][]int{{-1}, {0}}, 0},
		{[][]int{{1}}, 1}, {[][]int{{9}}, 9}, {[][]int{{1, 2, 3}}, 3}, {[][]int{{3, 2, 1}}, 3}, {[][]int{{1, 3, 2}}, 3}, {[][]int{{3, 3}, {3}}, 3},
		{[][]int{{5, 1}, {2}, {3, 4}}, 5}, {[][]int{{1}, {2, 5}, {3}}, 5}, {[][]int{{1}, {2}, {3, 5}}, 5}, {[][]int{{}, {4}, nil}, 4},
		{[][]int{{-9, 4}, {-5}}, 4}, {[][]int{{math.MaxInt}, {1}}, math.MaxInt}, {[][]int{{1}, {math.MinInt, math.MaxInt}}, math.MaxInt}, {[][]int{{math.MaxInt - 1}}, math.MaxInt - 1}, {[][]int{{1 << 32, 7}}, 1 << 32},
	} {
		was := copiedRows(x.l)
		if n := Count(x.l); n != x.want || !sameRows(x.l, was) {
			t.Errorf("Count(%v) = %d; want %d", was, n, x.want)
		}
	}
}

// P16.2: the floors of a number, whatever regions the numbers tell of, row by row, rising in each column.
func TestFloors(t *testing.T) {
	g := drawn(-1, 5, "0a,4a,8o 1a .", ". 2b,9o 7a,30a")
	l := [][]int{{1, 2, 0}, {1}, nil, {}, {3, 0}, {2, math.MaxInt}}
	for n, want := range map[int]string{
		1: "-1 5 0, 0 5 1", 2: "-1 5 4, 1 6 7", 3: "0 6 2", 0: "-1 5 8, 0 6 9", 4: "", -1: "", math.MinInt: "", math.MaxInt - 1: "", math.MaxInt: "1 6 30", 1<<32 + 1: "",
	} {
		if got := Floors(g, l, n); !slices.Equal(got, spots(want)) || len(got) == 0 && got != nil {
			t.Errorf("Floors of %d are %v; want %s", n, got, want)
		}
	}
	same := [][]int{{4, 4, 4}, {4}, nil, nil, {4, 4}, {4, 4}}
	if got := Floors(g, same, 4); !slices.Equal(got, spots("-1 5 0, -1 5 4, -1 5 8, 0 5 1, 0 6 2, 0 6 9, 1 6 7, 1 6 30")) {
		t.Errorf("all floors are %v", got)
	}
	for seed := range uint32(20) {
		by := &rule{seed}
		g := strewn(config(0), 5-int(seed), int(seed), 1+by.below(6), 1+by.below(6), 4, 3, seed)
		l := zeros(g)
		for i := range l {
			for k := range l[i] {
				l[i][k] = by.below(4)
			}
		}
		for n := -1; n < 5; n++ {
			floorsHold(t, g, l, n)
		}
	}
}

// unfit are rows that do not fit a grid that they are told of: a row too many or too few, at either side; in each a number too many or too few, or below 0.
func unfit(g api.Grid, good [][]int) [][][]int {
	all := [][][]int{append(copiedRows(good), nil), append(copiedRows(good), []int{1}), append([][]int{{}}, copiedRows(good)...)}
	if len(good) > 0 {
		all = append(all, copiedRows(good)[1:], copiedRows(good)[:len(good)-1], nil)
	}
	for i := range good {
		with := func(row []int) {
			l := copiedRows(good)
			l[i] = row
			all = append(all, l)
		}
		with(append(slices.Clone(good[i]), 1))
		with(append(slices.Clone(good[i]), 0))
		if len(good[i]) > 0 {
			with(slices.Clone(good[i][1:]))
		}
		for k := range good[i] {
			for _, n := range []int{-1, -2, math.MinInt, -1 << 32} {
				row := slices.Clone(good[i])
				row[k] = n
				with(row)
			}
		}
	}
	return all
}

// P16.2, P16.3: rows that do not fit, and grids that may not be.
func TestOfRowsThatDoNotFit(t *testing.T) {
	for _, g := range append(goodGrids(), rolling(3, 3, 4, 3, 4, 2, 8)) {
		for _, l := range unfit(g, built(t, config(0), g)) {
			if field.Fits(g, l) {
				t.Fatalf("%v fits %v", l, g)
			}
			for n := -2; n < 4; n++ {
				if got := Floors(g, l, n); got != nil {
					t.Fatalf("Floors(%v, %v, %d) = %v", g, l, n, got)
				}
			}
			checkHolds(t, config(1), g, l, api.ErrArg)
		}
	}
	for _, g := range wrongGrids() {
		for _, l := range [][][]int{zeros(g), nil, {{1}}} {
			for n := -1; n < 2; n++ {
				if got := Floors(g, l, n); got != nil {
					t.Fatalf("Floors(%v, %v, %d) = %v", g, l, n, got)
				}
			}
		}
	}
}

// checkHolds has Check answer so, and leave what is handed in as it is.
func checkHolds(t *testing.T, c api.Config, g api.Grid, l [][]int, want api.Errno) {
	t.Helper()
	was, wasRows := copied(g), copiedRows(l)
	if e := Check(c, g, l); e != want {
		t.Fatalf("Check(%v, %v, %s) = %v; want %v", c, g, shown(g, l), e, want)
	}
	if !alike(g, was) || !sameRows(l, wasRows) {
		t.Fatalf("of %v and %v, %v and %v are left", was, wasRows, g, l)
	}
}

// rowsOf reads numbers that are drawn as shown draws them.
func rowsOf(s string) [][]int {
	var l [][]int
	for _, column := range strings.Fields(s) {
		var row []int
		for _, n := range strings.Split(column, ",") {
			if i, err := strconv.Atoi(n); err == nil {
				row = append(row, i)
			}
		}
		l = append(l, row)
	}
	return l
}

// P16.3: what may be and what may not, by name.
func TestCheck(t *testing.T) {
	for _, x := range []struct {
		name string
		g    api.Grid
		l    string
		ok   bool
	}{
		{"nothing", api.Grid{}, "", true},
		{"columns of no floor", drawn(0, 0, ". ."), ". .", true},
		{"one", drawn(0, 0, "0a"), "1", true},
		{"one, not from 1 on", drawn(0, 0, "0a"), "2", false},
		{"0 at a floor of an area", drawn(0, 0, "0a"), "0", false},
		{"0 at a floor of the greatest area", drawn(0, 0, "0g"), "0", false},
		{"0 at a floor of area 0", drawn(0, 0, "0o"), "0", true},
		{"a number at a floor of area 0", drawn(0, 0, "0o"), "1", false},
		{"a number at one of two floors of area 0", drawn(0, 0, "0a 0a 0o 0o"), "1 1 0 1", false},
		{"0 at one of a region's floors", drawn(0, 0, "0a 0a 0a 0o"), "1 1 0 0", false},
		{"all one", drawn(0, 0, "0a 0a 0a"), "1 1 1", true},
		{"each its own", drawn(0, 0, "0a 0a 0a"), "1 2 3", true},
		{"each its own, in another order", drawn(0, 0, "0a 0a 0a"), "3 1 2", true},
		{"two where Build makes one", drawn(0, 0, "0a 0a 0a"), "2 1 1", true},
		{"1 is had by none", drawn(0, 0, "0a 0a 0a"), "2 2 2", false},
		{"2 is had by none", drawn(0, 0, "0a 0a 0a"), "1 1 3", false},
		{"3 is had by none, 4 and 5 are", drawn(0, 0, "0a 0a 0a 0a"), "1 2 4 5", false},
		{"none but the greatest", drawn(0, 0, "0a"), strconv.Itoa(math.MaxInt), false},
		{"1 and the greatest", drawn(0, 0, "0a 0a"), "1 " + strconv.Itoa(math.MaxInt), false},
		{"1 and what is it in half of its bits", drawn(0, 0, "0a 0a"), "1 4294967297", false},
		{"two areas under one number", drawn(0, 0, "0a 0b"), "1 1", false},
		{"two areas under one number, not side by side", drawn(0, 0, "0a 0a 0b 0b"), "1 2 2 2", false},
		{"areas 1 and 7, each its own", drawn(0, 0, "0a 0g"), "2 1", true},
		{"two areas in one column under one number", drawn(0, 0, "0a,9b"), "1,1", false},
		{"two floors of a column under one number", drawn(0, 0, "0a,9a"), "1,1", false},
		{"two floors of a column, each its own", drawn(0, 0, "0a,9a"), "2,1", true},
		{"two floors of a column that links lead round to", drawn(0, 0, "0a,4a 1a", "3a 2a"), "1,1 1 1 1", false},
		{"the same ones parted", drawn(0, 0, "0a,4a 1a", "3a 2a"), "1,2 1 1 1", true},
		{"the same ones parted elsewhere", drawn(0, 0, "0a,4a 1a", "3a 2a"), "1,2 1 2 1", true},
		{"the same ones parted elsewhere still", drawn(0, 0, "0a,4a 1a", "3a 2a"), "1,2 2 2 2", true},
		{"the same ones parted so that one is cut off", drawn(0, 0, "0a,4a 1a", "3a 2a"), "1,2 2 1 2", false},
		{"one above another that has no column between", drawn(0, 0, "0a,9a 0a,9a"), "1,2 2,1", false},
		{"two that are parted by another region", drawn(0, 0, "0a 0a 0a"), "1 2 1", false},
		{"pairs that are parted by another one", drawn(0, 0, "0a 0a 0a 0a 0a 0a"), "1 1 2 2 1 1", false},
		{"two regions, each parted by the other", drawn(0, 0, "0a 0a 0a 0a"), "1 2 1 2", false},
		{"the last of many is parted", drawn(0, 0, "0a 0a 0a 0a 0a 0a"), "1 1 1 1 2 1", false},
		{"the first of many is parted", drawn(0, 0, "0a 0a 0a 0a 0a 0a"), "1 2 1 1 1 1", false},
		{"parted by a hole", drawn(0, 0, "0a . 0a"), "1 . 1", false},
		{"parted by area 0", drawn(0, 0, "0a 0o 0a"), "1 0 1", false},
		{"parted by another area", drawn(0, 0, "0a 0b 0a"), "1 2 1", false},
		{"parted by a step", drawn(0, 0, "0a 2a"), "1 1", false},
		{"parted by too little room", drawn(0, 0, "0a 0a,2a"), "1 1,2", false},
		{"round a corner", drawn(0, 0, "0a 0a", "0a 0a"), "1 2 1 1", true},
		{"across a corner", drawn(0, 0, "0a 0a", "0a 0a"), "1 2 2 1", false},
		{"round another region", drawn(0, 0, "0a 0a 0a", "0a 0a 0a", "0a 0a 0a"), "1 1 1 1 2 1 1 1 1", true},
		{"as many pieces as the greatest number, though one has two", drawn(0, 0, "0a 0a 0a"), "1 3 1", false},
		{"as many numbers as the greatest less one, and a piece more", drawn(0, 0, "0a . 0a 0a"), "1 . 1 3", false},
		{"a row that goes on to the next one's begin", drawn(0, 0, "0a 0a", "0a 0a"), "2 1 1 3", false},
	} {
		t.Run(x.name, func(t *testing.T) {
			want := api.ErrArg
			if x.ok {
				want = api.OK
			}
			for clear := range 4 {
				checkHolds(t, config(clear), x.g, rowsOf(x.l), want)
			}
		})
	}
}

// mayBe is the second way of telling it: each number from 1 to the greatest in turn, all pairs of its floors, and what they lead to, told anew till nothing changes.
func (by plot) mayBe(had map[at]int) bool {
	groups := map[int][]at{}
	greatest := 0
	for s, n := range had {
		if (n > 0) != (by.floors[s].Area > 0) {
			return false
		}
		if n > 0 {
			groups[n] = append(groups[n], s)
		}
		greatest = max(greatest, n)
	}
	for n := 1; n <= greatest; n++ {
		l := groups[n]
		if len(l) == 0 {
			return false
		}
		reached := map[at]bool{l[0]: true}
		for more := true; more; {
			more = false
			for i, a := range l {
				for k, b := range l {
					if i != k && (a.x == b.x && a.z == b.z || by.floors[a].Area != by.floors[b].Area) {
						return false
					}
					if reached[a] && !reached[b] && slices.Contains(by.led[a], b) {
						reached[b], more = true, true
					}
				}
			}
		}
		if len(reached) != len(l) {
			return false
		}
	}
	return true
}

// P16.3: all numbers from 0 to 3 on all floors of small grids.
func TestCheckOfAllNumbers(t *testing.T) {
	for _, g := range []api.Grid{
		drawn(0, 0, "0a 0a 0a 0a 0a"),
		drawn(0, 0, "0a 0a 0a", "0a 0a 0a"),
		drawn(0, 0, "0a 0a 0b", "0a 0b 0b"),
		drawn(0, 0, "0a,4a 1a", "3a 2a"),
		drawn(0, 0, "0a,9a 0a,9a", "0a . "),
		drawn(0, 0, "0a,9a 0a,9a,20a"),
		drawn(0, 0, "0a 0o 0a", "0a 0a 0a"),
		drawn(0, 0, "0a,4a 1a,5a", "3a 2a"),
		drawn(0, 0, ". 0a .", "0a 0a 0a", ". 0a ."),
	} {
		by := plotOf(t, config(0), g)
		var all []at
		for i, l := range g.Floors {
			for k := range l {
				all = append(all, at{g.X + i%g.W, g.Z + i/g.W, k})
			}
		}
		may := 0
		for choice := range 1 << (2 * len(all)) {
			l, had := zeros(g), map[at]int{}
			for i, s := range all {
				n := choice >> (2 * i) & 3
				l[(s.z-g.Z)*g.W+s.x-g.X][s.k], had[s] = n, n
			}
			want := api.ErrArg
			if by.mayBe(had) {
				want = api.OK
				may++
			}
			checkHolds(t, config(0), g, l, want)
		}
		if may < 6 {
			t.Errorf("of %v, only %d may be", g, may)
		}
	}
}

// P16.3: long chains: a way to and fro under one number, parted at each of its columns in turn by a number of its own.
func TestCheckOfLongChains(t *testing.T) {
	g := plain(-20, 11, 9, 9)
	for i := range g.Floors {
		if x, z := i%9, i/9; z%2 == 1 && (z%4 == 1 && x != 8 || z%4 == 3 && x != 0) {
			g.Floors[i] = nil
		}
	}
	one := built(t, config(0), g)
	ends := 0
	for i := range one {
		if len(one[i]) == 0 {
			continue
		}
		l := copiedRows(one)
		l[i][0] = 2
		by, had := plotOf(t, config(0), g), map[at]int{}
		for k, row := range l {
			if len(row) > 0 {
				had[at{g.X + k%g.W, g.Z + k/g.W, 0}] = row[0]
			}
		}
		want := api.ErrArg
		if by.mayBe(had) {
			want = api.OK
			ends++
		}
		checkHolds(t, config(0), g, l, want)
	}
	if ends != 2 {
		t.Errorf("a way has %d ends", ends)
	}
}

// P16.3: regions as Build makes them with one number changed: Check tells of each what the second way does.
func TestCheckOfChangedNumbers(t *testing.T) {
	may, not := 0, 0
	for seed := range uint32(12) {
		c := config(int(seed) % 4)
		g := rolling(-3, 5, 5, 4, 6, 2, 700+seed)
		if seed%3 == 0 {
			g = sloped(-3, 5, 5, 4, 700+seed)
		}
		good, by := built(t, c, g), plotOf(t, c, g)
		had := map[at]int{}
		for i, row := range good {
			for k, n := range row {
				had[at{g.X + i%g.W, g.Z + i/g.W, k}] = n
			}
		}
		for i, row := range good {
			for k, was := range row {
				for n := range Count(good) + 2 {
					l := copiedRows(good)
					l[i][k] = n
					s := at{g.X + i%g.W, g.Z + i/g.W, k}
					had[s] = n
					want := api.ErrArg
					if by.mayBe(had) {
						want = api.OK
						may++
					} else {
						not++
					}
					checkHolds(t, c, g, l, want)
					had[s] = was
				}
			}
		}
	}
	if may < 500 || not < 500 {
		t.Errorf("%d may be, %d may not", may, not)
	}
}

// refused has all calls refuse, with that error.
func refused(t *testing.T, c api.Config, g api.Grid, l [][]int, want api.Errno) {
	t.Helper()
	was := copied(g)
	if got, e := Build(c, g); got != nil || e != want {
		t.Fatalf("Build(%v, %v) = %v, %v; want %v", c, g, got, e, want)
	}
	if e := Check(c, g, l); e != want {
		t.Fatalf("Check(%v, %v, %v) = %v; want %v", c, g, l, e, want)
	}
	for s := range Order(c, g) {
		t.Fatalf("Order(%v, %v) goes over %v", c, g, s)
	}
	if !alike(g, was) {
		t.Fatalf("of %v, %v is left", was, g)
	}
}

// P16.1, P16.3: a grid that may not be is refused, in each way.
func TestWrongGrids(t *testing.T) {
	for _, g := range wrongGrids() {
		if e := open.Check(g); e != api.ErrArg {
			t.Fatalf("Check(%v) = %v", g, e)
		}
		for _, c := range append(goodConfigs(), config(0), config(3)) {
			refused(t, c, g, zeros(g), api.ErrArg)
			refused(t, c, g, nil, api.ErrArg)
		}
	}
}

// P16.1, P16.3, R2: a config that may not be is told of first.
func TestWrongConfigs(t *testing.T) {
	good, wrong := goodGrids(), wrongGrids()
	for i, c := range wrongConfigs() {
		if e := whole.Check(c); e != api.ErrConfig {
			t.Fatalf("Check(%v) = %v", c, e)
		}
		for _, g := range []api.Grid{{}, plain(0, 0, 3, 3), good[i%len(good)], wrong[i%len(wrong)]} {
			refused(t, c, g, zeros(g), api.ErrConfig)
			refused(t, c, g, [][]int{{-1}, nil}, api.ErrConfig)
		}
	}
}

// blot writes over a list, and over the spare room behind it.
func blot[T any](l []T, with T) {
	for i := range l[:cap(l)] {
		l[:cap(l)][i] = with
	}
}

// roomy is the same grid, with spare room behind its columns and behind each of them, in one piece of memory.
func roomy(g api.Grid) (api.Grid, []api.Floor, [][]api.Floor) {
	var all []api.Floor
	for _, l := range g.Floors {
		all = append(append(all, l...), p(0, sky))
	}
	list := append(slices.Clone(g.Floors), col(p(0, sky)), nil)
	from := 0
	for i, l := range g.Floors {
		list[i] = all[from : from+len(l)]
		from += len(l) + 1
	}
	g.Floors = list[:len(g.Floors)]
	return g, all, list
}

// R3, R4: what is handed in stays, its spare room, too, which counts for nothing; no two columns of an answer share memory, nor do two answers, nor an answer and what was handed in.
func TestMemory(t *testing.T) {
	c := config(0)
	for _, x := range []api.Grid{plain(-1, -2, 5, 4), piled(0, 0, 3, 3, most, 4), wound(3, 8, 3, 20), strewn(c, 5, 5, 4, 4, 3, 2, 77), drawn(0, 0, "0a ."), {}} {
		want := built(t, c, x)
		for i := range max(1, len(want)) {
			g, all, list := roomy(x)
			wasAll, wasList := slices.Clone(all), slices.Clone(list)
			one, _ := Build(c, g)
			two, _ := Build(c, g)
			Build(api.Config{}, g)
			_ = slices.Collect(Order(c, g))
			Check(c, g, one)
			if !sameRows(one, want) || !sameRows(two, want) {
				t.Fatalf("Build(%v) = %v, then %v; want %v", x, one, two, want)
			}
			if !slices.Equal(all, wasAll) || !slices.EqualFunc(list, wasList, func(a, b []api.Floor) bool { return slices.Equal(a, b) }) {
				t.Fatalf("of %v, %v and %v are left", x, g, list)
			}
			if i < len(one) {
				blot(one[i], 9)
			}
			for other, l := range one {
				if other != i && !slices.Equal(l, want[other]) {
					t.Fatalf("column %d became %v by what was written over column %d", other, l, i)
				}
			}
			blot(one, []int{8})
			if !sameRows(two, want) || !alike(g, x) {
				t.Fatalf("by what was written over an answer, %v and %v have become %v and %v", want, x, two, g)
			}
			blot(all, f(-77, 77, 7))
			blot(list, col(f(-77, 77, 7)))
			if !sameRows(two, want) {
				t.Fatalf("the answer %v has become %v by what was written over what was handed in", want, two)
			}
		}
	}
}

// R4: the numbers that Floors, Count and Check are asked of stay, their spare room, too, which counts for nothing; the spots are new memory.
func TestMemoryOfRows(t *testing.T) {
	g := drawn(0, 0, "0a,9a . 0a")
	all := []int{1, 2, 7, 8, 1, 9}
	list := [][]int{all[0:2], all[2:2], all[3:4], {6}, nil}
	all[3] = 3
	was, wasList := slices.Clone(all), copiedRows(list)
	l := list[:3]
	if n := Count(l); n != 3 {
		t.Errorf("Count(%v) = %d", l, n)
	}
	one, two := Floors(g, l, 1), Floors(g, l, 1)
	if !slices.Equal(one, spots("0 0 0")) || !slices.Equal(two, one) {
		t.Errorf("the floors of 1 are %v, then %v", one, two)
	}
	blot(one, api.Spot{X: 9, Z: 9, Y: 9})
	if !slices.Equal(two, spots("0 0 0")) {
		t.Errorf("by what was written over an answer, the other one became %v", two)
	}
	if e := Check(config(0), g, l); e != api.OK {
		t.Errorf("Check answers %v", e)
	}
	if !slices.Equal(all, was) || !sameRows(list, wasList) {
		t.Errorf("%v and %v are left", all, list)
	}
}
