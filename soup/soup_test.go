package soup

import (
	"math"
	"reflect"
	"slices"
	"testing"

	"footpath/api"
)

const (
	high  = 2048
	great = 1 << 30 // the greatest id
	dear  = 1 << 20 // the greatest cost
)

// beyond are numbers far past each bound, and those that run over if one adds to them, doubles or turns them.
var beyond = []int{math.MinInt, math.MinInt + 1, math.MinInt / 2, -1 << 40, -great - 1, 1<<32 + 1, 1 << 40, 1 << 62, math.MaxInt - 1, math.MaxInt}

func config(w, d int) api.Config {
	return api.Config{Climb: 1, Height: 3, Rise: 1, Run: 1, W: w, D: d}
}

// worlds are the sizes tried: the least, the greatest, and such as have unlike sides.
var worlds = [][2]int{{1, 1}, {8, 6}, {6, 8}, {1, 32}, {32, 1}, {32, 32}}

// kit is one of the three kinds, as the tests handle it.
type kit struct {
	name  string
	kind  int
	most  int
	wrong api.Errno
	item  func(id, n int) any // may be in all worlds, if id and n may; n tells those of one id apart
	with  func(s api.Soup, l ...any) api.Soup
	items func(s api.Soup) []any
	add   func(c api.Config, s api.Soup, x any) (api.Soup, api.Errno)
	find  func(s api.Soup, id int) (any, bool)
}

func kits() []kit {
	return []kit{
		kitOf(kit{name: "triangles", kind: 0, most: 200, wrong: api.ErrTri}, aTri, func(s *api.Soup) *[]api.Tri { return &s.Tris }, AddTri, Tri),
		kitOf(kit{name: "boxes", kind: 1, most: 16, wrong: api.ErrArg}, aBox, func(s *api.Soup) *[]api.Box { return &s.Boxes }, AddBox, Box),
		kitOf(kit{name: "hops", kind: 2, most: 16, wrong: api.ErrArg}, aHop, func(s *api.Soup) *[]api.Hop { return &s.Hops }, AddHop, Hop),
	}
}

func aTri(id, n int) api.Tri {
	return api.Tri{Id: id, V: [3]api.Vertex{{Y: n}, {X: 1}, {Z: 1}}}
}

func aBox(id, n int) api.Box { return api.Box{Id: id, Y0: -high, Y1: n} }

func aHop(id, n int) api.Hop {
	return api.Hop{Id: id, To: api.Spot{Y: n}, Area: 1}
}

func kitOf[T any](k kit, item func(id, n int) T, list func(*api.Soup) *[]T, add func(api.Config, api.Soup, T) (api.Soup, api.Errno), find func(api.Soup, int) (T, bool)) kit {
	k.item = func(id, n int) any { return item(id, n) }
	k.with = func(s api.Soup, l ...any) api.Soup {
		var made []T
		for _, x := range l {
			made = append(made, x.(T))
		}
		*list(&s) = made
		return s
	}
	k.items = func(s api.Soup) []any {
		var l []any
		for _, x := range *list(&s) {
			l = append(l, x)
		}
		return l
	}
	k.add = func(c api.Config, s api.Soup, x any) (api.Soup, api.Errno) { return add(c, s, x.(T)) }
	k.find = func(s api.Soup, id int) (any, bool) { return find(s, id) }
	return k
}

// row are items of these ids.
func (k kit) row(ids ...int) []any {
	var l []any
	for i, id := range ids {
		l = append(l, k.item(id, i%9))
	}
	return l
}

// soup has items of these ids, and nothing of the other kinds.
func (k kit) soup(ids ...int) api.Soup { return k.with(api.Soup{}, k.row(ids...)...) }

func (k kit) ids(s api.Soup) []int {
	var l []int
	for _, x := range k.items(s) {
		l = append(l, int(reflect.ValueOf(x).FieldByName("Id").Int()))
	}
	return l
}

// upTo are the ids 1 to n.
func upTo(n int) []int {
	var l []int
	for id := 1; id <= n; id++ {
		l = append(l, id)
	}
	return l
}

// full has as many of each kind as may be.
func full() api.Soup {
	var s api.Soup
	for _, k := range kits() {
		s = k.with(s, k.row(upTo(k.most)...)...)
	}
	return s
}

// mixed has some of each kind, the same ids among them.
func mixed() api.Soup {
	var s api.Soup
	for _, k := range kits() {
		s = k.with(s, k.row(2, 5, 9+k.kind)...)
	}
	return s
}

// twin is the same soup in other memory; beside it lies spare room, filled.
func twin(s api.Soup) api.Soup {
	return api.Soup{Tris: roomy(s.Tris, aTri(77, 7)), Boxes: roomy(s.Boxes, aBox(77, 7)), Hops: roomy(s.Hops, aHop(77, 7))}
}

func roomy[T any](l []T, spare T) []T {
	return append(slices.Clone(l), spare, spare, spare)[:len(l)]
}

// all is a soup's lists with the spare room behind them.
func all(s api.Soup) api.Soup {
	return api.Soup{Tris: s.Tris[:cap(s.Tris)], Boxes: s.Boxes[:cap(s.Boxes)], Hops: s.Hops[:cap(s.Hops)]}
}

// scribble writes over all of a soup's memory.
func scribble(s api.Soup) {
	s = all(s)
	for i := range s.Tris {
		s.Tris[i] = aTri(-5, -5)
	}
	for i := range s.Boxes {
		s.Boxes[i] = aBox(-5, -5)
	}
	for i := range s.Hops {
		s.Hops[i] = aHop(-5, -5)
	}
}

func nothing(s api.Soup) bool { return len(s.Tris)+len(s.Boxes)+len(s.Hops) == 0 }

func checkErrno(t *testing.T, what any, got, want api.Errno) {
	t.Helper()
	if got != want {
		t.Errorf("%+v: %v; want %v", what, got, want)
	}
}

// checkAdd asks for an error, nothing beside it, or for the soup that is wanted.
func checkAdd(t *testing.T, k kit, c api.Config, s api.Soup, x any, want api.Errno, ids []int) {
	t.Helper()
	got, e := k.add(c, s, x)
	if e != want || e != api.OK && !nothing(got) || e == api.OK && !slices.Equal(k.ids(got), ids) {
		t.Errorf("%s: add of %+v to %v: %v, %v; want %v, %v", k.name, x, k.ids(s), k.ids(got), e, ids, want)
	}
}

// checkItem asks whether an item may be, both of Check and of what adds it.
func checkItem(t *testing.T, k kit, c api.Config, x any, may bool) {
	t.Helper()
	want, wrong := api.OK, api.OK
	if !may {
		want, wrong = api.ErrArg, k.wrong
	}
	if e := Check(c, k.with(api.Soup{}, x)); e != want {
		t.Errorf("%d by %d: Check of %+v: %v; want %v", c.W, c.D, x, e, want)
	}
	got, e := k.add(c, api.Soup{}, x)
	if e != wrong || may && !slices.Equal(k.items(got), []any{x}) || !may && !nothing(got) {
		t.Errorf("%d by %d: add of %+v: %v, %v; want %v", c.W, c.D, x, got, e, wrong)
	}
}

func TestTheChaptersExamples(t *testing.T) {
	k := kits()[0]
	checkAdd(t, k, config(8, 6), k.soup(1, 5), aTri(3, 0), api.OK, []int{1, 3, 5})
	checkAdd(t, k, config(8, 6), k.soup(1, 3), aTri(3, 0), api.ErrTwice, nil)
}

func TestCheckOfNothing(t *testing.T) {
	for _, s := range []api.Soup{{}, {Tris: []api.Tri{}, Boxes: []api.Box{}, Hops: []api.Hop{}}, {Boxes: make([]api.Box, 0, 40)}} {
		for _, w := range worlds {
			checkErrno(t, s, Check(config(w[0], w[1]), s), api.OK)
		}
	}
}

func TestCheckCounts(t *testing.T) {
	checkErrno(t, "full", Check(config(1, 1), full()), api.OK)
	for _, k := range kits() {
		for _, n := range []int{1, k.most - 1, k.most, k.most + 1, 2 * k.most, 5000} {
			want := api.OK
			if n > k.most {
				want = api.ErrArg
			}
			checkErrno(t, n, Check(config(1, 1), k.soup(upTo(n)...)), want)
			checkErrno(t, n, Check(config(1, 1), k.with(full(), k.row(upTo(n)...)...)), want)
		}
	}
}

func TestIdsFromOneOn(t *testing.T) {
	for _, k := range kits() {
		for _, id := range append([]int{-2, -1, 0, 1, 2, great - 1, great, great + 1, great + 2}, beyond...) {
			checkItem(t, k, config(8, 6), k.item(id, 0), id >= 1 && id <= great)
		}
		for _, c := range []struct {
			ids  []int
			want api.Errno
		}{
			{[]int{1, great}, api.OK},
			{[]int{0, 1}, api.ErrArg},
			{[]int{0, 1, great}, api.ErrArg},
			{[]int{-1, 1}, api.ErrArg},
			{[]int{1, great + 1}, api.ErrArg},
			{[]int{1, great, great + 1}, api.ErrArg},
			{[]int{math.MinInt, 1}, api.ErrArg},
			{[]int{1, math.MaxInt}, api.ErrArg},
		} {
			checkErrno(t, c.ids, Check(config(8, 6), k.soup(c.ids...)), c.want)
		}
	}
}

func TestIdsRise(t *testing.T) {
	tried := []int{1, 2, 3, great}
	for _, k := range kits() {
		for _, p := range tried {
			for _, q := range tried {
				for _, r := range tried {
					want := api.ErrArg
					if p < q && q < r {
						want = api.OK
					}
					checkErrno(t, []int{p, q, r}, Check(config(8, 6), k.soup(p, q, r)), want)
				}
			}
		}
		// In long lists at each place: two ids the other way round, and one twice.
		for i := 1; i < k.most; i++ {
			ids := upTo(k.most)
			ids[i-1], ids[i] = ids[i], ids[i-1]
			checkErrno(t, ids, Check(config(8, 6), k.soup(ids...)), api.ErrArg)
			ids = upTo(k.most)
			ids[i] = ids[i-1]
			checkErrno(t, ids, Check(config(8, 6), k.soup(ids...)), api.ErrArg)
		}
	}
}

// TestCheckLooksAtEachItem has one that may not be at each place of each list.
func TestCheckLooksAtEachItem(t *testing.T) {
	for _, k := range kits() {
		for i := range k.most {
			l := k.row(upTo(k.most)...)
			l[i] = k.item(i+1, high+1)
			checkErrno(t, l[i], Check(config(8, 6), k.with(full(), l...)), api.ErrArg)
		}
	}
}

func TestTheSameIdInTwoKinds(t *testing.T) {
	for _, k := range kits() {
		s := mixed()
		checkAdd(t, k, config(8, 6), k.with(s), k.item(5, 0), api.OK, []int{5})
		checkErrno(t, s, Check(config(8, 6), s), api.OK)
	}
}

// tried are the numbers at and beside a stretch's bounds, between them and far beyond them.
func tried(lo, hi int) []int {
	return append([]int{lo - 1, lo, lo + 1, (lo + hi) / 2, hi - 1, hi, hi + 1}, beyond...)
}

func inside(n, lo, hi int) bool { return n >= lo && n <= hi }

func TestEachNumberOfEachCorner(t *testing.T) {
	k := kits()[0]
	for _, w := range worlds {
		for _, axis := range []struct {
			lo, hi int
			field  func(*api.Vertex) *int
		}{
			{0, w[0], func(p *api.Vertex) *int { return &p.X }},
			{-high, high, func(p *api.Vertex) *int { return &p.Y }},
			{0, w[1], func(p *api.Vertex) *int { return &p.Z }},
		} {
			for _, n := range tried(axis.lo, axis.hi) {
				for corner := range 3 {
					x := aTri(4, 0)
					*axis.field(&x.V[corner]) = n
					checkItem(t, k, config(w[0], w[1]), x, inside(n, axis.lo, axis.hi) && !straight(x))
				}
			}
		}
	}
}

// straight is whether the corners lie on one line of the plane.
func straight(t api.Tri) bool {
	a, b, c := t.V[0], t.V[1], t.V[2]
	return (a.X-c.X)*(b.Z-c.Z) == (b.X-c.X)*(a.Z-c.Z)
}

func TestCornersOnOneLine(t *testing.T) {
	k := kits()[0]
	for _, c := range []struct {
		v   [3]api.Vertex
		may bool
	}{
		{[3]api.Vertex{}, false},
		{[3]api.Vertex{{}, {Y: 3}, {X: 2, Z: 1}}, false}, // upright
		{[3]api.Vertex{{}, {X: 2}, {X: 4}}, false},
		{[3]api.Vertex{{Z: 6}, {Z: 1, Y: 5}, {}}, false},
		{[3]api.Vertex{{}, {X: 4, Y: 9, Z: 2}, {X: 2, Z: 1}}, false},
		{[3]api.Vertex{{X: 8, Z: 6, Y: high}, {Y: -high}, {X: 4, Z: 3}}, false},
		{[3]api.Vertex{{X: 8, Z: 6, Y: high}, {Y: -high}, {X: 5, Z: 4}}, true},
		{[3]api.Vertex{{}, {X: 4, Z: 2}, {X: 2, Z: 2}}, true},
		{[3]api.Vertex{{}, {Z: 6, Y: high}, {X: 8, Y: -high}}, true},
		{[3]api.Vertex{{}, {X: 8}, {Z: 6}}, true}, // the other way round
	} {
		checkItem(t, k, config(8, 6), api.Tri{Id: great, V: c.v}, c.may)
	}
}

func TestBoxesBounds(t *testing.T) {
	k := kits()[1]
	for _, w := range worlds {
		for _, axis := range []struct {
			lo, hi      int
			least, most func(*api.Box) *int
		}{
			{0, w[0] - 1, func(b *api.Box) *int { return &b.X0 }, func(b *api.Box) *int { return &b.X1 }},
			{0, w[1] - 1, func(b *api.Box) *int { return &b.Z0 }, func(b *api.Box) *int { return &b.Z1 }},
			{-high, high, func(b *api.Box) *int { return &b.Y0 }, func(b *api.Box) *int { return &b.Y1 }},
		} {
			for _, p := range tried(axis.lo, axis.hi) {
				for _, q := range tried(axis.lo, axis.hi) {
					x := aBox(4, 0)
					*axis.least(&x), *axis.most(&x) = p, q
					checkItem(t, k, config(w[0], w[1]), x, p <= q && inside(p, axis.lo, axis.hi) && inside(q, axis.lo, axis.hi))
				}
			}
		}
	}
}

func TestBoxesAreas(t *testing.T) {
	for _, n := range tried(0, 7) {
		x := aBox(4, 0)
		x.Area = n
		checkItem(t, kits()[1], config(8, 6), x, inside(n, 0, 7))
	}
}

func TestBoxesTable(t *testing.T) {
	for _, c := range []struct {
		b   api.Box
		may bool
	}{
		{api.Box{Id: 1}, true},
		{api.Box{Id: 1, X1: 7, Z1: 5, Y0: -high, Y1: high, Area: 7}, true},
		{api.Box{Id: 1, X0: 7, X1: 7, Z0: 5, Z1: 5, Y0: high, Y1: high}, true},
		{api.Box{Id: 1, X0: 3, X1: 3, Z0: 2, Z1: 2, Y0: -high, Y1: -high}, true},
		{api.Box{Id: 1, X0: 5, X1: 4}, false},
		{api.Box{Id: 1, Z0: 5, Z1: 4}, false},
		{api.Box{Id: 1, Y0: 5, Y1: 4}, false},
		{api.Box{Id: 1, X1: 8}, false},
		{api.Box{Id: 1, Z1: 6}, false},
		{api.Box{Id: 1, X0: 6, X1: 6, Z0: 5, Z1: 5}, true}, // X is held by W, Z by D
		{api.Box{Id: 1, X0: 5, X1: 5, Z0: 6, Z1: 6}, false},
	} {
		checkItem(t, kits()[1], config(8, 6), c.b, c.may)
	}
}

func TestHopsSpots(t *testing.T) {
	k := kits()[2]
	for _, w := range worlds {
		for _, axis := range []struct {
			lo, hi int
			field  func(*api.Spot) *int
		}{
			{0, w[0] - 1, func(p *api.Spot) *int { return &p.X }},
			{0, w[1] - 1, func(p *api.Spot) *int { return &p.Z }},
			{-high, high, func(p *api.Spot) *int { return &p.Y }},
		} {
			for _, n := range tried(axis.lo, axis.hi) {
				for _, end := range []func(*api.Hop) *api.Spot{
					func(h *api.Hop) *api.Spot { return &h.From },
					func(h *api.Hop) *api.Spot { return &h.To },
				} {
					x := aHop(4, 0)
					*axis.field(end(&x)) = n
					checkItem(t, k, config(w[0], w[1]), x, inside(n, axis.lo, axis.hi))
					x.Both = true
					checkItem(t, k, config(w[0], w[1]), x, inside(n, axis.lo, axis.hi))
				}
			}
		}
	}
}

func TestHopsAreasAndCosts(t *testing.T) {
	for _, n := range tried(1, 7) {
		x := aHop(4, 0)
		x.Area = n
		checkItem(t, kits()[2], config(8, 6), x, inside(n, 1, 7))
	}
	for _, n := range tried(0, dear) {
		x := aHop(4, 0)
		x.Cost = n
		checkItem(t, kits()[2], config(8, 6), x, inside(n, 0, dear))
	}
}

func TestHopsTable(t *testing.T) {
	at := func(x, z, y int) api.Spot { return api.Spot{X: x, Z: z, Y: y} }
	for _, c := range []struct {
		h   api.Hop
		may bool
	}{
		{api.Hop{Id: 1, From: at(7, 5, high), To: at(0, 0, -high), Both: true, Area: 7, Cost: dear}, true},
		{api.Hop{Id: 1, From: at(0, 0, -high), To: at(7, 5, high), Area: 1}, true},
		{api.Hop{Id: 1, From: at(3, 3, 3), To: at(3, 3, 3), Area: 1}, true}, // nothing forbids it
		{api.Hop{Id: 1}, false},
		{api.Hop{Id: 1, From: at(5, 7, 0), Area: 1}, false}, // X is held by W, Z by D
		{api.Hop{Id: 1, To: at(5, 7, 0), Area: 1}, false},
		{api.Hop{Id: 1, From: at(7, 5, 0), To: at(8, 0, 0), Area: 1}, false},
	} {
		checkItem(t, kits()[2], config(8, 6), c.h, c.may)
	}
}

func badConfigs() []api.Config {
	l := []api.Config{{}, config(0, 6), config(33, 6), config(8, 0), config(8, 33), config(math.MaxInt, math.MinInt)}
	for _, set := range []func(*api.Config){
		func(c *api.Config) { c.Clear = 4 },
		func(c *api.Config) { c.Climb = 9 },
		func(c *api.Config) { c.Height = 1 },
		func(c *api.Config) { c.Rise = 101 },
		func(c *api.Config) { c.Run = 0 },
	} {
		c := config(8, 6)
		set(&c)
		l = append(l, c)
	}
	return l
}

// badSoups may not be, each for the sake of one list.
func badSoups() []api.Soup {
	var l []api.Soup
	for _, k := range kits() {
		for _, ids := range [][]int{{0}, {great + 1}, {2, 1}, {3, 3}, {5, 7, 6}, upTo(k.most + 1)} {
			l = append(l, k.with(mixed(), k.row(ids...)...))
		}
		l = append(l, k.with(mixed(), k.item(1, high+1)))
	}
	return l
}

func TestConfigsComeFirst(t *testing.T) {
	for _, c := range badConfigs() {
		for _, s := range append(badSoups(), api.Soup{}, mixed(), full()) {
			checkErrno(t, c, Check(c, s), api.ErrConfig)
			for _, k := range kits() {
				for _, x := range k.row(0, 5, 7) {
					checkAdd(t, k, c, s, x, api.ErrConfig, nil)
				}
			}
		}
	}
}

func TestSoupsComeNext(t *testing.T) {
	for _, s := range badSoups() {
		checkErrno(t, s, Check(config(8, 6), s), api.ErrArg)
		for _, k := range kits() {
			// May not be, is twice there in many of them, may be.
			for _, x := range k.row(0, 5, 7) {
				checkAdd(t, k, config(8, 6), s, x, api.ErrArg, nil)
			}
		}
	}
}

func TestWhatMayNotBeGoesAheadOfWhatIsThere(t *testing.T) {
	for _, k := range kits() {
		for _, s := range []api.Soup{{}, mixed(), full()} {
			for _, x := range []any{k.item(0, 0), k.item(great+1, 0), k.item(-1, 0), k.item(5, high+1), k.item(great, high+1)} {
				checkAdd(t, k, config(8, 6), s, x, k.wrong, nil)
			}
		}
	}
}

func TestTwiceGoesAheadOfFull(t *testing.T) {
	for _, k := range kits() {
		for _, id := range upTo(k.most) {
			checkAdd(t, k, config(8, 6), full(), k.item(id, 8), api.ErrTwice, nil)
		}
		for _, id := range []int{k.most + 1, great} {
			checkAdd(t, k, config(8, 6), full(), k.item(id, 8), api.ErrFull, nil)
		}
	}
}

func TestFullIsOfEachKindAlone(t *testing.T) {
	for _, k := range kits() {
		ids := upTo(k.most - 1)
		checkAdd(t, k, config(8, 6), k.with(full(), k.row(ids...)...), k.item(k.most, 1), api.OK, upTo(k.most))
		checkAdd(t, k, config(8, 6), k.with(full()), k.item(9, 1), api.OK, []int{9})
		// The last one may stand ahead of all the others.
		for i := range ids {
			ids[i] += 3
		}
		checkAdd(t, k, config(8, 6), k.soup(ids...), k.item(1, 1), api.OK, append([]int{1}, ids...))
		checkAdd(t, k, config(8, 6), k.with(full(), k.row(append(ids, great)...)...), k.item(1, 1), api.ErrFull, nil)
	}
}

// TestAddAtEachPlace has each list of some of the ids 2, 4, 6, 8, 10, and adds each id that is ahead of, between, on and behind them.
func TestAddAtEachPlace(t *testing.T) {
	for _, k := range kits() {
		for set := range 32 {
			var ids []int
			for i := range 5 {
				if set>>i&1 == 1 {
					ids = append(ids, 2*i+2)
				}
			}
			for _, id := range append(upTo(11), great) {
				s, x := k.soup(ids...), k.item(id, 8)
				if slices.Contains(ids, id) {
					checkAdd(t, k, config(8, 6), s, x, api.ErrTwice, nil)
					continue
				}
				want := append(slices.Clone(ids), id)
				slices.Sort(want)
				checkAdd(t, k, config(8, 6), s, x, api.OK, want)
				got, _ := k.add(config(8, 6), s, x)
				at := slices.Index(want, id)
				if l := k.items(got); !slices.Equal(slices.Delete(slices.Clone(l), at, at+1), k.items(s)) || l[at] != x {
					t.Errorf("%s: %+v to %+v: %+v", k.name, x, k.items(s), l)
				}
			}
		}
	}
}

// otherKinds is whether two soups are the same but for one kind.
func otherKinds(k kit, a, b api.Soup) bool {
	return reflect.DeepEqual(lists(k.with(a)), lists(k.with(b)))
}

// lists are all items, kind by kind: nil and empty come to the same.
func lists(s api.Soup) [3][]any {
	var l [3][]any
	for i, k := range kits() {
		l[i] = k.items(s)
	}
	return l
}

func TestOtherKindsStay(t *testing.T) {
	for _, k := range kits() {
		for _, s := range []api.Soup{mixed(), k.with(full(), k.row(5)...), k.soup(5)} {
			if got, e := k.add(config(8, 6), s, k.item(3, 0)); e != api.OK || !otherKinds(k, got, s) {
				t.Errorf("%s: added: %v, %v", k.name, got, e)
			}
			if got, e := Drop(s, k.kind, 5); e != api.OK || !otherKinds(k, got, s) {
				t.Errorf("%s: dropped: %v, %v", k.name, got, e)
			}
		}
	}
}

func TestDropEachPlace(t *testing.T) {
	for _, k := range kits() {
		for _, ids := range [][]int{{1}, {great}, {3, 5}, {3, 5, 8}, upTo(k.most)} {
			for i, id := range ids {
				s := k.soup(ids...)
				got, e := Drop(s, k.kind, id)
				if want := slices.Delete(k.items(s), i, i+1); e != api.OK || !slices.Equal(k.items(got), want) {
					t.Errorf("%s: drop of %d of %v: %v, %v", k.name, id, ids, k.ids(got), e)
				}
			}
		}
	}
}

func TestDropOfNone(t *testing.T) {
	for _, k := range kits() {
		for _, ids := range [][]int{nil, {3}, {3, 5}, {3, 5, 8}} {
			for _, id := range append([]int{-1, 0, 1, 2, 4, 6, 9, great, great + 1}, beyond...) {
				// The other kinds have such a one.
				s := k.soup(ids...)
				for _, other := range kits() {
					if other.kind != k.kind {
						s = other.with(s, other.item(id, 0))
					}
				}
				if got, e := Drop(s, k.kind, id); e != api.ErrNone || !nothing(got) {
					t.Errorf("%s: drop of %d of %v: %v, %v", k.name, id, ids, got, e)
				}
				if x, ok := k.find(s, id); ok || !reflect.ValueOf(x).IsZero() {
					t.Errorf("%s: %d of %v: %v, %v", k.name, id, ids, x, ok)
				}
			}
		}
	}
}

func TestDropsKinds(t *testing.T) {
	for _, s := range []api.Soup{{}, mixed(), full(), badSoups()[0]} {
		for _, kind := range append([]int{-2, -1, 3, 4, 5, great}, beyond...) {
			for _, id := range []int{0, 1, 3, 5} {
				if got, e := Drop(s, kind, id); e != api.ErrArg || !nothing(got) {
					t.Errorf("drop of kind %d, id %d: %v, %v", kind, id, got, e)
				}
			}
		}
	}
	for _, k := range kits() {
		got, e := Drop(mixed(), k.kind, 5)
		if e != api.OK || !slices.Equal(k.ids(got), []int{2, 9 + k.kind}) || !otherKinds(k, got, mixed()) {
			t.Errorf("drop of kind %d: %v, %v", k.kind, got, e)
		}
	}
}

// disordered are rows of ids such as may not be; some have more than may be.
func disordered() [][]int {
	long := append(upTo(300), upTo(300)...)
	slices.Reverse(long)
	return [][]int{{5, 5}, {5, 5, 5, 3}, {9, 5, 3}, {3, 9, 5, 1}, {5, 3, 5}, {0, 5}, {7, -1, 5, great + 1}, {math.MaxInt, 5, math.MinInt, 0, 5}, long}
}

// TestTheFirstOfAnIdCounts goes through soups that may not be: Drop and those that find ask for no order.
func TestTheFirstOfAnIdCounts(t *testing.T) {
	for _, k := range kits() {
		for _, ids := range disordered() {
			s := k.with(mixed(), k.row(ids...)...)
			for _, id := range ids {
				at := slices.Index(ids, id)
				want := k.items(s)[at]
				if x, ok := k.find(s, id); !ok || x != want {
					t.Fatalf("%s: %d of %v: %v, %v; want %v", k.name, id, ids, x, ok, want)
				}
				got, e := Drop(s, k.kind, id)
				if e != api.OK || !slices.Equal(k.items(got), slices.Delete(k.items(s), at, at+1)) || !otherKinds(k, got, s) {
					t.Fatalf("%s: drop of %d of %v: %v, %v", k.name, id, ids, k.ids(got), e)
				}
			}
			if got, e := Drop(s, k.kind, 2000); e != api.ErrNone || !nothing(got) {
				t.Fatalf("%s: drop of 2000 of %v: %v, %v", k.name, ids, got, e)
			}
		}
	}
}

func TestFindEachPlace(t *testing.T) {
	for _, k := range kits() {
		s := k.with(full(), k.row(upTo(k.most)...)...)
		for i, id := range upTo(k.most) {
			if x, ok := k.find(s, id); !ok || x != k.items(s)[i] {
				t.Errorf("%s: %d: %v, %v", k.name, id, x, ok)
			}
		}
		for _, id := range append([]int{-1, 0, k.most + 1, great}, beyond...) {
			if x, ok := k.find(s, id); ok || !reflect.ValueOf(x).IsZero() {
				t.Errorf("%s: %d: %v, %v", k.name, id, x, ok)
			}
		}
	}
}

// checkSame asks both ways round.
func checkSame(t *testing.T, what string, a, b api.Soup, want bool) {
	t.Helper()
	if Same(a, b) != want || Same(b, a) != want {
		t.Errorf("%s: %v, %v isn't %v", what, Same(a, b), Same(b, a), want)
	}
}

func TestSameOfNothing(t *testing.T) {
	empty := api.Soup{Tris: []api.Tri{}, Boxes: []api.Box{}, Hops: []api.Hop{}}
	checkSame(t, "none and none", api.Soup{}, api.Soup{}, true)
	checkSame(t, "nothing and none", empty, api.Soup{}, true)
	checkSame(t, "nothing and spare room", empty, api.Soup{Hops: make([]api.Hop, 0, 5)}, true)
	for _, k := range kits() {
		checkSame(t, k.name+" and none", k.soup(1), api.Soup{}, false)
		checkSame(t, k.name+" and nothing", k.soup(1), empty, false)
		checkSame(t, "no "+k.name+", but else the same", k.with(mixed()), mixed(), false)
	}
}

func TestSameGoesByAllLists(t *testing.T) {
	for _, s := range append(badSoups(), mixed(), full()) {
		checkSame(t, "twins", s, twin(s), true)
	}
	for _, k := range kits() {
		checkSame(t, k.name+", one more", k.soup(1, 2), k.soup(1, 2, 3), false)
		checkSame(t, k.name+", in another order", k.with(api.Soup{}, k.item(1, 0), k.item(2, 0)), k.with(api.Soup{}, k.item(2, 0), k.item(1, 0)), false)
		for _, other := range kits() {
			checkSame(t, k.name+" and "+other.name, k.soup(1), other.soup(1), k.kind == other.kind)
		}
	}
}

// leaves visits each number and each truth value in x.
func leaves(x reflect.Value, visit func(reflect.Value)) {
	switch x.Kind() {
	case reflect.Slice, reflect.Array:
		for i := range x.Len() {
			leaves(x.Index(i), visit)
		}
	case reflect.Struct:
		for i := range x.NumField() {
			leaves(x.Field(i), visit)
		}
	default:
		visit(x)
	}
}

func TestSameGoesFieldByField(t *testing.T) {
	s := mixed()
	seen := 0
	leaves(reflect.ValueOf(&s).Elem(), func(x reflect.Value) {
		kept := reflect.ValueOf(x.Interface())
		for _, by := range []int64{-1, 1, 1 << 32, math.MinInt64} {
			if x.Kind() == reflect.Bool {
				x.SetBool(!kept.Bool())
			} else {
				x.SetInt(kept.Int() + by)
			}
			checkSame(t, x.Type().String(), s, mixed(), false)
		}
		x.Set(kept)
		seen++
	})
	if want := 3 * (10 + 8 + 10); seen != want {
		t.Errorf("%d fields; want %d", seen, want)
	}
	checkSame(t, "put back", s, mixed(), true)
}

func TestSameGoesByTheOrderOfCorners(t *testing.T) {
	a := api.Soup{Tris: []api.Tri{aTri(1, 4)}}
	b := twin(a)
	v := &b.Tris[0].V
	v[0], v[1], v[2] = v[1], v[2], v[0]
	checkSame(t, "turned", a, b, false)
}

// orders are all orders of the ids.
func orders(ids []int) [][]int {
	if len(ids) == 0 {
		return [][]int{nil}
	}
	var l [][]int
	for i, id := range ids {
		for _, rest := range orders(slices.Delete(slices.Clone(ids), i, i+1)) {
			l = append(l, append([]int{id}, rest...))
		}
	}
	return l
}

// TestEitherOrderComesToTheSame holds P5.4's second sentence: with the three kinds, too, one behind the other.
func TestEitherOrderComesToTheSame(t *testing.T) {
	for _, k := range kits() {
		want := k.with(mixed(), k.item(1, 1), k.item(2, 2), k.item(7, 7), k.item(8, 8), k.item(great, great%9))
		for _, order := range orders([]int{1, 2, 7, 8, great}) {
			s := k.with(mixed())
			for _, id := range order {
				x, e := k.add(config(8, 6), s, k.item(id, id%9))
				if s = x; e != api.OK {
					t.Fatalf("%s: %v: %v", k.name, order, e)
				}
			}
			checkSame(t, k.name, s, want, true)
		}
	}
	for _, order := range orders([]int{0, 1, 2}) {
		var s api.Soup
		for _, kind := range order {
			k := kits()[kind]
			x, e := k.add(config(8, 6), s, k.item(4, kind))
			if s = x; e != api.OK {
				t.Fatal(order, e)
			}
		}
		checkSame(t, "kinds", s, api.Soup{Tris: []api.Tri{aTri(4, 0)}, Boxes: []api.Box{aBox(4, 1)}, Hops: []api.Hop{aHop(4, 2)}}, true)
	}
}

// TestAddedAndDroppedIsAsItWas holds P5.4's first sentence.
func TestAddedAndDroppedIsAsItWas(t *testing.T) {
	for _, k := range kits() {
		for _, s := range []api.Soup{{}, mixed(), k.soup(4), k.with(full()), k.with(full(), k.row(upTo(k.most-1)...)...)} {
			for _, id := range []int{1, 3, 4, 6, 8, k.most, great} {
				more, e := k.add(config(8, 6), s, k.item(id, 6))
				if e == api.ErrTwice {
					continue
				}
				back, f := Drop(more, k.kind, id)
				if e != api.OK || f != api.OK || len(k.items(more)) != len(k.items(s))+1 {
					t.Fatalf("%s: %d: %v, %v", k.name, id, e, f)
				}
				checkSame(t, k.name+", added", more, s, false)
				checkSame(t, k.name+", dropped again", back, s, true)
				checkErrno(t, back, Check(config(8, 6), back), api.OK)
			}
		}
	}
}

// TestDroppedAndAddedAgain goes the other way round.
func TestDroppedAndAddedAgain(t *testing.T) {
	for _, k := range kits() {
		for _, id := range upTo(k.most) {
			x, _ := k.find(full(), id)
			less, e := Drop(full(), k.kind, id)
			if e != api.OK {
				t.Fatal(k.name, id, e)
			}
			back, e := k.add(config(1, 1), less, x)
			checkErrno(t, id, e, api.OK)
			checkSame(t, k.name, back, full(), true)
		}
	}
}

// changes are calls that answer soups, with and without an error: ahead of all, between, behind all.
func changes(t *testing.T, each func(what string, call func(s api.Soup) (api.Soup, api.Errno))) {
	for _, k := range kits() {
		for _, id := range []int{1, 3, 5, 8, great, great + 1} {
			each(k.name+", added", func(s api.Soup) (api.Soup, api.Errno) { return k.add(config(8, 6), s, k.item(id, 1)) })
		}
		for _, id := range []int{2, 5, 9, 10, 11, 3} {
			each(k.name+", dropped", func(s api.Soup) (api.Soup, api.Errno) { return Drop(s, k.kind, id) })
		}
		each(k.name+", by a bad config", func(s api.Soup) (api.Soup, api.Errno) { return k.add(api.Config{}, s, k.item(1, 1)) })
	}
	each("no kind", func(s api.Soup) (api.Soup, api.Errno) { return Drop(s, 3, 5) })
}

// some are soups of which parts may be there or not, such as may not be among them.
func some() []api.Soup {
	l := append(badSoups(), mixed(), full(), api.Soup{})
	for _, k := range kits() {
		l = append(l, k.soup(5), k.with(mixed()), k.soup(9, 5, 5))
	}
	return l
}

// TestWhatIsHandedInStays holds R4's first sentence, spare room included, and that the same call answers the same.
func TestWhatIsHandedInStays(t *testing.T) {
	for _, made := range some() {
		s, kept := twin(made), twin(made)
		changes(t, func(what string, call func(s api.Soup) (api.Soup, api.Errno)) {
			a, e := call(s)
			b, f := call(s)
			if !reflect.DeepEqual(all(s), all(kept)) {
				t.Fatalf("%s: what was handed in is not as it was", what)
			}
			if e != f || !reflect.DeepEqual(lists(a), lists(b)) {
				t.Errorf("%s: %v, %v; then %v, %v", what, a, e, b, f)
			}
		})
		Check(config(8, 6), s)
		Same(s, kept)
		for _, k := range kits() {
			k.find(s, 5)
		}
		if !reflect.DeepEqual(all(s), all(kept)) {
			t.Fatalf("what was handed in is not as it was: %v", s)
		}
	}
}

// TestAnswersAreNewMemory writes over an answer, then over what was handed in.
func TestAnswersAreNewMemory(t *testing.T) {
	for _, made := range some() {
		changes(t, func(what string, call func(s api.Soup) (api.Soup, api.Errno)) {
			s, kept := twin(made), twin(made)
			a, _ := call(s)
			b, _ := call(s)
			want := lists(b)
			scribble(a)
			if !reflect.DeepEqual(all(s), all(kept)) {
				t.Fatalf("%s: an answer shares memory with what was handed in", what)
			}
			if !reflect.DeepEqual(lists(b), want) {
				t.Fatalf("%s: two answers share memory", what)
			}
			scribble(s)
			if !reflect.DeepEqual(lists(b), want) {
				t.Fatalf("%s: an answer hangs on what was handed in", what)
			}
		})
	}
}

// TestNothingAndNoneAnswerAlike asks with lists of nothing, then with none.
func TestNothingAndNoneAnswerAlike(t *testing.T) {
	empty := api.Soup{Tris: []api.Tri{}, Boxes: make([]api.Box, 0, 9), Hops: []api.Hop{}}
	changes(t, func(what string, call func(s api.Soup) (api.Soup, api.Errno)) {
		a, e := call(empty)
		b, f := call(api.Soup{})
		if e != f || !reflect.DeepEqual(a, b) {
			t.Errorf("%s: %#v, %v; %#v, %v", what, a, e, b, f)
		}
	})
}
