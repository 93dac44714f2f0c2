package filter

import (
	"iter"
	"math"
	"slices"
	"testing"

	"footpath/api"
	"footpath/spans"
)

const (
	high = 2048    // the greatest height
	most = 8       // spans of a column
	sky  = 1 << 20 // where the room above the topmost span ends
)

// extremes are such as run over if one adds to them, doubles them or turns them round.
var extremes = []int{math.MinInt, math.MinInt + 1, math.MinInt / 2, -1 << 40, -1<<32 - 1, 1<<32 + 1, 1 << 40, 1 << 62, math.MaxInt - 1, math.MaxInt}

func s(lo, hi int) api.Span { return api.Span{Lo: lo, Hi: hi} }

// w is a span that may be walked.
func w(lo, hi int) api.Span { return api.Span{Lo: lo, Hi: hi, Walk: true} }

func row(l ...api.Span) []api.Span { return l }

// tall is a config of that Height.
func tall(height int) api.Config {
	return api.Config{Height: height, Run: 1, W: 8, D: 8}
}

// spaced is n walked spans from a height on, each of two heights, with a gap of so many between the Hi of one and the next one's Lo.
func spaced(n, from, gap int) []api.Span {
	var l []api.Span
	for range n {
		l = append(l, w(from, from+1))
		from += 1 + gap
	}
	return l
}

// pieces are all spans from a height to another one, such as may not be, too.
func pieces(from, to int) []api.Span {
	var l []api.Span
	for lo := from; lo <= to; lo++ {
		for hi := lo - 1; hi <= to; hi++ {
			l = append(l, s(lo, hi), w(lo, hi))
		}
	}
	return l
}

// lists visits all lists of up to n of some spans, in all orders, those of one span twice among them.
func lists(n int, of []api.Span, visit func([]api.Span)) {
	var grow func(l []api.Span)
	grow = func(l []api.Span) {
		visit(l)
		if len(l) == n {
			return
		}
		for _, p := range of {
			grow(append(l, p))
		}
	}
	grow(nil)
}

// places are all that a list has, and such as it has not.
func places(l []api.Span) []int {
	ks := slices.Clone(extremes)
	for k := -3; k <= len(l)+3; k++ {
		ks = append(ks, k)
	}
	return append(ks, 1<<32, -1<<32, most, high)
}

// mayBe tells by each two of a row, not by neighbours alone, whether it may be.
func mayBe(l []api.Span) bool {
	for i, p := range l {
		if p.Lo > p.Hi || p.Lo < -high || p.Hi > high {
			return false
		}
		for _, q := range l[:i] {
			if q.Hi >= p.Lo {
				return false
			}
		}
	}
	return len(l) <= most
}

// climbed is where the room above a span ends, told by going up from it height by height.
func climbed(l []api.Span, k int) (int, bool) {
	if !mayBe(l) || k < 0 || k >= len(l) {
		return 0, false
	}
	for y := l[k].Hi + 1; y <= high; y++ {
		if isSolid(l, y) {
			return y, true
		}
	}
	return sky, true
}

func isSolid(l []api.Span, y int) bool {
	return slices.ContainsFunc(l, func(p api.Span) bool { return p.Lo <= y && y <= p.Hi })
}

// fits is whether all heights from a span's Hi on, Height of them, have no next span in them.
func fits(height int, l []api.Span, k int) bool {
	if _, ok := climbed(l, k); !ok {
		return false
	}
	for y := l[k].Hi + 1; y < l[k].Hi+height; y++ {
		if isSolid(l, y) {
			return false
		}
	}
	return true
}

// room is a place, and where the room above it ends.
type room struct{ k, top int }

// opened are the rooms of those that are open.
func opened(height int, l []api.Span) []room {
	var all []room
	for k, p := range l {
		if top, ok := climbed(l, k); ok && p.Walk && fits(height, l, k) {
			all = append(all, room{k, top})
		}
	}
	return all
}

func told(each iter.Seq2[int, int]) []room {
	var all []room
	for k, top := range each {
		all = append(all, room{k, top})
	}
	return all
}

func placesOf(rooms []room) []int {
	var ks []int
	for _, r := range rooms {
		ks = append(ks, r.k)
	}
	return ks
}

// holds has all four calls give what is told height by height, of a config that may be and any list, which stays as it is.
func holds(t *testing.T, height int, l []api.Span) {
	t.Helper()
	c, own := tall(height), slices.Clone(l)
	for _, k := range places(l) {
		want, wanted := climbed(l, k)
		if top, ok := Room(own, k); top != want || ok != wanted {
			t.Fatalf("Room(%v, %d) = %d, %v; want %d, %v", l, k, top, ok, want, wanted)
		}
		if got, want := Fits(c, own, k), fits(height, l, k); got != want {
			t.Fatalf("Fits(Height %d, %v, %d) = %v", height, l, k, got)
		}
	}
	want := opened(height, l)
	if got := told(Each(c, own)); !slices.Equal(got, want) {
		t.Fatalf("Each(Height %d, %v) goes over %v; want %v", height, l, got, want)
	}
	wanted := api.OK
	if !mayBe(l) {
		wanted = api.ErrArg
	}
	if got, e := Open(c, own); e != wanted || !slices.Equal(got, placesOf(want)) {
		t.Fatalf("Open(Height %d, %v) = %v, %v; want %v, %v", height, l, got, e, placesOf(want), wanted)
	}
	if !slices.Equal(own, l) {
		t.Fatalf("of %v, %v is left", l, own)
	}
}

// P10.1, P10.2: the chapter's examples and the edges that it names.
func TestOpenTable(t *testing.T) {
	for _, x := range []struct {
		name   string
		height int
		l      []api.Span
		want   []room
	}{
		{"the chapter's first", 3, row(w(0, 1), w(4, 5)), []room{{0, 4}, {1, sky}}},
		{"the chapter's second", 3, row(w(0, 1), w(3, 5)), []room{{1, sky}}},
		{"none", 3, nil, nil},
		{"nothing", 3, row(), nil},
		{"one that is walked", 3, row(w(0, 1)), []room{{0, sky}}},
		{"one that is not", 3, row(s(0, 1)), nil},
		{"one of height 0", 1, row(w(0, 0)), []room{{0, sky}}},
		{"one at the least height", 32, row(w(-high, -high)), []room{{0, sky}}},
		{"one at the greatest height", 32, row(w(high, high)), []room{{0, sky}}},
		{"one of all heights", 32, row(w(-high, high)), []room{{0, sky}}},
		{"the least and the greatest height", 32, row(w(-high, -high), w(high, high)), []room{{0, high}, {1, sky}}},
		{"two, just Height apart", 5, row(w(-3, 0), w(5, 9)), []room{{0, 5}, {1, sky}}},
		{"two, one less", 5, row(w(-3, 0), w(4, 9)), []room{{1, sky}}},
		{"two, one more", 5, row(w(-3, 0), w(6, 9)), []room{{0, 6}, {1, sky}}},
		{"two, just Height apart below 0", 5, row(w(-9, -8), w(-3, -2)), []room{{0, -3}, {1, sky}}},
		{"two, one less below 0", 5, row(w(-9, -7), w(-3, -2)), []room{{1, sky}}},
		{"two, just Height apart round 0", 5, row(w(-9, -2), w(3, 3)), []room{{0, 3}, {1, sky}}},
		{"one height alone, Height 1", 1, row(w(0, 1), w(2, 3)), []room{{0, 2}, {1, sky}}},
		{"one height alone, Height 2", 2, row(w(0, 1), w(2, 3)), []room{{1, sky}}},
		{"one height between, Height 2", 2, row(w(0, 1), w(3, 3)), []room{{0, 3}, {1, sky}}},
		{"the greatest Height", 32, row(w(0, 1), w(33, 34)), []room{{0, 33}, {1, sky}}},
		{"the greatest Height, one less", 32, row(w(0, 1), w(32, 34)), []room{{1, sky}}},
		{"room counts from Hi, not from Lo", 9, row(w(0, 8), w(10, 20)), []room{{1, sky}}},
		{"room ends at Lo, not at Hi", 3, row(w(0, 1), w(2, 99)), []room{{1, sky}}},
		{"room ends at one that is not walked", 3, row(w(0, 1), s(3, 3), w(9, 9)), []room{{2, sky}}},
		{"room, and it may not be walked", 3, row(s(0, 1), w(9, 9)), []room{{1, sky}}},
		{"the topmost may not be walked", 3, row(w(0, 1), s(9, 9)), []room{{0, 9}}},
		{"walked without room, room without being walked", 3, row(w(0, 1), s(2, 3), w(9, 10)), []room{{2, sky}}},
		{"each, and one between has no room", 3, row(w(0, 1), w(9, 10), w(12, 13), w(20, 20)), []room{{0, 9}, {2, 20}, {3, sky}}},
		{"none has room but the topmost", 4, spaced(most, 0, 3), []room{{7, sky}}},
		{"none has room but the topmost, which is not walked", 4, append(spaced(most-1, 0, 3), s(90, 90)), []room{{6, 90}}},
		{"just MaxSpans", 3, spaced(most, 0, 3), []room{{0, 4}, {1, 8}, {2, 12}, {3, 16}, {4, 20}, {5, 24}, {6, 28}, {7, sky}}},
	} {
		c := tall(x.height)
		if got, e := Open(c, x.l); e != api.OK || !slices.Equal(got, placesOf(x.want)) {
			t.Errorf("%s: Open(%v) = %v, %v; want %v", x.name, x.l, got, e, placesOf(x.want))
		}
		if got := told(Each(c, x.l)); !slices.Equal(got, x.want) {
			t.Errorf("%s: Each(%v) goes over %v; want %v", x.name, x.l, got, x.want)
		}
		holds(t, x.height, x.l)
	}
}

// P10.1: of each place, such as there are not, too.
func TestRoomTable(t *testing.T) {
	l := row(s(-high, -9), w(-8, -8), w(0, 3), s(high, high))
	for _, x := range []struct {
		name string
		l    []api.Span
		k    int
		want int
		ok   bool
	}{
		{"of none", nil, 0, 0, false},
		{"of none, one below", nil, -1, 0, false},
		{"of nothing", row(), 0, 0, false},
		{"of one", row(s(4, 5)), 0, sky, true},
		{"of one, one past it", row(s(4, 5)), 1, 0, false},
		{"of one, one below it", row(s(4, 5)), -1, 0, false},
		{"of one of all heights", row(s(-high, high)), 0, sky, true},
		{"of the first, one height alone", l, 0, -8, true},
		{"of the second, up to height 0", l, 1, 0, true},
		{"of the third", l, 2, high, true},
		{"of the topmost", l, 3, sky, true},
		{"one below the first", l, -1, 0, false},
		{"one past the topmost", l, 4, 0, false},
		{"as far below as an int reaches", l, math.MinInt, 0, false},
		{"as far above as an int reaches", l, math.MaxInt, 0, false},
		{"of a place that is one in a narrower number", l, 1<<32 + 3, 0, false},
		{"of MaxSpans, the first", spaced(most, 0, 3), 0, 4, true},
		{"of MaxSpans, the topmost", spaced(most, 0, 3), most - 1, sky, true},
		{"of one more, the first", spaced(most+1, 0, 3), 0, 0, false},
		{"of one more, the topmost", spaced(most+1, 0, 3), most, 0, false},
		{"of two that meet", row(w(0, 2), w(2, 3)), 1, 0, false},
	} {
		if top, ok := Room(x.l, x.k); top != x.want || ok != x.ok {
			t.Errorf("%s: Room(%v, %d) = %d, %v; want %d, %v", x.name, x.l, x.k, top, ok, x.want, x.ok)
		}
	}
}

// P10.1: walked or not, in each Height that may be, at gaps one below, at and one above it, and at one height alone.
func TestFitsAtEachHeight(t *testing.T) {
	for height := 1; height <= 32; height++ {
		c := tall(height)
		for _, gap := range []int{1, height - 1, height, height + 1, 2 * height} {
			if gap < 1 {
				continue
			}
			for _, from := range []int{-high, -gap - 1, -1, 0, 7, high - gap - 2} {
				for _, l := range [][]api.Span{row(w(from, from+1), w(from+1+gap, from+1+gap)), row(s(from, from+1), s(from+1+gap, from+1+gap))} {
					if got := Fits(c, l, 0); got != (gap >= height) {
						t.Errorf("Fits(Height %d, %v, 0) = %v", height, l, got)
					}
					if !Fits(c, l, 1) || Fits(c, l, 2) || Fits(c, l, -1) {
						t.Errorf("Fits(Height %d, %v, 1, 2, -1) = %v, %v, %v", height, l, Fits(c, l, 1), Fits(c, l, 2), Fits(c, l, -1))
					}
					holds(t, height, l)
				}
			}
		}
		for gap := 1; gap <= 36; gap++ {
			holds(t, height, spaced(most, -50, gap))
		}
	}
}

// P10.1, P10.2: the topmost span's room ends at Sky, wherever it stands.
func TestTopmostAtEachHeight(t *testing.T) {
	for y := -high; y <= high; y++ {
		for _, l := range [][]api.Span{row(w(y, y)), row(w(-high, y))} {
			if top, ok := Room(l, 0); top != sky || !ok {
				t.Fatalf("Room(%v, 0) = %d, %v", l, top, ok)
			}
			if got := told(Each(tall(32), l)); !slices.Equal(got, []room{{0, sky}}) {
				t.Fatalf("Each(%v) goes over %v", l, got)
			}
		}
	}
}

// P10.1, P10.2: all lists of few spans among few heights, rising or not, meeting or not.
func TestAllShortLists(t *testing.T) {
	lists(3, pieces(-2, 2), func(l []api.Span) { holds(t, 1+len(l)%2, l) })
	for height := 1; height <= 5; height++ {
		lists(2, pieces(-2, 3), func(l []api.Span) { holds(t, height, l) })
	}
}

// P10.1, P10.2: rows of up to MaxSpans of which each choice is walked, with room above each other choice.
func TestWalkedAndRoomInAllWays(t *testing.T) {
	for n := range most + 1 {
		for walked := range 1 << n {
			for _, roomy := range []int{0, 1<<n - 1, walked, ^walked, walked >> 1, 0x5a, walked * 37} {
				var l []api.Span
				y := -20
				for k := range n {
					l = append(l, api.Span{Lo: y, Hi: y + k%3, Walk: walked>>k&1 == 1})
					y += k%3 + 4 // one below Height
					y += roomy >> k & 1
				}
				holds(t, 5, l)
			}
		}
	}
}

// wrongSpans have Lo above Hi, or are not from -MaxHeight to MaxHeight, or both.
func wrongSpans() []api.Span {
	l := row(s(1, 0), w(0, -1), s(high, -high), w(-high-1, 0), s(-high-1, high), w(-high-1, -high-1), s(0, high+1), w(high+1, high+1), s(-high, high+1), w(-high-1, high+1))
	for _, n := range extremes {
		l = append(l, w(n, n), w(n, 0), s(0, n), w(n, high), w(-high, n))
	}
	return append(l, w(math.MinInt, math.MaxInt), w(math.MaxInt, math.MinInt))
}

// refused holds all four calls to what they answer of spans that may not be.
func refused(t *testing.T, l []api.Span) {
	t.Helper()
	own := slices.Clone(l)
	c := tall(1)
	if got, e := Open(c, own); got != nil || e != api.ErrArg {
		t.Errorf("Open(%v) = %v, %v", l, got, e)
	}
	for k, top := range Each(c, own) {
		t.Errorf("Each(%v) goes over %d, %d", l, k, top)
	}
	for _, k := range places(l) {
		if top, ok := Room(own, k); top != 0 || ok {
			t.Errorf("Room(%v, %d) = %d, %v", l, k, top, ok)
		}
		if Fits(c, own, k) {
			t.Errorf("Fits(%v, %d)", l, k)
		}
	}
	if !slices.Equal(own, l) {
		t.Errorf("of %v, %v is left", l, own)
	}
}

// P10.1, P10.2: one wrong span is enough, the first, the last or one between; so is one that is not above the one ahead.
func TestWrongSpans(t *testing.T) {
	for _, p := range wrongSpans() {
		for _, beside := range [][]api.Span{nil, row(w(0, 0)), row(w(-9, -8), w(30, 31)), spaced(most-1, -40, 9)} {
			for at := range len(beside) + 1 {
				refused(t, slices.Insert(slices.Clone(beside), at, p))
			}
		}
	}
	for at := range most - 1 {
		l := spaced(most, -40, 9)
		l[at+1].Lo = l[at].Hi // at the Hi ahead
		refused(t, l)
		l = spaced(most, -40, 9)
		l[at].Hi = l[at+1].Lo
		refused(t, l)
		l = spaced(most, -40, 9)
		l[at].Hi = l[at].Lo - 1
		refused(t, l)
		l = spaced(most, -40, 9)
		l[at], l[at+1] = l[at+1], l[at]
		refused(t, l)
		l = spaced(most, -40, 9)
		l[at] = l[at+1]
		refused(t, l)
		l = spaced(most, -40, 9)
		l[0], l[at+1] = l[at+1], l[0]
		refused(t, l)
	}
	refused(t, row(w(0, 9), w(3, 4)))
	refused(t, row(w(3, 4), w(0, 9)))
	refused(t, row(w(0, 2), w(2, 3)))
	refused(t, row(w(7, 8), w(0, 1), w(2, 3)))
}

// P10.1, P10.2: one span more than MaxSpans is too much, and so are many, whatever stands there.
func TestTooManySpans(t *testing.T) {
	for _, n := range []int{most + 1, most + 2, 2 * most, 500, 1 << 16} {
		l := spaced(n, -high, 3)
		refused(t, l)
		refused(t, slices.Repeat(row(w(0, 0)), n))
		refused(t, make([]api.Span, n))
	}
	holds(t, 3, spaced(most, -high, 3))
	holds(t, 3, spaced(most+1, -high, 3)[:most])
}

// configs that may be, at each bound.
func goodConfigs() []api.Config {
	return []api.Config{
		{Clear: 0, Climb: 0, Height: 1, Rise: 0, Run: 1, W: 1, D: 1},
		{Clear: 3, Climb: 8, Height: 32, Rise: 100, Run: 100, W: 32, D: 32},
		{Clear: 3, Climb: 8, Height: 9, Rise: 100, Run: 1, W: 32, D: 1},
		{Clear: 1, Climb: 0, Height: 32, Rise: 0, Run: 100, W: 1, D: 32},
		{Clear: 2, Climb: 2, Height: 3, Rise: 7, Run: 9, W: 8, D: 20},
	}
}

// wrongConfigs have one field past its bounds, or nothing that may be.
func wrongConfigs() []api.Config {
	l := []api.Config{{}, {Height: 3}, {Height: -1, Climb: -3}}
	for _, good := range goodConfigs() {
		for i, bad := range [][]int{{-1, 4}, {-1, 9, good.Height}, {33, good.Climb, 0, -1}, {-1, 101}, {0, -1, 101}, {0, -1, 33}, {0, -1, 33}} {
			for _, n := range slices.Concat(bad, extremes) {
				c := good
				*[]*int{&c.Clear, &c.Climb, &c.Height, &c.Rise, &c.Run, &c.W, &c.D}[i] = n
				l = append(l, c)
			}
		}
	}
	return l
}

// P10.1, P10.2: a config that may not be is told of ahead of spans that may not be; Room asks for none.
func TestConfigs(t *testing.T) {
	good := [][]api.Span{nil, row(), row(w(0, 1)), row(w(0, 1), w(900, 901)), spaced(most, -900, 40)}
	bad := [][]api.Span{row(w(1, 0)), row(w(0, 1), w(1, 2)), row(w(0, high+1)), spaced(most+1, 0, 40), row(w(math.MinInt, math.MaxInt))}
	for _, c := range wrongConfigs() {
		for _, l := range slices.Concat(good, bad) {
			if got, e := Open(c, l); got != nil || e != api.ErrConfig {
				t.Errorf("Open(%v, %v) = %v, %v", c, l, got, e)
			}
			for k, top := range Each(c, l) {
				t.Errorf("Each(%v, %v) goes over %d, %d", c, l, k, top)
			}
			for k := -1; k <= len(l); k++ {
				if Fits(c, l, k) {
					t.Errorf("Fits(%v, %v, %d)", c, l, k)
				}
			}
		}
	}
	for _, c := range goodConfigs() {
		for _, l := range good {
			got, e := Open(c, l)
			if e != api.OK || len(got) != len(l) || len(told(Each(c, l))) != len(l) {
				t.Errorf("Open(%v, %v) = %v, %v; Each goes over %v", c, l, got, e, told(Each(c, l)))
			}
			for k := range l {
				if !Fits(c, l, k) {
					t.Errorf("Fits(%v, %v, %d) = false", c, l, k)
				}
			}
		}
		for _, l := range bad {
			if got, e := Open(c, l); got != nil || e != api.ErrArg {
				t.Errorf("Open(%v, %v) = %v, %v", c, l, got, e)
			}
		}
		two := row(w(0, 1), w(1+c.Height, 40))
		near := row(w(0, 2), w(1+c.Height, 40))
		if !Fits(c, two, 0) || c.Height > 1 && Fits(c, near, 0) {
			t.Errorf("Height %d: Fits(%v) = %v, Fits(%v) = %v", c.Height, two, Fits(c, two, 0), near, Fits(c, near, 0))
		}
	}
}

// P10.2: left at each of its steps, gone over again, and within itself.
func TestEachIsLeftAndGoneOverAgain(t *testing.T) {
	c := tall(3)
	for _, l := range [][]api.Span{spaced(most, 0, 3), row(w(0, 0), s(4, 4), w(9, 9), w(11, 11), w(20, 20)), row(w(5, 5)), nil} {
		want := opened(3, l)
		each := Each(c, l)
		for stop := range want {
			var got []room
			for k, top := range each {
				got = append(got, room{k, top})
				if len(got) == stop+1 {
					break
				}
			}
			if !slices.Equal(got, want[:stop+1]) {
				t.Errorf("Each(%v), left at the %d-th: %v", l, stop, got)
			}
			calls := 0
			each(func(int, int) bool { calls++; return calls <= stop })
			if calls != stop+1 {
				t.Errorf("Each(%v) went on: %d calls, left at the %d-th", l, calls, stop)
			}
		}
		if got := told(each); !slices.Equal(got, want) {
			t.Errorf("Each(%v) again: %v; want %v", l, got, want)
		}
		var outer, inner []room
		for k, top := range each {
			outer = append(outer, room{k, top})
			inner = append(inner, told(each)...)
		}
		if !slices.Equal(outer, want) || !slices.Equal(inner, slices.Repeat(want, len(want))) {
			t.Errorf("Each(%v) within itself: %v, %v; want %v", l, outer, inner, want)
		}
	}
}

// R1, R4: an iterator of what may not be, or of nothing, is one, and can be gone over again.
func TestEachIsNeverNil(t *testing.T) {
	for _, each := range []iter.Seq2[int, int]{Each(api.Config{}, row(w(0, 0))), Each(tall(1), row(w(1, 0))), Each(tall(1), nil), Each(tall(33), nil), Each(tall(1), spaced(500, 0, 2))} {
		if each == nil {
			t.Fatal("no iterator")
		}
		for range 2 {
			if got := told(each); got != nil {
				t.Errorf("it goes over %v", got)
			}
		}
	}
}

// R4: an iterator tells what there was when the call was made, whatever becomes of the list then.
func TestEachTellsWhatThereWas(t *testing.T) {
	c := tall(3)
	for _, l := range [][]api.Span{spaced(most, 0, 3), row(w(0, 0), w(4, 4), s(9, 9), w(11, 11)), row(s(0, 0), w(2, 2))} {
		want := opened(3, l)
		for _, other := range row(s(0, 0), w(math.MinInt, math.MaxInt), w(7, -7), w(500, 501)) {
			own := append(slices.Clone(l), w(900, 900), w(901, 901))
			each := Each(c, own[:len(l)])
			blot(own, other)
			if got := told(each); !slices.Equal(got, want) {
				t.Errorf("Each(%v), behind which %v was put in their places: %v; want %v", l, other, got, want)
			}
			// Even while it is gone over.
			own = slices.Clone(l)
			var got []room
			for k, top := range Each(c, own) {
				got = append(got, room{k, top})
				blot(own, other)
			}
			if !slices.Equal(got, want) {
				t.Errorf("Each(%v), while %v is put in their places: %v; want %v", l, other, got, want)
			}
		}
	}
	// What may not be, and may then, is not told either.
	own := row(w(1, 0))
	each := Each(c, own)
	own[0] = w(0, 0)
	if got := told(each); got != nil {
		t.Errorf("Each of what may not be: %v", got)
	}
}

func blot[T any](l []T, with T) {
	for i := range l[:cap(l)] {
		l[:cap(l)][i] = with
	}
}

// R4: what is handed in stays as it was, its spare room, too; answers are in memory of their own.
func TestMemory(t *testing.T) {
	c := tall(3)
	for _, l := range [][]api.Span{spaced(most, 0, 3), row(w(0, 0), s(4, 4), w(9, 9)), row(w(0, 1)), row(w(1, 0)), row()} {
		all := append(slices.Clone(l), w(99, 99), s(98, 98), w(97, 97))
		own := slices.Clone(all)
		one, _ := Open(c, own[:len(l)])
		two, _ := Open(c, own[:len(l)])
		told(Each(c, own[:len(l)]))
		for k := -1; k <= len(l); k++ {
			Room(own[:len(l)], k)
			Fits(c, own[:len(l)], k)
		}
		Open(api.Config{}, own[:len(l)])
		if !slices.Equal(own, all) {
			t.Errorf("of %v, %v is left", all, own)
		}
		kept := slices.Clone(two)
		blot(one, 77)
		blot(own, s(-77, 77))
		if !slices.Equal(two, kept) {
			t.Errorf("of %v: the answer %v has become %v", l, kept, two)
		}
	}
}

// R3: the same is told again, whatever was asked between; spare room and what stands there counts for nothing.
func TestNothingIsKept(t *testing.T) {
	l := spaced(5, -3, 4)
	long := append(slices.Clone(l), w(90, 91), w(0, 0), w(math.MinInt, 0))
	for height := 6; height >= 1; height-- {
		holds(t, height, l)
		Open(api.Config{}, l)
		Open(tall(32), row(w(1, 0)))
		if got, e := Open(tall(height), long[:5]); e != api.OK || !slices.Equal(got, placesOf(opened(height, l))) {
			t.Errorf("Open(Height %d, %v) = %v, %v", height, long[:5], got, e)
		}
		if top, ok := Room(long[:5], 4); top != sky || !ok {
			t.Errorf("Room of the topmost ahead of spare room = %d, %v", top, ok)
		}
		if got := told(Each(tall(height), long[:5])); !slices.Equal(got, opened(height, l)) {
			t.Errorf("Each(Height %d, %v) goes over %v", height, long[:5], got)
		}
	}
}

// agree holds the four calls to each other: Open's places rise, Each goes over just these, with Room's ends, and they are those that are walked and of which Fits holds.
func agree(t *testing.T, c api.Config, l []api.Span) {
	t.Helper()
	open, e := Open(c, l)
	if e != api.OK {
		t.Fatalf("Open(%v, %v) = %v, %v", c, l, open, e)
	}
	var each []int
	for k, top := range Each(c, l) {
		if end, ok := Room(l, k); !ok || end != top {
			t.Fatalf("%v: Each tells %d of the place %d, Room %d, %v", l, top, k, end, ok)
		}
		each = append(each, k)
	}
	var fit []int
	for k, p := range l {
		if p.Walk && Fits(c, l, k) {
			fit = append(fit, k)
		}
		top, ok := Room(l, k)
		if !ok || Fits(c, l, k) != (top-p.Hi >= c.Height) {
			t.Fatalf("Room(%v, %d) = %d, %v; Fits(Height %d) = %v", l, k, top, ok, c.Height, Fits(c, l, k))
		}
	}
	if !slices.IsSorted(open) || !slices.Equal(open, each) || !slices.Equal(open, fit) {
		t.Fatalf("%v, Height %d: Open tells %v, Each %v, Fits %v", l, c.Height, open, each, fit)
	}
}

func TestCallsAgree(t *testing.T) {
	for i, l := range strewn() {
		agree(t, tall(1+i%32), l)
		agree(t, tall(1+i%5), l)
	}
}

// strewn are many rows that may be, of 0 to MaxSpans spans, from a short rule; between them there are gaps of all kinds.
func strewn() [][]api.Span {
	var all [][]api.Span
	n := uint32(1)
	next := func(below int) int {
		n = n*1664525 + 1013904223
		return int(n>>8) % below
	}
	for i := range 3000 {
		var l []api.Span
		y := -high + next(high)
		for range i % (most + 1) {
			hi := y + next(1+next(9))
			l = append(l, api.Span{Lo: y, Hi: hi, Walk: next(3) > 0})
			y = hi + 1 + next(1+next(40))
		}
		all = append(all, l)
	}
	return all
}

// inRoom is which rooms of a row a height is in: above the span, and not at the end, which is a span's again.
func inRoom(t *testing.T, l []api.Span, y int) []int {
	t.Helper()
	var ks []int
	for k, p := range l {
		top, ok := Room(l, k)
		if !ok {
			t.Fatalf("Room(%v, %d) is none", l, k)
		}
		if p.Hi < y && y < top {
			ks = append(ks, k)
		}
	}
	return ks
}

// P10.3: no height is in two rooms, nor in a room and in a span; each one above the lowest span is in one of them.
func TestRoomsHaveNoHeightInCommon(t *testing.T) {
	apart := func(l []api.Span, from, to int) {
		t.Helper()
		for y := from; y <= to; y++ {
			_, solid := spans.Solid(l, y)
			ks := inRoom(t, l, y)
			if len(ks) > 1 || solid && len(ks) > 0 || !solid && len(ks) == 0 && len(l) > 0 && y > l[0].Lo {
				t.Fatalf("height %d of %v is in the rooms %v, in a span: %v", y, l, ks, solid)
			}
		}
	}
	lists(3, pieces(-2, 3), func(l []api.Span) {
		if mayBe(l) {
			apart(l, -4, 5)
		}
	})
	for _, l := range strewn()[:400] {
		if len(l) > 0 {
			apart(l, l[0].Lo-2, l[len(l)-1].Hi+2)
			apart(l, sky-2, sky-1)
			if ks := inRoom(t, l, sky); len(ks) > 0 {
				t.Fatalf("%v: the sky is in the rooms %v", l, ks)
			}
		}
	}
	apart(row(w(-high, -high), w(0, 0), w(high, high)), -high-3, high+3)
}

// more holds the rooms of a row to those that there are with a span more: what is in a room then was in one, or is in that above the span that is come; and each span that stays as high has no more room than it had.
func more(t *testing.T, l []api.Span, p api.Span) {
	t.Helper()
	grown, e := spans.Put(l, p)
	if e != api.OK {
		return // there is no room for it
	}
	at, ok := spans.Solid(grown, p.Lo)
	if !ok {
		t.Fatalf("%v is not in %v", p, grown)
	}
	own, _ := Room(grown, at)
	for y := p.Lo - 40; y <= p.Hi+40; y++ {
		was, is := inRoom(t, l, y), inRoom(t, grown, y)
		if len(is) > 0 && len(was) == 0 && (y <= grown[at].Hi || y >= own) {
			t.Fatalf("%v and %v: height %d is in the room %v now, and was in none", l, p, y, is)
		}
	}
	c := tall(3)
	for k, q := range grown {
		i := slices.IndexFunc(l, func(o api.Span) bool { return o.Hi == q.Hi })
		if i < 0 {
			if k != at {
				t.Fatalf("%v and %v: %v is new", l, p, q)
			}
			continue
		}
		was, _ := Room(l, i)
		is, _ := Room(grown, k)
		if is > was || Fits(c, grown, k) && !Fits(c, l, i) {
			t.Fatalf("%v and %v: the room above %v ended at %d, and ends at %d", l, p, q, was, is)
		}
	}
}

// P10.3: a span more, put in all ways to rows of few heights and to strewn ones.
func TestASpanMoreTakesRoomAway(t *testing.T) {
	few := slices.DeleteFunc(pieces(-2, 4), func(p api.Span) bool { return p.Lo > p.Hi })
	lists(2, few, func(l []api.Span) {
		if !mayBe(l) {
			return
		}
		for _, p := range few {
			more(t, l, p)
		}
	})
	for i, l := range strewn()[:300] {
		if len(l) == 0 {
			continue
		}
		from, to := max(l[0].Lo-3, -high), min(l[len(l)-1].Hi+3, high-2)
		for y := from; y <= to; y++ {
			more(t, l, api.Span{Lo: y, Hi: y + i%3, Walk: i%2 == 0})
		}
	}
}

// P10.3: a span put between two, below the lowest and above the topmost.
func TestASpanMoreTable(t *testing.T) {
	two := row(w(0, 1), w(9, 10))
	for _, x := range []struct {
		name   string
		height int
		p      api.Span
		want   []room
	}{
		{"nothing more", 3, s(0, 0), []room{{0, 9}, {1, sky}}},
		{"between, with room below and above", 3, w(4, 5), []room{{0, 4}, {1, 9}, {2, sky}}},
		{"between, just with room", 3, w(4, 6), []room{{0, 4}, {1, 9}, {2, sky}}},
		{"between, not walked", 3, s(4, 5), []room{{0, 4}, {2, sky}}},
		{"between, without room above it", 3, w(4, 7), []room{{0, 4}, {2, sky}}},
		{"between, without room below it", 3, w(3, 5), []room{{1, 9}, {2, sky}}},
		{"between, with no room on either side", 5, w(4, 5), []room{{2, sky}}},
		{"between, and it meets the lower one", 3, w(1, 6), []room{{0, 9}, {1, sky}}},
		{"between, and it meets the lower one, and leaves no room", 3, w(1, 7), []room{{1, sky}}},
		{"between, and it meets the upper one", 3, w(4, 9), []room{{0, 4}, {1, sky}}},
		{"between, and it leaves no room below", 3, w(3, 9), []room{{1, sky}}},
		{"between, and it joins both", 3, w(1, 9), []room{{0, sky}}},
		{"below the lowest", 3, w(-5, -3), []room{{0, 0}, {1, 9}, {2, sky}}},
		{"below the lowest, without room above it", 3, w(-5, -2), []room{{1, 9}, {2, sky}}},
		{"below the lowest, as low as may be", 32, w(-high, -high), []room{{0, 0}, {2, sky}}},
		{"above the topmost", 3, w(13, 14), []room{{0, 9}, {1, 13}, {2, sky}}},
		{"above the topmost, which has no room then", 3, w(12, 14), []room{{0, 9}, {2, sky}}},
		{"above the topmost, not walked", 3, s(13, 14), []room{{0, 9}, {1, 13}}},
		{"above the topmost, as high as may be", 8, w(high, high), []room{{0, 9}, {1, high}, {2, sky}}},
	} {
		l, e := spans.Put(two, x.p)
		if e != api.OK {
			t.Fatal(x.name, e)
		}
		if got := told(Each(tall(x.height), l)); !slices.Equal(got, x.want) {
			t.Errorf("%s: Each(%v) goes over %v; want %v", x.name, l, got, x.want)
		}
		holds(t, x.height, l)
		more(t, two, x.p)
	}
}
