package spans

import (
	"math"
	"slices"
	"testing"

	"footpath/api"
)

const (
	high = 2048 // the greatest height
	most = 8    // spans of a column
)

// extremes are such as run over if one adds to them, doubles them or turns them round.
var extremes = []int{math.MinInt, math.MinInt + 1, math.MinInt / 2, -1 << 40, -1<<32 - 1, 1<<32 + 1, 1 << 40, 1 << 62, math.MaxInt - 1, math.MaxInt}

func s(lo, hi int) api.Span { return api.Span{Lo: lo, Hi: hi} }

// w is a piece that may be walked.
func w(lo, hi int) api.Span { return api.Span{Lo: lo, Hi: hi, Walk: true} }

func row(l ...api.Span) []api.Span { return l }

// spaced is n spans, two heights apart, from a height on; every second one may be walked.
func spaced(n, from int) []api.Span {
	var l []api.Span
	for i := range n {
		l = append(l, api.Span{Lo: from + 5*i, Hi: from + 5*i + 3, Walk: i%2 == 1})
	}
	return l
}

// wrongPieces have Lo above Hi, or are not from -MaxHeight to MaxHeight, or both.
func wrongPieces() []api.Span {
	l := row(s(1, 0), w(0, -1), s(high, -high), s(-high-1, 0), w(-high-1, high), s(-high-1, -high-1), s(0, high+1), w(high+1, high+1), s(-high, high+1), s(-high-1, high+1))
	for _, n := range extremes {
		l = append(l, s(n, n), w(n, 0), s(0, n), w(n, high), s(-high, n))
	}
	return append(l, s(math.MinInt, math.MaxInt), s(math.MaxInt, math.MinInt))
}

// painted are the spans of pieces, told by the heights that are in one: doubled, so that there is a gap between heights one apart.
func painted(l []api.Span) []api.Span {
	if len(l) == 0 {
		return nil
	}
	least, greatest := high, -high
	for _, p := range l {
		least, greatest = min(least, p.Lo), max(greatest, p.Hi)
	}
	colour := make([]bool, 2*(greatest-least)+2) // the last one stays without
	for _, p := range l {
		for h := 2 * (p.Lo - least); h <= 2*(p.Hi-least); h++ {
			colour[h] = true
		}
	}
	var spans []api.Span
	for h, on := range colour {
		if on && (h == 0 || !colour[h-1]) {
			spans = append(spans, s(least+h/2, 0))
		}
		if !on && colour[h-1] {
			spans[len(spans)-1].Hi = least + (h-1)/2
		}
	}
	for i := range spans {
		spans[i].Walk = slices.ContainsFunc(l, func(p api.Span) bool { return p.Walk && p.Hi == spans[i].Hi })
	}
	return spans
}

// pieces are all that there are from a height to another one.
func pieces(from, to int) []api.Span {
	var l []api.Span
	for lo := from; lo <= to; lo++ {
		for hi := lo; hi <= to; hi++ {
			l = append(l, s(lo, hi), w(lo, hi))
		}
	}
	return l
}

// lists visits all lists of up to n of some pieces, in all orders, those of one piece twice among them.
func lists(n int, of []api.Span, visit func([]api.Span)) {
	var grow func(l []api.Span)
	grow = func(l []api.Span) {
		visit(l)
		if len(l) == n {
			return
		}
		for _, p := range of {
			grow(append(l, p))
		}
	}
	grow(nil)
}

// orders visits a list in all its orders.
func orders(l []api.Span, visit func([]api.Span)) {
	var swap func(k int, l []api.Span)
	swap = func(k int, l []api.Span) {
		if k >= len(l)-1 {
			visit(l)
			return
		}
		for i := k; i < len(l); i++ {
			m := slices.Clone(l)
			m[k], m[i] = m[i], m[k]
			swap(k+1, m)
		}
	}
	swap(0, l)
}

// strewn has a list's pieces in the order in which steps of that length meet them, going round; step and length have no divisor in common.
func strewn(l []api.Span, step int) []api.Span {
	var m []api.Span
	for i := range l {
		m = append(m, l[i*step%len(l)])
	}
	return m
}

// merges holds Merge to its answer, and to leaving the list as it was.
func merges(t *testing.T, l, want []api.Span) {
	t.Helper()
	own := slices.Clone(l)
	got, e := Merge(own)
	if e != api.OK || !slices.Equal(got, want) {
		t.Fatalf("Merge(%v) = %v, %v; want %v", l, got, e, want)
	}
	if !slices.Equal(own, l) {
		t.Fatalf("Merge(%v) has left %v", l, own)
	}
}

// P8.1, P8.3: the chapter's examples and the edges that it names, in every order.
func TestMergeTable(t *testing.T) {
	for _, c := range []struct {
		name    string
		l, want []api.Span
	}{
		{"the chapter's first", row(s(0, 2), w(2, 5)), row(w(0, 5))},
		{"the chapter's second", row(s(0, 5), w(2, 5)), row(w(0, 5))},
		{"the chapter's third", row(s(0, 6), w(2, 5)), row(s(0, 6))},
		{"the chapter's fourth", row(s(0, 1), s(2, 3)), row(s(0, 1), s(2, 3))},
		{"none", nil, nil},
		{"nothing", row(), nil},
		{"one", row(s(-3, 4)), row(s(-3, 4))},
		{"one that is walked", row(w(-3, 4)), row(w(-3, 4))},
		{"one of one height", row(s(7, 7)), row(s(7, 7))},
		{"one of height 0, walked", row(w(0, 0)), row(w(0, 0))},
		{"all heights", row(w(-high, high)), row(w(-high, high))},
		{"the least height and the greatest", row(w(high, high), s(-high, -high)), row(s(-high, -high), w(high, high))},
		{"all from end to end", row(s(-high, -high), w(high, high), s(-high, high)), row(w(-high, high))},
		{"they share just one height", row(w(0, 4), s(4, 9)), row(s(0, 9))},
		{"one of one height at the other's Hi", row(s(0, 4), w(4, 4)), row(w(0, 4))},
		{"one of one height at the other's Lo", row(s(0, 4), w(0, 0)), row(s(0, 4))},
		{"they stand one height apart", row(w(0, 4), s(5, 9)), row(w(0, 4), s(5, 9))},
		{"they stand one height apart, below 0", row(w(-9, -5), s(-4, -1)), row(w(-9, -5), s(-4, -1))},
		{"below and above 0", row(w(-9, -1), s(0, 1)), row(w(-9, -1), s(0, 1))},
		{"single heights beside each other", row(s(2, 2), w(3, 3), s(4, 4)), row(s(2, 2), w(3, 3), s(4, 4))},
		{"within the other", row(w(0, 9), s(3, 4)), row(w(0, 9))},
		{"within the other, walked", row(s(0, 9), w(3, 4)), row(s(0, 9))},
		{"within, and both begin at one height", row(w(0, 9), s(0, 4)), row(w(0, 9))},
		{"within, and both begin at one height, walked", row(s(0, 9), w(0, 4)), row(s(0, 9))},
		{"within, and both end at one height", row(w(0, 9), s(4, 9)), row(w(0, 9))},
		{"alike, none walked", row(s(3, 5), s(3, 5)), row(s(3, 5))},
		{"alike, one walked", row(s(3, 5), w(3, 5)), row(w(3, 5))},
		{"alike, each walked", row(w(3, 5), w(3, 5), w(3, 5)), row(w(3, 5))},
		{"they end at one height, none walked", row(s(0, 5), s(2, 5)), row(s(0, 5))},
		{"they end at one height, the one that begins below walked", row(w(0, 5), s(2, 5)), row(w(0, 5))},
		{"they end at one height, the one that begins above walked", row(s(0, 5), w(2, 5)), row(w(0, 5))},
		{"they end at one height, each walked", row(w(0, 5), w(2, 5)), row(w(0, 5))},
		{"they end at one height, the middle one walked", row(s(0, 5), w(1, 5), s(2, 5)), row(w(0, 5))},
		{"walked below the greatest Hi alone", row(w(0, 4), w(1, 3), s(2, 5), w(4, 4)), row(s(0, 5))},
		{"walked at the greatest Hi alone", row(s(0, 4), s(1, 3), w(2, 5), s(4, 4)), row(w(0, 5))},
		{"through another", row(s(0, 1), w(4, 5), s(1, 4)), row(w(0, 5))},
		{"through another that holds both", row(s(1, 2), w(4, 5), s(0, 9)), row(s(0, 9))},
		{"through one that reaches on below another", row(s(0, 9), w(1, 2), w(9, 12)), row(w(0, 12))},
		{"through one of one height", row(w(0, 3), s(3, 3), w(3, 6)), row(w(0, 6))},
		{"through many", row(w(0, 1), s(1, 2), s(2, 3), s(3, 4), s(4, 5), w(5, 6)), row(w(0, 6))},
		{"through many, and one beside", row(s(-9, -8), w(0, 1), s(1, 2), s(2, 3), w(3, 3), s(5, 5)), row(s(-9, -8), w(0, 3), s(5, 5))},
		{"two by two", row(s(0, 2), w(1, 3), s(5, 7), s(4, 6), w(10, 10), s(9, 10)), row(w(0, 3), s(4, 7), w(9, 10))},
	} {
		orders(c.l, func(l []api.Span) {
			if got, e := Merge(l); e != api.OK || !slices.Equal(got, c.want) {
				t.Errorf("%s: Merge(%v) = %v, %v; want %v", c.name, l, got, e, c.want)
			}
		})
	}
}

// P8.1: all lists of few pieces among few heights.
func TestMergeOfAllShortLists(t *testing.T) {
	lists(4, pieces(-1, 2), func(l []api.Span) { merges(t, l, painted(l)) })
	lists(3, pieces(-2, 3), func(l []api.Span) { merges(t, l, painted(l)) })
}

// P8.1: more than MaxSpans come out of Merge; as many as there are heights, if it must be.
func TestMergeToManySpans(t *testing.T) {
	for _, n := range []int{most, most + 1, 2 * most, 100} {
		want := spaced(n, -250)
		merges(t, want, want)
		for _, step := range []int{n - 1, 7, 11, 31} {
			merges(t, strewn(want, step), want)
		}
	}
	var all []api.Span
	for y := -high; y <= high; y++ {
		all = append(all, api.Span{Lo: y, Hi: y, Walk: y%3 == 0})
	}
	merges(t, all, all)
	merges(t, strewn(all, 1000), all)
}

// P8.1, P8.3: chains of many pieces, in many orders; one link less parts them.
func TestMergeOfLongChains(t *testing.T) {
	const n = 307 // has no divisors
	var chain []api.Span
	for i := range n {
		chain = append(chain, api.Span{Lo: 3*i - 400, Hi: 3*i - 397, Walk: i == n-1})
	}
	for _, step := range []int{1, 2, 3, 100, 153, 306} {
		merges(t, strewn(chain, step), row(w(-400, 3*n-400)))
	}
	for _, out := range []int{1, 150, n - 2} {
		less := slices.Delete(slices.Clone(chain), out, out+1)
		want := row(s(-400, 3*out-400), w(3*out-397, 3*n-400))
		merges(t, less, want)
		merges(t, strewn(less, 5), want)
	}
	var nest []api.Span
	for i := range n {
		nest = append(nest, api.Span{Lo: -i, Hi: i, Walk: i != n-1})
	}
	for _, step := range []int{1, 152, 306} {
		merges(t, strewn(nest, step), row(s(1-n, n-1)))
	}
}

// P8.1: long lists in which pieces lie in all ways.
func TestMergeOfMixedLists(t *testing.T) {
	for _, wide := range []int{1, 2, 5, 20, 90} {
		for _, n := range []int{12, 13, 40, 200, 1000} {
			var l []api.Span
			for i := range n {
				lo := i*i*7919%(2*high-wide) - high
				l = append(l, api.Span{Lo: lo, Hi: lo + i*31%(wide+1), Walk: i%3 == 0})
			}
			want := painted(l)
			merges(t, l, want)
			slices.Reverse(l)
			merges(t, l, want)
		}
	}
}

// P8.1: one wrong piece is enough, wherever it stands; beside the error there is no list.
func TestMergeRefuses(t *testing.T) {
	for _, p := range wrongPieces() {
		for _, beside := range [][]api.Span{nil, row(w(0, 0)), row(s(0, 1), w(3, 4)), spaced(most+1, 0), row(w(-high, high), w(-high, high))} {
			for at := range len(beside) + 1 {
				l := slices.Insert(slices.Clone(beside), at, p)
				own := slices.Clone(l)
				if got, e := Merge(own); got != nil || e != api.ErrArg {
					t.Errorf("Merge(%v) = %v, %v", l, got, e)
				}
				if !slices.Equal(own, l) {
					t.Errorf("Merge(%v) has left %v", l, own)
				}
			}
		}
	}
}

// mayBe tells by each two of a row, not by neighbours alone, whether it may be.
func mayBe(l []api.Span) bool {
	for i, p := range l {
		if p.Lo > p.Hi || p.Lo < -high || p.Hi > high {
			return false
		}
		for _, q := range l[:i] {
			if q.Hi >= p.Lo {
				return false
			}
		}
	}
	return len(l) <= most
}

// checks holds Check to mayBe, and to leaving the row as it was.
func checks(t *testing.T, l []api.Span) {
	t.Helper()
	want := api.ErrArg
	if mayBe(l) {
		want = api.OK
	}
	own := slices.Clone(l)
	if e := Check(own); e != want || !slices.Equal(own, l) {
		t.Fatalf("Check(%v) = %v; want %v; it has left %v", l, e, want, own)
	}
}

func TestCheckTable(t *testing.T) {
	for _, c := range []struct {
		name string
		l    []api.Span
		want api.Errno
	}{
		{"none", nil, api.OK},
		{"nothing", row(), api.OK},
		{"one", row(s(0, 5)), api.OK},
		{"one of one height", row(w(5, 5)), api.OK},
		{"all heights", row(w(-high, high)), api.OK},
		{"the least height", row(s(-high, -high)), api.OK},
		{"the greatest height", row(s(high, high)), api.OK},
		{"one height apart", row(s(0, 1), w(2, 3)), api.OK},
		{"single heights one apart", row(s(-1, -1), s(0, 0), s(1, 1)), api.OK},
		{"just MaxSpans", spaced(most, -20), api.OK},
		{"one more", spaced(most+1, -20), api.ErrArg},
		{"many more", spaced(300, -20), api.ErrArg},
		{"they meet at one height", row(s(0, 2), w(2, 3)), api.ErrArg},
		{"the last two meet at one height", row(s(0, 0), s(2, 2), s(4, 5), s(5, 6)), api.ErrArg},
		{"alike", row(s(2, 2), s(2, 2)), api.ErrArg},
		{"within the one ahead", row(s(0, 9), s(3, 4)), api.ErrArg},
		{"over the one ahead", row(s(3, 4), s(0, 9)), api.ErrArg},
		{"not rising", row(s(2, 3), s(0, 1)), api.ErrArg},
		{"the last one not rising", row(s(0, 1), s(5, 6), s(2, 3)), api.ErrArg},
		{"the first one not rising", row(s(7, 8), s(0, 1), s(2, 3)), api.ErrArg},
		{"Lo above Hi", row(s(1, 0)), api.ErrArg},
		{"Lo above Hi, and rising", row(s(0, 1), s(3, 2), s(4, 5)), api.ErrArg},
		{"Lo above Hi, last", row(s(0, 1), s(5, 4)), api.ErrArg},
		{"one below the least height", row(s(-high-1, 0), s(1, 1)), api.ErrArg},
		{"one above the greatest height", row(s(0, 0), s(1, high+1)), api.ErrArg},
		{"above the greatest height", row(s(0, 0), s(high+1, high+1)), api.ErrArg},
	} {
		if e := Check(c.l); e != c.want {
			t.Errorf("%s: Check(%v) = %v; want %v", c.name, c.l, e, c.want)
		}
	}
}

func TestCheckOfAllShortRows(t *testing.T) {
	lists(4, append(pieces(-1, 2), s(1, 0), w(0, -1)), func(l []api.Span) { checks(t, l) })
	lists(2, append(wrongPieces(), s(-high, -high), s(0, 0), s(high, high)), func(l []api.Span) { checks(t, l) })
}

// P8.1: a row of MaxSpans that may be no more, if one of them is put otherwise.
func TestCheckLooksAtAllOfARow(t *testing.T) {
	for at := range most {
		others := append(wrongPieces(), s(-99, -98), s(99, 100), s(1, 1), s(37, 37), s(2, 34))
		for _, p := range others {
			l := spaced(most, 0)
			l[at] = p
			checks(t, l)
		}
		for _, by := range []int{-3, -2, -1, 0, 1, 2, 3} {
			l := spaced(most, 0)
			l[at].Lo += by
			checks(t, l)
			l = spaced(most, 0)
			l[at].Hi += by
			checks(t, l)
		}
	}
}

// P8.1: what comes out of Merge may be, if it is not too much; what may be is as it was behind Merge.
func TestMergedAndCheckedAgree(t *testing.T) {
	lists(4, pieces(0, 2), func(l []api.Span) {
		merged, e := Merge(l)
		if e != api.OK || Check(merged) != api.OK || (Check(l) == api.OK) != slices.Equal(merged, l) {
			t.Fatalf("Merge(%v) = %v, %v; Check: %v, and %v of what is merged", l, merged, e, Check(l), Check(merged))
		}
	})
}

func TestSameTable(t *testing.T) {
	a := row(s(0, 1), w(3, 4))
	for _, c := range []struct {
		name string
		a, b []api.Span
		want bool
	}{
		{"none and none", nil, nil, true},
		{"none and nothing", nil, row(), true},
		{"nothing and nothing", row(), row(), true},
		{"themselves", a, a, true},
		{"in other memory", a, row(s(0, 1), w(3, 4)), true},
		{"beside spare room", a, append(row(s(0, 1), w(3, 4)), s(7, 7))[:2], true},
		{"none and one of zeros", nil, row(s(0, 0)), false},
		{"nothing and some", row(), a, false},
		{"shorter by the last", a, row(s(0, 1)), false},
		{"shorter by the first", a, row(w(3, 4)), false},
		{"longer by one", a, row(s(0, 1), w(3, 4), w(3, 4)), false},
		{"unlike in the first Lo", a, row(s(-1, 1), w(3, 4)), false},
		{"unlike in the first Hi", a, row(s(0, 2), w(3, 4)), false},
		{"unlike in the first Walk", a, row(w(0, 1), w(3, 4)), false},
		{"unlike in the last Lo", a, row(s(0, 1), w(4, 4)), false},
		{"unlike in the last Hi", a, row(s(0, 1), w(3, 5)), false},
		{"unlike in the last Walk", a, row(s(0, 1), s(3, 4)), false},
		{"Lo and Hi changed", a, row(s(1, 0), w(3, 4)), false},
		{"in another order", a, row(w(3, 4), s(0, 1)), false},
		{"that come to the same when merged", row(s(0, 1), s(1, 2)), row(s(0, 2)), false},
		{"the same, and may not be", row(s(9, -9), s(math.MinInt, math.MaxInt)), row(s(9, -9), s(math.MinInt, math.MaxInt)), true},
		{"alike but for what a narrower number holds", row(s(0, 1<<32)), row(s(0, 0)), false},
	} {
		if Same(c.a, c.b) != c.want || Same(c.b, c.a) != c.want {
			t.Errorf("%s: Same(%v, %v) is %v, the other way round %v", c.name, c.a, c.b, Same(c.a, c.b), Same(c.b, c.a))
		}
	}
}

// P8.2: pieces put ahead of, between, behind, within and over the spans of a row.
func TestPutTable(t *testing.T) {
	two := row(s(0, 3), w(10, 13))
	full := spaced(most, 0) // from 0 to 3, from 5 to 8, .. from 35 to 38
	for _, c := range []struct {
		name string
		l    []api.Span
		p    api.Span
		want []api.Span
	}{
		{"to none", nil, s(2, 4), row(s(2, 4))},
		{"to nothing, walked", row(), w(2, 4), row(w(2, 4))},
		{"all heights to none", nil, w(-high, high), row(w(-high, high))},
		{"ahead", two, w(-9, -7), row(w(-9, -7), s(0, 3), w(10, 13))},
		{"just ahead", two, w(-9, -1), row(w(-9, -1), s(0, 3), w(10, 13))},
		{"ahead, and it meets", two, w(-9, 0), row(s(-9, 3), w(10, 13))},
		{"between", two, s(6, 7), row(s(0, 3), s(6, 7), w(10, 13))},
		{"between, just beside both", two, w(4, 9), row(s(0, 3), w(4, 9), w(10, 13))},
		{"between, and it meets the lower", two, w(3, 9), row(w(0, 9), w(10, 13))},
		{"between, and it meets the upper", two, s(4, 10), row(s(0, 3), w(4, 13))},
		{"between, and it joins both", two, s(3, 10), row(w(0, 13))},
		{"behind", two, w(20, 20), row(s(0, 3), w(10, 13), w(20, 20))},
		{"just behind", two, s(14, 15), row(s(0, 3), w(10, 13), s(14, 15))},
		{"behind, and it meets", two, s(13, 15), row(s(0, 3), s(10, 15))},
		{"within the lower", two, w(1, 2), two},
		{"within the upper", two, s(11, 11), two},
		{"like the lower, walked", two, w(0, 3), row(w(0, 3), w(10, 13))},
		{"like the upper, not walked", two, s(10, 13), two},
		{"it ends with the lower, walked", two, w(2, 3), row(w(0, 3), w(10, 13))},
		{"over the lower", two, w(-1, 4), row(w(-1, 4), w(10, 13))},
		{"over the upper", two, s(9, 14), row(s(0, 3), s(9, 14))},
		{"over both", two, w(-5, 14), row(w(-5, 14))},
		{"over both, from end to end", two, s(0, 13), row(w(0, 13))},
		{"over three of four", row(s(0, 0), w(2, 2), s(4, 4), w(6, 6)), s(2, 5), row(s(0, 0), s(2, 5), w(6, 6))},
		{"it meets all of many", full, s(3, 35), row(w(0, 38))},
		{"to a row of MaxSpans, and it meets one", full, w(9, 9), nil},
		{"to a row of MaxSpans, within one", full, w(6, 7), full},
		{"to a row of MaxSpans, like the last", full, s(35, 38), full},
		{"to a row of MaxSpans, over all", full, s(-high, high), row(s(-high, high))},
	} {
		if c.want == nil { // alone between two: there is no room
			if got, e := Put(c.l, c.p); got != nil || e != api.ErrFull {
				t.Errorf("%s: Put(%v, %v) = %v, %v", c.name, c.l, c.p, got, e)
			}
			continue
		}
		puts(t, c.name, c.l, c.p, c.want)
	}
}

// puts holds Put to its answer, and to leaving the row as it was.
func puts(t *testing.T, name string, l []api.Span, p api.Span, want []api.Span) {
	t.Helper()
	own := slices.Clone(l)
	got, e := Put(own, p)
	if e != api.OK || !slices.Equal(got, want) {
		t.Fatalf("%s: Put(%v, %v) = %v, %v; want %v", name, l, p, got, e, want)
	}
	if !slices.Equal(own, l) {
		t.Fatalf("%s: Put(%v, %v) has left %v", name, l, p, own)
	}
}

// P8.2: to all short rows, such as may not be among them, all pieces.
func TestPutOfAllShortRows(t *testing.T) {
	all := pieces(-1, 3)
	lists(2, all, func(l []api.Span) {
		for _, p := range all {
			if !mayBe(l) {
				if got, e := Put(l, p); got != nil || e != api.ErrArg {
					t.Fatalf("Put(%v, %v) = %v, %v", l, p, got, e)
				}
				continue
			}
			puts(t, "short", l, p, painted(append(l[:len(l):len(l)], p)))
		}
	})
}

// P8.2: to rows of one less than MaxSpans, of MaxSpans, of one more, each piece that there is round them.
func TestPutToFullRows(t *testing.T) {
	for n := most - 1; n <= most+1; n++ {
		l := spaced(n, 0)
		for _, p := range pieces(-2, 5*n+1) {
			want := painted(append(l[:n:n], p))
			e := api.OK
			switch {
			case n > most:
				e, want = api.ErrArg, nil
			case len(want) > most:
				e, want = api.ErrFull, nil
			}
			if got, f := Put(l, p); f != e || !slices.Equal(got, want) {
				t.Fatalf("Put(%v, %v) = %v, %v; want %v, %v", l, p, got, f, want, e)
			}
		}
	}
}

// P8.2: full just if the piece stands alone, ahead of, between or behind MaxSpans spans.
func TestPutIsFull(t *testing.T) {
	full := spaced(most, -20) // from -20 to -17, .. from 15 to 18
	for _, p := range row(s(-21, -21), w(-high, -21), s(-16, -16), w(-1, -1), s(14, 14), s(19, 19), w(19, high), s(high, high)) {
		if got, e := Put(full, p); got != nil || e != api.ErrFull {
			t.Errorf("Put(%v, %v) = %v, %v", full, p, got, e)
		}
		puts(t, "one less at the beginning", full[1:], p, painted(append(slices.Clone(full[1:]), p)))
		puts(t, "one less at the end", full[:most-1], p, painted(append(slices.Clone(full[:most-1]), p)))
	}
}

// P8.2: what may not be is told of ahead of what is full.
func TestPutRefusesInItsOrder(t *testing.T) {
	badRows := [][]api.Span{
		row(s(1, 0)), row(s(2, 3), s(0, 1)), row(s(0, 2), s(2, 3)), row(s(0, 0), s(0, 0)),
		row(s(-high-1, 0)), row(s(0, high+1)), row(s(math.MinInt, math.MaxInt)),
		spaced(most+1, 0), spaced(most+1, -99), spaced(60, 0),
	}
	for _, l := range badRows {
		for _, p := range append(wrongPieces(), s(500, 500), w(-high, high), s(0, 3)) {
			if got, e := Put(l, p); got != nil || e != api.ErrArg {
				t.Errorf("Put(%v, %v) = %v, %v", l, p, got, e)
			}
		}
	}
	for _, l := range [][]api.Span{nil, row(), row(w(0, 4)), spaced(most-1, 50), spaced(most, 50), row(s(-high, high))} {
		for _, p := range wrongPieces() {
			if got, e := Put(l, p); got != nil || e != api.ErrArg {
				t.Errorf("Put(%v, %v) = %v, %v", l, p, got, e)
			}
		}
	}
}

func TestSolidTable(t *testing.T) {
	l := row(s(-9, -5), w(-4, -4), s(0, 3), w(5, 8), w(high, high))
	odd := row(s(6, 2), s(4, 5), w(0, 9), s(7, 8), w(4, 4), s(-3, -2), s(-9, 1))
	all := row(s(3, 1), s(math.MinInt, math.MaxInt), s(0, 0))
	for _, c := range []struct {
		name string
		l    []api.Span
		y    int
		want int // -1: none
	}{
		{"none", nil, 0, -1},
		{"nothing", row(), 0, -1},
		{"at the first Lo", l, -9, 0},
		{"within the first", l, -7, 0},
		{"at the first Hi", l, -5, 0},
		{"at one of one height, just above another", l, -4, 1},
		{"just above it", l, -3, -1},
		{"just below a Lo", l, -1, -1},
		{"at Lo 0", l, 0, 2},
		{"within", l, 2, 2},
		{"at a Hi", l, 3, 2},
		{"between two", l, 4, -1},
		{"at a Lo", l, 5, 3},
		{"within the last but one", l, 6, 3},
		{"at its Hi", l, 8, 3},
		{"just above", l, 9, -1},
		{"just below the last", l, high - 1, -1},
		{"in the last", l, high, 4},
		{"above the last", l, high + 1, -1},
		{"just below the first", l, -10, -1},
		{"as low as an int goes", l, math.MinInt, -1},
		{"as high as an int goes", l, math.MaxInt, -1},
		{"Lo above Hi holds nothing, nor its Lo", odd, 6, 2},
		{"nor its Hi", odd, 2, 2},
		{"the first of three", odd, 4, 1},
		{"the first of two, at its Hi", odd, 5, 1},
		{"in the wider one, ahead of the narrow one", odd, 8, 2},
		{"not rising", odd, -2, 5},
		{"not rising, in the last", odd, -4, 6},
		{"of two, the one that is ahead", odd, 0, 2},
		{"in none", odd, 10, -1},
		{"of numbers as low as an int holds", all, math.MinInt, 1},
		{"of numbers as high as an int holds", all, math.MaxInt, 1},
		{"of numbers as great as an int holds", all, 0, 1},
		{"of a row of more than may be", spaced(100, 0), 5*99 + 3, 99},
	} {
		at, ok := Solid(c.l, c.y)
		if ok != (c.want >= 0) || at != max(c.want, 0) {
			t.Errorf("%s: Solid(%v, %d) = %d, %v; want %d", c.name, c.l, c.y, at, ok, c.want)
		}
	}
}

// P8.2: in all short lists, merged or not, rising or not: the least place of those that hold the height.
func TestSolidOfAllShortRows(t *testing.T) {
	lists(3, append(pieces(-1, 2), s(1, 0), s(2, -1)), func(l []api.Span) {
		for y := -2; y <= 3; y++ {
			want, some := 0, false
			for i := len(l) - 1; i >= 0; i-- {
				if l[i].Lo <= y && l[i].Hi >= y {
					want, some = i, true
				}
			}
			if at, ok := Solid(l, y); at != want || ok != some {
				t.Fatalf("Solid(%v, %d) = %d, %v; want %d, %v", l, y, at, ok, want, some)
			}
		}
	})
}

// P8.3: pieces in every order come to the same.
func TestOrderDoesNotMatter(t *testing.T) {
	for _, l := range [][]api.Span{
		row(s(0, 5), w(5, 5), s(4, 4), w(2, 4), s(7, 8), w(8, 8)),
		row(w(-3, 0), s(-3, 0), w(-1, 1), s(1, 1), w(3, 3), s(2, 2)),
		row(w(0, 9), s(0, 9), s(0, 9), s(0, 10), w(0, 8), w(10, 10)),
		row(s(0, 1), s(2, 3), s(4, 5), s(6, 7), s(8, 9), w(1, 8)),
	} {
		want := painted(l)
		orders(l, func(m []api.Span) { merges(t, m, want) })
	}
}

// P8.3: what is merged again stays; merged in parts, in all ways to part it, or put piece by piece, it comes to the same.
func TestMergedAgainAndInParts(t *testing.T) {
	holds := func(l []api.Span) {
		want, _ := Merge(l)
		merges(t, want, want)
		for some := range 1 << len(l) {
			var in, out []api.Span
			for i, p := range l {
				if some>>i&1 == 1 {
					in = append(in, p)
				} else {
					out = append(out, p)
				}
			}
			a, _ := Merge(in)
			b, _ := Merge(out)
			merges(t, slices.Concat(a, b), want)
			merges(t, slices.Concat(a, out), want)
		}
		var grown []api.Span
		for _, p := range l {
			grown, _ = Put(grown, p)
		}
		if !Same(grown, want) {
			t.Fatalf("%v put one by one: %v; merged: %v", l, grown, want)
		}
		for _, p := range l {
			puts(t, "again", grown, p, want)
		}
	}
	lists(3, pieces(0, 3), holds)
	holds(row(s(0, 5), w(5, 5), s(4, 4), w(2, 4), s(7, 8), w(8, 8), s(10, 10)))
	holds(spaced(most, -3))
}

// P8.3: a height is in a piece just if it is in a span, and in one alone; the spans hold nothing else.
func TestHeightsStay(t *testing.T) {
	holds := func(l []api.Span, from, to int) {
		merged, _ := Merge(l)
		for y := from; y <= to; y++ {
			_, inPiece := Solid(l, y)
			at, inSpan := Solid(merged, y)
			if inPiece != inSpan {
				t.Fatalf("height %d is in a piece of %v: %v; in a span of %v: %v", y, l, inPiece, merged, inSpan)
			}
			if !inSpan {
				continue
			}
			if again, more := Solid(merged[at+1:], y); more {
				t.Fatalf("height %d is in two spans of %v: %d and %d", y, merged, at, at+1+again)
			}
		}
	}
	lists(3, pieces(-2, 3), func(l []api.Span) { holds(l, -3, 4) })
	holds(row(s(-high, -high), w(3-high, 9-high), s(high-9, high-1), w(high, high)), -high-1, high+1)
	holds(strewn(spaced(89, -200), 34), -210, 300)
}

// R1, R4: nothing and none are taken alike, and what is answered of them holds nothing.
func TestNothing(t *testing.T) {
	for _, l := range [][]api.Span{nil, row(), spaced(3, 0)[:0]} {
		if got, e := Merge(l); len(got) != 0 || e != api.OK {
			t.Errorf("Merge(%v) = %v, %v", l, got, e)
		}
		if e := Check(l); e != api.OK {
			t.Errorf("Check(%v) = %v", l, e)
		}
		if got, e := Put(l, w(1, 2)); !slices.Equal(got, row(w(1, 2))) || e != api.OK {
			t.Errorf("Put(%v, [1, 2]) = %v, %v", l, got, e)
		}
		if at, ok := Solid(l, 0); at != 0 || ok {
			t.Errorf("Solid(%v, 0) = %d, %v", l, at, ok)
		}
	}
}

// R4: what is handed in stays as it was, the spare room behind it, too; an answer is in memory of its own, and so is the next one.
func TestMemory(t *testing.T) {
	merge := func(l []api.Span) []api.Span { got, _ := Merge(l); return got }
	for _, l := range [][]api.Span{row(s(0, 3), w(5, 8)), row(w(5, 8)), spaced(most, 0), row(), row(s(-high, high))} {
		ownMemory(t, l, merge)
		for _, p := range row(s(20, 21), w(4, 4), s(3, 5), w(1, 2), s(-high, high), w(36, 38), s(1, 0)) {
			ownMemory(t, append(l[:len(l):len(l)], p), merge)
			ownMemory(t, l, func(l []api.Span) []api.Span { got, _ := Put(l, p); return got })
		}
	}
}

// ownMemory has all memory written over: what is handed in, what is answered, and the spare room behind each.
func ownMemory(t *testing.T, l []api.Span, call func([]api.Span) []api.Span) {
	t.Helper()
	all := append(slices.Clone(l), w(99, 99), s(98, 98), s(97, 97))
	own := slices.Clone(all)
	one, two := call(own[:len(l)]), call(own[:len(l)])
	kept := slices.Clone(two)
	blot(one)
	if !slices.Equal(own, all) {
		t.Errorf("of %v, %v is left", all, own)
	}
	if !slices.Equal(two, kept) {
		t.Errorf("of %v: writing over one answer has changed another one, %v, to %v", l, kept, two)
	}
	blot(own)
	if !slices.Equal(two, kept) {
		t.Errorf("writing over %v has changed the answer %v to %v", all, kept, two)
	}
}

func blot(l []api.Span) {
	for i := range l[:cap(l)] {
		l[:cap(l)][i] = s(-77, 77)
	}
}

// R4: pieces that come in the wrong order, or that meet, are sorted and joined elsewhere.
func TestMergeLeavesWhatIsHandedIn(t *testing.T) {
	l := row(s(9, 12), w(3, 5), s(0, 1), w(1, 3), w(12, 12), s(20, 20))
	own := append(slices.Clone(l), s(-4, -4), s(2, 30))
	all := slices.Clone(own)
	merges(t, own[:len(l)], row(w(0, 5), w(9, 12), s(20, 20)))
	if !slices.Equal(own, all) {
		t.Errorf("of %v, %v is left", all, own)
	}
	if at, ok := Solid(own, 2); at != 3 || !ok || !slices.Equal(own, all) {
		t.Errorf("Solid: %d, %v; %v is left", at, ok, own)
	}
	if e := Check(own[:len(l)]); e != api.ErrArg || !slices.Equal(own, all) {
		t.Errorf("Check: %v; %v is left", e, own)
	}
}
