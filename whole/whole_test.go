package whole

import (
	"math"
	"math/big"
	"testing"

	"footpath/api"
)

const (
	far  = 1 << 61
	side = 1 << 30
)

// odd holds small numbers, those at and beside the bounds of the chapter, and those far beyond them.
var odd = []int{
	math.MinInt, math.MinInt + 1, -far - 1, -far, -far + 1, -1 << 32, -side - 1, -side, -side + 1, -1000003, -17, -7, -3, -2, -1,
	0, 1, 2, 3, 7, 17, 1000003, side - 1, side, side + 1, 1 << 32, far - 1, far, far + 1, math.MaxInt - 1, math.MaxInt,
}

func brought(n int) int {
	if n < -far {
		return -far
	}
	if n > far {
		return far
	}
	return n
}

// wide divides in numbers that can't run over; big's own division keeps what is left at 0 or above.
func wide(a, b int) (floor, ceil int) {
	x, y := big.NewInt(int64(brought(a))), big.NewInt(int64(brought(b)))
	left := new(big.Int)
	q, _ := new(big.Int).DivMod(x, y, left)
	low, high := int(q.Int64()), int(q.Int64())
	switch {
	case left.Sign() == 0:
	case y.Sign() > 0:
		high++
	default:
		low--
	}
	return low, high
}

func TestFloorAndCeilTable(t *testing.T) {
	for _, c := range []struct{ a, b, floor, ceil int }{
		{-7, 2, -4, -3},
		{7, 2, 3, 4},
		{7, -2, -4, -3},
		{-7, -2, 3, 4},
		{6, 3, 2, 2},
		{-6, 3, -2, -2},
		{6, -3, -2, -2},
		{-6, -3, 2, 2},
		{0, 5, 0, 0},
		{0, -5, 0, 0},
		{1, 5, 0, 1},
		{-1, 5, -1, 0},
		{1, -5, -1, 0},
		{5, 1, 5, 5},
		{5, -1, -5, -5},
		{far, 1, far, far},
		{far, -1, -far, -far},
		{-far, 1, -far, -far},
		{-far, -1, far, far},
		{far + 1, 1, far, far},
		{-far - 1, 1, -far, -far},
		{math.MaxInt, 1, far, far},
		{math.MinInt, 1, -far, -far},
		{math.MinInt, -1, far, far},
		{math.MaxInt, math.MinInt, -1, -1},
		{math.MaxInt, far, 1, 1},
		{1, math.MinInt, -1, 0},
		{-1, math.MaxInt, -1, 0},
		{far - 1, math.MaxInt, 0, 1},
	} {
		if got, e := Floor(c.a, c.b); got != c.floor || e != api.OK {
			t.Errorf("Floor(%d, %d) = %d, %v; want %d", c.a, c.b, got, e, c.floor)
		}
		if got, e := Ceil(c.a, c.b); got != c.ceil || e != api.OK {
			t.Errorf("Ceil(%d, %d) = %d, %v; want %d", c.a, c.b, got, e, c.ceil)
		}
	}
}

func TestFloorAndCeilAgainstWideNumbers(t *testing.T) {
	check := func(a, b int) {
		if b == 0 {
			return
		}
		floor, ceil := wide(a, b)
		if got, e := Floor(a, b); got != floor || e != api.OK {
			t.Errorf("Floor(%d, %d) = %d, %v; want %d", a, b, got, e, floor)
		}
		if got, e := Ceil(a, b); got != ceil || e != api.OK {
			t.Errorf("Ceil(%d, %d) = %d, %v; want %d", a, b, got, e, ceil)
		}
	}
	for _, a := range odd {
		for _, b := range odd {
			check(a, b)
		}
	}
	for a := -40; a <= 40; a++ {
		for b := -12; b <= 12; b++ {
			check(a, b)
		}
	}
}

func TestFloorAndCeilRefuseTheDivisorZero(t *testing.T) {
	for _, a := range odd {
		if got, e := Floor(a, 0); got != 0 || e != api.ErrArg {
			t.Errorf("Floor(%d, 0) = %d, %v", a, got, e)
		}
		if got, e := Ceil(a, 0); got != 0 || e != api.ErrArg {
			t.Errorf("Ceil(%d, 0) = %d, %v", a, got, e)
		}
	}
}

func TestModTable(t *testing.T) {
	for _, c := range []struct{ a, b, want int }{
		{7, 3, 1},
		{-7, 3, 2},
		{6, 3, 0},
		{-6, 3, 0},
		{0, 3, 0},
		{5, 1, 0},
		{-5, 1, 0},
		{5, 9, 5},
		{-5, 9, 4},
		{far, far, 0},
		{far - 1, far, far - 1},
		{-1, far, far - 1},
		{far + 5, 7, far % 7},
		{math.MaxInt, far, 0},
		{math.MinInt, far, 0},
		{5, math.MaxInt, 5},
		{-1, math.MaxInt, far - 1},
	} {
		if got, e := Mod(c.a, c.b); got != c.want || e != api.OK {
			t.Errorf("Mod(%d, %d) = %d, %v; want %d", c.a, c.b, got, e, c.want)
		}
	}
}

func TestModIsWhatFloorLeaves(t *testing.T) {
	for _, a := range odd {
		for _, b := range odd {
			if b < 1 {
				if got, e := Mod(a, b); got != 0 || e != api.ErrArg {
					t.Errorf("Mod(%d, %d) = %d, %v; want ErrArg", a, b, got, e)
				}
				continue
			}
			left := new(big.Int).Mod(big.NewInt(int64(brought(a))), big.NewInt(int64(brought(b))))
			if got, e := Mod(a, b); got != int(left.Int64()) || e != api.OK {
				t.Errorf("Mod(%d, %d) = %d, %v; want %v", a, b, got, e, left)
			}
		}
	}
}

func TestSign(t *testing.T) {
	for _, a := range odd {
		want := 0
		if a > 0 {
			want = 1
		}
		if a < 0 {
			want = -1
		}
		if got := Sign(a); got != want {
			t.Errorf("Sign(%d) = %d; want %d", a, got, want)
		}
	}
}

func checkRoots(t *testing.T, n, root, up int) {
	t.Helper()
	if got, e := Root(n); got != root || e != api.OK {
		t.Errorf("Root(%d) = %d, %v; want %d", n, got, e, root)
	}
	if got, e := RootUp(n); got != up || e != api.OK {
		t.Errorf("RootUp(%d) = %d, %v; want %d", n, got, e, up)
	}
}

func TestRootsOfSmallNumbers(t *testing.T) {
	root := 0
	for n := 0; n <= 5000; n++ {
		if (root+1)*(root+1) == n {
			root++
		}
		up := root
		if root*root < n {
			up++
		}
		checkRoots(t, n, root, up)
	}
}

func TestRootsOfSquaresAndTheirNeighbours(t *testing.T) {
	const top = 1518500249 // the root's floor of 2^61
	for _, k := range []int{2, 3, 4, 1 << 15, 1<<16 - 1, 1 << 16, 94906267, 1<<30 - 1, 1 << 30, 1<<30 + 1, top - 1, top} {
		checkRoots(t, k*k-1, k-1, k)
		checkRoots(t, k*k, k, k)
		checkRoots(t, k*k+1, k, k+1)
	}
	checkRoots(t, far-1, top, top+1)
	checkRoots(t, far, top, top+1)
	checkRoots(t, far+1, top, top+1)
	checkRoots(t, (top+1)*(top+1), top, top+1)
	checkRoots(t, math.MaxInt, top, top+1)
}

func TestRootsRefuseNumbersBelowZero(t *testing.T) {
	for _, n := range odd {
		if n >= 0 {
			continue
		}
		if got, e := Root(n); got != 0 || e != api.ErrArg {
			t.Errorf("Root(%d) = %d, %v", n, got, e)
		}
		if got, e := RootUp(n); got != 0 || e != api.ErrArg {
			t.Errorf("RootUp(%d) = %d, %v", n, got, e)
		}
	}
}

func TestCrossTable(t *testing.T) {
	for _, c := range [][5]int{
		{2, 3, 5, 7, -1},
		{0, 0, 0, 0, 0},
		{1, 0, 0, 1, 1},
		{0, 1, 1, 0, -1},
		{-2, 3, 5, -7, -1},
		{-4, 9, -6, 11, 10},
		{side, side, side, side, 0},
		{side, side, -side, side, far},
		{-side, side, side, side, -far},
		{side - 1, 1, side, side, side*side - 2*side},
	} {
		if got, e := Cross(c[0], c[1], c[2], c[3]); got != c[4] || e != api.OK {
			t.Errorf("Cross(%v) = %d, %v; want %d", c[:4], got, e, c[4])
		}
	}
}

func TestCrossRefusesEachNumberBeyondItsBound(t *testing.T) {
	for place := range 4 {
		for _, n := range odd {
			in := [4]int{1, 1, 1, 1}
			in[place] = n
			got, e := Cross(in[0], in[1], in[2], in[3])
			if n < -side || n > side {
				if got != 0 || e != api.ErrArg {
					t.Errorf("Cross(%v) = %d, %v; want ErrArg", in, got, e)
				}
			} else if got != in[0]*in[3]-in[1]*in[2] || e != api.OK {
				t.Errorf("Cross(%v) = %d, %v", in, got, e)
			}
		}
	}
}

// may has the greatest Height, so that a Climb past its bound isn't refused for the Height's sake.
var may = api.Config{Clear: 1, Climb: 2, Height: 32, Rise: 50, Run: 50, W: 16, D: 16}

// bounds lists of each field of a config its least and its greatest number, the others being those of may.
var bounds = []struct {
	name   string
	lo, hi int
	field  func(*api.Config) *int
}{
	{"Clear", 0, 3, func(c *api.Config) *int { return &c.Clear }},
	{"Climb", 0, 8, func(c *api.Config) *int { return &c.Climb }},
	{"Height", 3, 32, func(c *api.Config) *int { return &c.Height }},
	{"Rise", 0, 100, func(c *api.Config) *int { return &c.Rise }},
	{"Run", 1, 100, func(c *api.Config) *int { return &c.Run }},
	{"W", 1, 32, func(c *api.Config) *int { return &c.W }},
	{"D", 1, 32, func(c *api.Config) *int { return &c.D }},
}

func TestCheckEachBoundAndOnePastIt(t *testing.T) {
	for _, b := range bounds {
		for _, n := range append([]int{b.lo - 1, b.lo, b.lo + 1, b.hi - 1, b.hi, b.hi + 1}, odd...) {
			c := may
			*b.field(&c) = n
			want := api.ErrConfig
			if n >= b.lo && n <= b.hi {
				want = api.OK
			}
			if got := Check(c); got != want {
				t.Errorf("%s %d: %v; want %v", b.name, n, got, want)
			}
		}
	}
}

func TestCheckHoldsHeightAboveClimb(t *testing.T) {
	for climb := range 9 {
		c := may
		c.Climb, c.Height = climb, climb
		if got := Check(c); got != api.ErrConfig {
			t.Errorf("Climb and Height %d: %v", climb, got)
		}
		c.Height++
		if got := Check(c); got != api.OK {
			t.Errorf("Climb %d, Height %d: %v", climb, c.Height, got)
		}
	}
	c := may
	c.Climb, c.Height = math.MaxInt, math.MinInt
	if got := Check(c); got != api.ErrConfig {
		t.Errorf("a Climb without a next one: %v", got)
	}
}

func TestCheckWholeConfigs(t *testing.T) {
	for _, c := range []api.Config{
		{Height: 1, Run: 1, W: 1, D: 1},
		{Clear: 3, Climb: 8, Height: 32, Rise: 100, Run: 100, W: 32, D: 32},
	} {
		if got := Check(c); got != api.OK {
			t.Errorf("%v: %v", c, got)
		}
	}
	if got := Check(api.Config{}); got != api.ErrConfig {
		t.Errorf("the zero config: %v", got)
	}
}

// TestFloorsNeighbourhood holds P1.5's first sentence, in numbers that can't run over.
func TestFloorsNeighbourhood(t *testing.T) {
	for _, a := range odd {
		for _, b := range odd {
			if b == 0 {
				continue
			}
			floor, _ := Floor(a, b)
			ceil, _ := Ceil(a, b)
			if back, _ := Floor(-brought(a), b); ceil != -back {
				t.Errorf("Ceil(%d, %d) = %d; - Floor(- a, b) = %d", a, b, ceil, -back)
			}
			if b < 0 {
				continue
			}
			x, y := big.NewInt(int64(brought(a))), big.NewInt(int64(brought(b)))
			low := new(big.Int).Mul(big.NewInt(int64(floor)), y)
			if low.Cmp(x) > 0 || low.Cmp(new(big.Int).Sub(x, y)) <= 0 {
				t.Errorf("Floor(%d, %d) = %d is not beside a", a, b, floor)
			}
		}
	}
}

// TestRootsNeighbourhood holds P1.5's second sentence.
func TestRootsNeighbourhood(t *testing.T) {
	for n := 1; n > 0; n = n*3 + 1 {
		root, _ := Root(n)
		up, _ := RootUp(n)
		m := brought(n)
		if root*root > m || (root+1)*(root+1) <= m {
			t.Errorf("Root(%d) = %d", n, root)
		}
		if up*up < m || (up-1)*(up-1) >= m {
			t.Errorf("RootUp(%d) = %d", n, up)
		}
	}
}
