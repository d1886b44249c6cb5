package tick_test

import (
	"math"
	"math/big"
	"slices"
	"strconv"
	"testing"

	"hortator/tick"
)

const (
	low  = math.MinInt64
	high = math.MaxInt64
	root = 3037000499 // the greatest whose square an int64 has
)

// edges are the numbers near which a reckoning in 64 bits may go wrong.
func edges() []int64 {
	l := []int64{0, 1, 2, 3, 4, 5, 7, 10, 200, 20000,
		1<<31 - 1, 1 << 31, 1<<31 + 1, root, root + 1, 1<<32 - 1, 1 << 32, 1<<32 + 1,
		high / 3, high/3 + 1, 1<<62 - 1, 1 << 62, 1<<62 + 1, high - 2, high - 1, high}
	for _, v := range slices.Clone(l) {
		l = append(l, -v)
	}
	return append(l, low, low+1, low+2, low/3, low/3-1)
}

// fewEdges are for tests that take many at once.
func fewEdges() []int64 {
	return []int64{0, 1, 2, 3, root, 1 << 32, 1 << 62, high - 2, high - 1, high,
		-1, -2, -3, -root, -1 << 32, -1 << 62, low + 1, low}
}

// exact is the answer that stands for x: 0, false, where no int64 has it.
func exact(x *big.Int) (int64, bool) {
	if x.IsInt64() {
		return x.Int64(), true
	}
	return 0, false
}

func TestAddOfEdgesIsExact(t *testing.T) {
	for _, a := range edges() {
		for _, b := range edges() {
			want, wantOK := exact(new(big.Int).Add(big.NewInt(a), big.NewInt(b)))
			if got, ok := tick.Add(a, b); got != want || ok != wantOK {
				t.Errorf("P1.1: Add(%d, %d) = %d, %v; want %d, %v", a, b, got, ok, want, wantOK)
			}
		}
	}
}

func TestMulOfEdgesIsExact(t *testing.T) {
	for _, a := range edges() {
		for _, b := range edges() {
			want, wantOK := exact(new(big.Int).Mul(big.NewInt(a), big.NewInt(b)))
			if got, ok := tick.Mul(a, b); got != want || ok != wantOK {
				t.Errorf("P1.1: Mul(%d, %d) = %d, %v; want %d, %v", a, b, got, ok, want, wantOK)
			}
		}
	}
}

func TestAddAndMulOfSmallNumbers(t *testing.T) {
	for a := int64(-20); a <= 20; a++ {
		for b := int64(-20); b <= 20; b++ {
			if got, ok := tick.Add(a, b); got != a+b || !ok {
				t.Errorf("P1.1: Add(%d, %d) = %d, %v", a, b, got, ok)
			}
			if got, ok := tick.Mul(a, b); got != a*b || !ok {
				t.Errorf("P1.1: Mul(%d, %d) = %d, %v", a, b, got, ok)
			}
		}
	}
}

func TestAddAndMulWhereNoInt64HasIt(t *testing.T) {
	for _, x := range [][2]int64{{high, 1}, {1, high}, {high, high}, {low, -1}, {-1, low}, {low, low}, {1 << 62, 1 << 62}} {
		if got, ok := tick.Add(x[0], x[1]); got != 0 || ok {
			t.Errorf("P1.1, P0.2: Add(%d, %d) = %d, %v; want 0, false", x[0], x[1], got, ok)
		}
	}
	for _, x := range [][2]int64{{high, 2}, {2, high}, {high, -2}, {low, -1}, {-1, low}, {low, 2}, {low, low}, {root + 1, root + 1}, {1 << 32, 1 << 31}, {1 << 32, 1 << 32}} {
		if got, ok := tick.Mul(x[0], x[1]); got != 0 || ok {
			t.Errorf("P1.1, P0.2: Mul(%d, %d) = %d, %v; want 0, false", x[0], x[1], got, ok)
		}
	}
}

// bigDown rounds down; Div of package big does so where b is above 0.
func bigDown(a, b int64) int64 {
	return new(big.Int).Div(big.NewInt(a), big.NewInt(b)).Int64()
}

// bigUp rounds down from the other side of 0.
func bigUp(a, b int64) int64 {
	x := new(big.Int).Neg(big.NewInt(a))
	x.Div(x, big.NewInt(b))
	return x.Neg(x).Int64()
}

func checkParts(t *testing.T, a, b int64) {
	t.Helper()
	var up, down int64
	if b > 0 {
		up, down = bigUp(a, b), bigDown(a, b)
	}
	if got := tick.Up(a, b); got != up {
		t.Errorf("P1.1: Up(%d, %d) = %d; want %d", a, b, got, up)
	}
	if got := tick.Down(a, b); got != down {
		t.Errorf("P1.1: Down(%d, %d) = %d; want %d", a, b, got, down)
	}
}

func TestUpAndDown(t *testing.T) {
	for _, a := range edges() {
		for _, b := range edges() {
			checkParts(t, a, b)
		}
	}
	for a := int64(-30); a <= 30; a++ {
		for b := int64(-3); b <= 12; b++ {
			checkParts(t, a, b)
		}
	}
}

func TestUpAndDownOfBelowZero(t *testing.T) {
	for _, x := range []struct{ a, b, up, down int64 }{
		{-1, 2, 0, -1}, {-2, 2, -1, -1}, {-3, 2, -1, -2}, {-7, 3, -2, -3},
		{low, 1, low, low}, {low, 2, low / 2, low / 2}, {low, high, -1, -2}, {low + 1, high, -1, -1}, {-1, high, 0, -1},
	} {
		if up, down := tick.Up(x.a, x.b), tick.Down(x.a, x.b); up != x.up || down != x.down {
			t.Errorf("P1.1: of %d / %d: Up %d, Down %d; want %d, %d", x.a, x.b, up, down, x.up, x.down)
		}
	}
}

func TestUpAndDownWithoutADivisorAboveZero(t *testing.T) {
	for _, a := range edges() {
		for _, b := range []int64{0, -1, -2, -high, low} {
			if up, down := tick.Up(a, b), tick.Down(a, b); up != 0 || down != 0 {
				t.Errorf("P1.1: of %d / %d: Up %d, Down %d; want 0, 0", a, b, up, down)
			}
		}
	}
}

// bigLess holds the cross products against each other.
func bigLess(a, b, c, d int64) bool {
	if b <= 0 || d <= 0 {
		return false
	}
	x := new(big.Int).Mul(big.NewInt(a), big.NewInt(d))
	y := new(big.Int).Mul(big.NewInt(c), big.NewInt(b))
	return x.Cmp(y) < 0
}

func checkLess(t *testing.T, a, b, c, d int64) {
	t.Helper()
	if got, want := tick.Less(a, b, c, d), bigLess(a, b, c, d); got != want {
		t.Errorf("P1.1: Less(%d, %d, %d, %d) = %v; want %v", a, b, c, d, got, want)
	}
}

func TestLess(t *testing.T) {
	for _, a := range fewEdges() {
		for _, b := range fewEdges() {
			for _, c := range fewEdges() {
				for _, d := range fewEdges() {
					checkLess(t, a, b, c, d)
				}
			}
		}
	}
	for a := int64(-6); a <= 6; a++ {
		for b := int64(-1); b <= 6; b++ {
			for c := int64(-6); c <= 6; c++ {
				for d := int64(-1); d <= 6; d++ {
					checkLess(t, a, b, c, d)
				}
			}
		}
	}
}

// Fractions so close that a float, or a product of 64 bits, takes them for one.
func TestLessOfFractionsThatAreNear(t *testing.T) {
	for k := int64(0); k < 40; k++ {
		for _, n := range []int64{high - k, 1<<62 + k, root + k, 1<<53 + k} {
			checkLess(t, n-1, n, n-2, n-1)
			checkLess(t, n-2, n-1, n-1, n)
			checkLess(t, n-1, n, n-1, n)
			checkLess(t, -n, n-1, 1-n, n-2)
			checkLess(t, 1-n, n-2, -n, n-1)
			checkLess(t, n/2, n, (n-1)/2, n-1)
			checkLess(t, (n-1)/2, n-1, n/2, n)
		}
	}
}

func TestLessWithoutADivisorAboveZero(t *testing.T) {
	for _, n := range []int64{0, -1, -2, -high, low} {
		for _, l := range [][4]int64{{1, n, 2, 1}, {1, 1, 2, n}, {1, n, 2, n}, {low, n, high, 1}, {low, 1, high, n}, {high, n, low, 1}, {high, 1, low, n}} {
			if tick.Less(l[0], l[1], l[2], l[3]) {
				t.Errorf("P1.1: Less(%d, %d, %d, %d) = true", l[0], l[1], l[2], l[3])
			}
		}
	}
}

func checkSum(t *testing.T, l []int64) {
	t.Helper()
	x := new(big.Int)
	for _, v := range l {
		x.Add(x, big.NewInt(v))
	}
	want, wantOK := exact(x)
	if got, ok := tick.Sum(l...); got != want || ok != wantOK {
		t.Errorf("P1.1: Sum(%d...) = %d, %v; want %d, %v", l, got, ok, want, wantOK)
	}
}

func TestSumOfFew(t *testing.T) {
	for _, a := range edges() {
		checkSum(t, []int64{a})
		for _, b := range edges() {
			checkSum(t, []int64{a, b})
		}
	}
	for _, a := range fewEdges() {
		for _, b := range fewEdges() {
			for _, c := range fewEdges() {
				checkSum(t, []int64{a, b, c})
				for _, d := range fewEdges() {
					checkSum(t, []int64{a, b, c, d})
				}
			}
		}
	}
}

func TestSumThatRunsOverInBetween(t *testing.T) {
	for _, x := range []struct {
		l    []int64
		want int64
		ok   bool
	}{
		{[]int64{high, 1, -1}, high, true},
		{[]int64{low, -1, 1}, low, true},
		{[]int64{high, high, low, low}, -2, true},
		{[]int64{low, low, high, high, 2, high}, high, true},
		{[]int64{high, high, low, low, low + 2}, low, true},
		{[]int64{high, high, low, low, low + 1}, 0, false},
		{[]int64{low, low, high, high, 3, high}, 0, false},
		{[]int64{low, low}, 0, false},           // 2^64 apart from 0: it would wrap to it
		{[]int64{high, high, 2}, 0, false},      // the same, from above
		{[]int64{low, low, low, low}, 0, false}, // 2^65 apart from 0
	} {
		if got, ok := tick.Sum(x.l...); got != x.want || ok != x.ok {
			t.Errorf("P1.1: Sum(%d...) = %d, %v; want %d, %v", x.l, got, ok, x.want, x.ok)
		}
	}
}

func TestSumOfMany(t *testing.T) {
	const n = 100000
	up, down := slices.Repeat([]int64{high}, n), slices.Repeat([]int64{low}, n)
	if got, ok := tick.Sum(slices.Concat(up, down)...); got != -n || !ok {
		t.Errorf("P1.1: Sum of many = %d, %v; want %d, true", got, ok, -n)
	}
	if got, ok := tick.Sum(slices.Concat(down, up, slices.Repeat([]int64{1}, n))...); got != 0 || !ok {
		t.Errorf("P1.1: Sum of many = %d, %v; want 0, true", got, ok)
	}
	for _, l := range [][]int64{up, down} {
		if got, ok := tick.Sum(l...); got != 0 || ok {
			t.Errorf("P1.1: Sum of %d times %d = %d, %v; want 0, false", n, l[0], got, ok)
		}
	}
	// The lower halves alone run over 2^32 many times.
	if got, ok := tick.Sum(slices.Repeat([]int64{1<<32 - 1}, n)...); got != n*(1<<32-1) || !ok {
		t.Errorf("P1.1: Sum of many halves = %d, %v", got, ok)
	}
	if got, ok := tick.Sum(slices.Repeat([]int64{-1}, n)...); got != -n || !ok {
		t.Errorf("P1.1: Sum of many times -1 = %d, %v", got, ok)
	}
}

func TestSumOfNothing(t *testing.T) {
	for _, l := range [][]int64{nil, {}, make([]int64, 0, 5)} {
		if got, ok := tick.Sum(l...); got != 0 || !ok {
			t.Errorf("P1.1, P0.4: Sum of nothing = %d, %v; want 0, true", got, ok)
		}
	}
	if got, ok := tick.Sum(); got != 0 || !ok {
		t.Errorf("P1.1: Sum() = %d, %v; want 0, true", got, ok)
	}
}

func TestSumLeavesItsListAlone(t *testing.T) {
	whole := []int64{high, high, low, low, 7, 8, 9}
	before := slices.Clone(whole)
	for range 3 {
		if got, ok := tick.Sum(whole[:5]...); got != 5 || !ok {
			t.Errorf("P0.5: Sum = %d, %v; want 5, true", got, ok)
		}
	}
	if !slices.Equal(whole, before) {
		t.Errorf("P0.3: the list, or its spare room, is %d; was %d", whole, before)
	}
}

func TestSumIsTheSameInEachOrder(t *testing.T) {
	l := []int64{high, low, 1, high, -1, low, 3}
	for range l {
		l = append(l[1:], l[0])
		if got, ok := tick.Sum(l...); got != 1 || !ok {
			t.Errorf("P1.1: Sum(%d...) = %d, %v; want 1, true", l, got, ok)
		}
	}
}

func TestIntIsWide(t *testing.T) {
	if strconv.IntSize != 64 {
		t.Errorf("P0.6: int has %d bits", strconv.IntSize)
	}
}
