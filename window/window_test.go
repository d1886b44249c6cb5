package window_test

import (
	"math"
	"math/big"
	"math/rand"
	"reflect"
	"slices"
	"testing"

	"hortator/api"
	"hortator/demand"
	"hortator/window"
)

const (
	low  = math.MinInt64
	high = math.MaxInt64
)

func task(c, d, period int64) api.Task {
	return api.Task{C: c, D: d, T: period}
}

func machine(cores int, lag, move int64) api.Config {
	return api.Config{Cores: cores, Lag: lag, Move: move}
}

func piece(core int, off, length, c int64) api.Piece {
	return api.Piece{Core: core, Off: off, Len: length, C: c}
}

// leaving gives one core for each number, on which of each 20 ticks just so many are left.
func leaving(free ...int64) [][]api.Load {
	cores := make([][]api.Load, len(free))
	for i, f := range free {
		if f < 20 {
			cores[i] = []api.Load{{C: 20 - f, D: 20, T: 20}}
		}
	}
	return cores
}

// reckoned is Size in numbers that have no end.
func reckoned(d, lag int64, n int) int64 {
	if n < 1 {
		return 0
	}
	by := big.NewInt(int64(n))
	x := new(big.Int).Sub(by, big.NewInt(1))
	x.Mul(x, big.NewInt(lag)).Sub(big.NewInt(d), x)
	// Div rounds down, as its divisor is above 0.
	x.Div(x, by)
	if x.Sign() < 1 {
		return 0
	}
	return x.Int64()
}

// tried gives of each core how much fits within w, by every number of ticks.
func tried(loads [][]api.Load, w, period int64) []int64 {
	fits := make([]int64, len(loads))
	for i, l := range loads {
		for c := int64(1); len(l) < 24 && c <= w; c++ {
			if demand.Fits(slices.Concat(l, []api.Load{{C: c, D: w, T: period}})) {
				fits[i] = c
			}
		}
	}
	return fits
}

// chosen marks n times the first of those that have most; false: there are fewer above move.
func chosen(fits []int64, n int, move int64) ([]bool, bool) {
	marks := make([]bool, len(fits))
	for range n {
		best := -1
		for i, x := range fits {
			if !marks[i] && x > move && (best < 0 || x > fits[best]) {
				best = i
			}
		}
		if best < 0 {
			return nil, false
		}
		marks[best] = true
	}
	return marks, true
}

// dealt lays tick by tick in the marked cores, and says whether all of t is there.
func dealt(c api.Config, t api.Task, w int64, fits []int64, marks []bool) ([]api.Piece, bool) {
	var pieces []api.Piece
	left := t.C
	for i, x := range fits {
		if !marks[i] || left == 0 {
			continue
		}
		p := api.Piece{Core: i, Len: w}
		if len(pieces) > 0 {
			p.Off = pieces[len(pieces)-1].Off + w + c.Lag
			p.C = c.Move
		}
		for ; left > 0 && p.C < x; left-- {
			p.C++
		}
		pieces = append(pieces, p)
	}
	return pieces, left == 0
}

// split is Split as the chapter tells it; it also gives the number of windows that did it.
func split(c api.Config, loads [][]api.Load, t api.Task) (api.Plan, int) {
	for n := 2; n <= c.Cores && reckoned(t.D, c.Lag, n) > 0; n++ {
		w := reckoned(t.D, c.Lag, n)
		fits := tried(loads, w, t.T)
		marks, ok := chosen(fits, n, c.Move)
		if !ok {
			continue
		}
		if pieces, ok := dealt(c, t, w, fits, marks); ok && len(pieces) > 1 {
			return api.Plan{Kind: 2, Pieces: pieces}, n
		}
	}
	return api.Plan{}, 0
}

func wantSize(t *testing.T, d, lag int64, n int, want int64) {
	t.Helper()
	if got := window.Size(api.Config{Lag: lag}, api.Task{D: d}, n); got != want {
		t.Errorf("P15.1: Size of D %d, Lag %d, by %d: %d, not %d", d, lag, n, got, want)
	}
}

// wantSplit wants the plan of these pieces, or, where there are none, zero and false.
func wantSplit(t *testing.T, c api.Config, loads [][]api.Load, x api.Task, pieces ...api.Piece) {
	t.Helper()
	want := api.Plan{}
	if len(pieces) > 0 {
		want = api.Plan{Kind: 2, Pieces: pieces}
	}
	got, ok := window.Split(c, loads, x)
	if ok != (len(pieces) > 0) || !reflect.DeepEqual(got, want) {
		t.Errorf("P15.1: Split of %v on %v, %d load lists: %v, %v, not %v", x, c, len(loads), got, ok, want)
	}
}

func TestSizeByHand(t *testing.T) {
	for _, x := range []struct {
		d, lag int64
		sizes  []int64
	}{
		{20, 3, []int64{0, 20, 8, 4, 2, 1, 0, 0, 0}},
		{20, 0, []int64{0, 20, 10, 6, 5, 4, 3, 2, 2, 2, 2, 1}},
		{200, 5, []int64{0, 200, 97, 63, 46, 36, 29}},
		{1, 0, []int64{0, 1, 0, 0}},
		{2, 0, []int64{0, 2, 1, 0, 0}},
		{3, 1, []int64{0, 3, 1, 0}},
		{4, 5, []int64{0, 4, 0, 0}},
		{7, 5, []int64{0, 7, 1, 0}},
		{6, 5, []int64{0, 6, 0, 0}},
	} {
		for n, want := range x.sizes {
			wantSize(t, x.d, x.lag, n, want)
		}
	}
}

func TestSizeByNoWindows(t *testing.T) {
	for _, n := range []int{0, -1, -2, -1 << 32, low + 1, low} {
		for _, d := range []int64{low, -20, 0, 20, high} {
			for _, lag := range []int64{low, -5, 0, 5, high} {
				wantSize(t, d, lag, n, 0)
			}
		}
	}
}

// Only D, Lag and n count, whatever the rest is.
func TestSizeAsksForNothingElse(t *testing.T) {
	c := api.Config{Cores: -7, Syncs: 99, Lag: 3, Move: low, Res: []int{8}}
	x := api.Task{C: high, D: 20, T: low, Secs: make([]api.Section, 9)}
	if got := window.Size(c, x, 2); got != 8 {
		t.Errorf("P15.1: Size %d", got)
	}
}

// Numbers whose sums and products no int64 has, while what they come to is an int64.
func TestSizeOfFarNumbers(t *testing.T) {
	wantSize(t, high, 0, 1, high)
	wantSize(t, high, high, 1, high)
	wantSize(t, high, low, 1, high)
	wantSize(t, high, low, 2, high)
	wantSize(t, high, low, high, high)
	wantSize(t, high, -high, 2, high)
	wantSize(t, high, high, 2, 0)
	wantSize(t, high, high-1, 2, 0)
	wantSize(t, high, high-2, 2, 1)
	wantSize(t, high, high/2, 3, 0)
	wantSize(t, low, low, 2, 0)
	wantSize(t, low, low, 3, high/3)
	wantSize(t, low, high, 2, 0)
	wantSize(t, high, 0, high, 1)
	wantSize(t, high-1, 0, high, 0)
	wantSize(t, high, 1, high/2, 1)
	far := []int64{low, low + 1, low / 2, low/2 - 1, low / 3, -1 << 32, -200, -7, -1, 0, 1, 5, 200, 1 << 32, high / 3, high / 2, high/2 + 1, high - 1, high}
	for _, d := range far {
		for _, lag := range far {
			for _, n := range far {
				wantSize(t, d, lag, int(n), reckoned(d, lag, int(n)))
			}
		}
	}
}

func TestSizeAsItIsReckoned(t *testing.T) {
	for d := int64(-10); d <= 200; d++ {
		for lag := int64(-2); lag <= 6; lag++ {
			for n := -2; n <= 20; n++ {
				wantSize(t, d, lag, n, reckoned(d, lag, n))
			}
		}
	}
	r := rand.New(rand.NewSource(15))
	for range 20000 {
		d, lag, n := int64(r.Uint64())>>r.Intn(64), int64(r.Uint64())>>r.Intn(64), int(r.Uint64())>>r.Intn(64)
		wantSize(t, d, lag, n, reckoned(d, lag, n))
	}
}

// By hand: two windows of 10, in which 5 and 8 ticks are left.
func TestTwoWindows(t *testing.T) {
	c, loads := machine(2, 0, 0), leaving(5, 8)
	wantSplit(t, c, loads, task(13, 20, 20), piece(0, 0, 10, 5), piece(1, 10, 10, 8))
	wantSplit(t, c, loads, task(12, 20, 20), piece(0, 0, 10, 5), piece(1, 10, 10, 7))
	wantSplit(t, c, loads, task(6, 20, 20), piece(0, 0, 10, 5), piece(1, 10, 10, 1))
	wantSplit(t, c, loads, task(14, 20, 20))
	wantSplit(t, c, loads, task(5, 20, 20))
	wantSplit(t, c, loads, task(1, 20, 20))
	wantSplit(t, c, leaving(8, 5), task(12, 20, 20), piece(0, 0, 10, 8), piece(1, 10, 10, 4))
	wantSplit(t, c, leaving(20, 20), task(20, 20, 20), piece(0, 0, 10, 10), piece(1, 10, 10, 10))
	wantSplit(t, c, leaving(20, 20), task(19, 20, 20), piece(0, 0, 10, 10), piece(1, 10, 10, 9))
	wantSplit(t, c, leaving(20, 20), task(10, 20, 20))
	// Rounded down, the windows leave a tick of 21 over.
	wantSplit(t, c, leaving(20, 20), task(20, 21, 21), piece(0, 0, 10, 10), piece(1, 10, 10, 10))
	wantSplit(t, c, leaving(20, 20), task(21, 21, 21))
}

// A Lag lies between each two windows: nothing is done in it.
func TestLags(t *testing.T) {
	wantSplit(t, machine(2, 4, 0), leaving(20, 20), task(9, 20, 20), piece(0, 0, 8, 8), piece(1, 12, 8, 1))
	wantSplit(t, machine(2, 4, 0), leaving(20, 20), task(16, 20, 20), piece(0, 0, 8, 8), piece(1, 12, 8, 8))
	wantSplit(t, machine(2, 4, 0), leaving(20, 20), task(17, 20, 20))
	wantSplit(t, machine(4, 2, 0), leaving(3, 3, 3, 3), task(12, 20, 20), piece(0, 0, 3, 3), piece(1, 5, 3, 3), piece(2, 10, 3, 3), piece(3, 15, 3, 3))
	wantSplit(t, machine(3, 4, 0), leaving(4, 4, 4), task(11, 20, 20), piece(0, 0, 4, 4), piece(1, 8, 4, 4), piece(2, 16, 4, 3))
	// No size is left for windows.
	wantSplit(t, machine(2, 5, 0), leaving(20, 20), task(2, 6, 20))
	wantSplit(t, machine(2, 5, 0), leaving(20, 20), task(2, 7, 20), piece(0, 0, 1, 1), piece(1, 6, 1, 1))
	wantSplit(t, machine(3, 5, 0), leaving(20, 20, 20), task(3, 12, 20))
}

// A move is paid in each piece but the first, and only cores that leave more than a move count, as the first, too.
func TestMoves(t *testing.T) {
	c := machine(2, 0, 4)
	wantSplit(t, c, leaving(5, 6), task(6, 20, 20), piece(0, 0, 10, 5), piece(1, 10, 10, 5))
	wantSplit(t, c, leaving(5, 6), task(7, 20, 20), piece(0, 0, 10, 5), piece(1, 10, 10, 6))
	wantSplit(t, c, leaving(5, 6), task(8, 20, 20))
	wantSplit(t, c, leaving(5, 6), task(5, 20, 20))
	wantSplit(t, c, leaving(5, 5), task(6, 20, 20), piece(0, 0, 10, 5), piece(1, 10, 10, 5))
	wantSplit(t, c, leaving(9, 4), task(9, 20, 20))
	wantSplit(t, c, leaving(9, 4), task(10, 20, 20))
	wantSplit(t, c, leaving(4, 9), task(5, 20, 20))
	wantSplit(t, machine(2, 0, 5), leaving(5, 6), task(6, 20, 20))
	wantSplit(t, machine(3, 0, 1), leaving(4, 4, 4), task(10, 20, 20), piece(0, 0, 6, 4), piece(1, 6, 6, 4), piece(2, 12, 6, 4))
	wantSplit(t, machine(3, 0, 1), leaving(4, 4, 4), task(9, 20, 20), piece(0, 0, 6, 4), piece(1, 6, 6, 4), piece(2, 12, 6, 3))
	wantSplit(t, machine(3, 0, 1), leaving(4, 4, 4), task(8, 20, 20), piece(0, 0, 6, 4), piece(1, 6, 6, 4), piece(2, 12, 6, 2))
	wantSplit(t, machine(3, 0, 1), leaving(4, 4, 4), task(7, 20, 20), piece(0, 0, 10, 4), piece(1, 10, 10, 4))
	wantSplit(t, machine(3, 0, 1), leaving(4, 4, 4), task(11, 20, 20))
	// The third leaves just a move: with it there are no three.
	wantSplit(t, machine(3, 0, 1), leaving(4, 4, 1), task(8, 20, 20))
	wantSplit(t, machine(3, 0, 1), leaving(4, 4, 2), task(8, 20, 20), piece(0, 0, 6, 4), piece(1, 6, 6, 4), piece(2, 12, 6, 2))
	// All moves count that may be, and none.
	wantSplit(t, machine(2, 0, 9), leaving(20, 20), task(11, 20, 20), piece(0, 0, 10, 10), piece(1, 10, 10, 10))
	wantSplit(t, machine(2, 0, 10), leaving(20, 20), task(11, 20, 20))
	wantSplit(t, machine(2, 0, 1<<32), leaving(20, 20), task(11, 20, 20))
	wantSplit(t, machine(2, 0, high), leaving(20, 20), task(11, 20, 20))
}

// Those of most room are taken, of alike ones the lesser cores, and they are gone through by rising cores.
func TestWhichCores(t *testing.T) {
	c := machine(3, 0, 0)
	x := task(9, 20, 20)
	wantSplit(t, c, leaving(6, 6, 6), x, piece(0, 0, 10, 6), piece(1, 10, 10, 3))
	wantSplit(t, c, leaving(5, 6, 6), x, piece(1, 0, 10, 6), piece(2, 10, 10, 3))
	wantSplit(t, c, leaving(6, 5, 6), x, piece(0, 0, 10, 6), piece(2, 10, 10, 3))
	wantSplit(t, c, leaving(6, 6, 5), x, piece(0, 0, 10, 6), piece(1, 10, 10, 3))
	wantSplit(t, c, leaving(6, 5, 5), x, piece(0, 0, 10, 6), piece(1, 10, 10, 3))
	wantSplit(t, c, leaving(5, 6, 5), x, piece(0, 0, 10, 5), piece(1, 10, 10, 4))
	wantSplit(t, c, leaving(5, 5, 6), x, piece(0, 0, 10, 5), piece(2, 10, 10, 4))
	wantSplit(t, c, leaving(5, 7, 6), x, piece(1, 0, 10, 7), piece(2, 10, 10, 2))
	wantSplit(t, c, leaving(0, 7, 6), x, piece(1, 0, 10, 7), piece(2, 10, 10, 2))
	wantSplit(t, c, leaving(6, 0, 8), x, piece(0, 0, 10, 6), piece(2, 10, 10, 3))
	wantSplit(t, machine(6, 0, 0), leaving(2, 4, 4, 4, 5, 3), x, piece(1, 0, 10, 4), piece(4, 10, 10, 5))
	wantSplit(t, machine(6, 0, 0), leaving(2, 3, 4, 3, 3, 4), x, piece(1, 0, 6, 3), piece(2, 6, 6, 4), piece(5, 12, 6, 2))
	// Only what fits into the window counts: of the last two all 10 ticks, as of the first.
	wantSplit(t, c, leaving(10, 15, 20), task(11, 20, 20), piece(0, 0, 10, 10), piece(1, 10, 10, 1))
}

// Two windows do not do it, but more do, though they are shorter: it is the number of cores that counts.
func TestMoreWindows(t *testing.T) {
	wantSplit(t, machine(3, 0, 0), leaving(5, 5, 5), task(11, 20, 20), piece(0, 0, 6, 5), piece(1, 6, 6, 5), piece(2, 12, 6, 1))
	wantSplit(t, machine(3, 0, 0), leaving(5, 5, 5), task(16, 20, 20))
	wantSplit(t, machine(2, 0, 0), leaving(5, 5), task(11, 20, 20))
	wantSplit(t, machine(6, 0, 0), leaving(3, 3, 3, 3, 3, 3), task(18, 20, 20),
		piece(0, 0, 3, 3), piece(1, 3, 3, 3), piece(2, 6, 3, 3), piece(3, 9, 3, 3), piece(4, 12, 3, 3), piece(5, 15, 3, 3))
	wantSplit(t, machine(6, 0, 0), leaving(3, 3, 3, 3, 3, 3), task(13, 20, 20),
		piece(0, 0, 4, 3), piece(1, 4, 4, 3), piece(2, 8, 4, 3), piece(3, 12, 4, 3), piece(4, 16, 4, 1))
	// Of three windows of 6 the shortest leaves less than it would in one of 10.
	wantSplit(t, machine(3, 0, 0), leaving(8, 8, 8), task(17, 20, 20), piece(0, 0, 6, 6), piece(1, 6, 6, 6), piece(2, 12, 6, 5))
	wantSplit(t, machine(3, 0, 0), leaving(8, 8, 8), task(19, 20, 20))
	// Two cores are too few, at each number of windows.
	wantSplit(t, machine(3, 0, 0), leaving(5, 5, 0), task(11, 20, 20))
}

// Where one core takes all in one of two windows, three, shorter ones split it; of these two may do.
func TestOnePieceIsNoPlan(t *testing.T) {
	wantSplit(t, machine(2, 0, 0), leaving(20, 20), task(9, 20, 20))
	wantSplit(t, machine(3, 0, 0), leaving(20, 20, 20), task(9, 20, 20), piece(0, 0, 6, 6), piece(1, 6, 6, 3))
	wantSplit(t, machine(3, 0, 0), leaving(5, 20, 20), task(9, 20, 20), piece(0, 0, 6, 5), piece(1, 6, 6, 4))
	wantSplit(t, machine(3, 0, 0), leaving(0, 20, 20), task(9, 20, 20))
	wantSplit(t, machine(6, 0, 0), leaving(20, 20, 20, 20, 20, 20), task(4, 20, 20), piece(0, 0, 3, 3), piece(1, 3, 3, 1))
	wantSplit(t, machine(6, 0, 0), leaving(20, 20, 20, 20, 20, 20), task(3, 20, 20))
	wantSplit(t, machine(6, 0, 2), leaving(20, 20, 20, 20, 20, 20), task(4, 20, 20), piece(0, 0, 3, 3), piece(1, 3, 3, 3))
}

// A window's load comes once in T, and is due by its end: nearer than the task's own deadline.
func TestTheLoadOfAWindow(t *testing.T) {
	// Both leave 10 of 20 ticks, but the second one needs 8 of them up to the 9th.
	loads := [][]api.Load{{{C: 10, D: 20, T: 20}}, {{C: 8, D: 9, T: 20}, {C: 2, D: 20, T: 20}}}
	wantSplit(t, machine(2, 2, 0), loads, task(10, 20, 20), piece(0, 0, 9, 9), piece(1, 11, 9, 1))
	wantSplit(t, machine(2, 2, 0), loads, task(11, 20, 20))
	wantSplit(t, machine(2, 0, 0), loads, task(12, 20, 20), piece(0, 0, 10, 10), piece(1, 10, 10, 2))
	// T is longer than D.
	wantSplit(t, machine(2, 0, 0), leaving(10, 10), task(19, 20, 40), piece(0, 0, 10, 10), piece(1, 10, 10, 9))
	wantSplit(t, machine(2, 0, 0), leaving(10, 10), task(20, 40, 40), piece(0, 0, 20, 10), piece(1, 20, 20, 10))
	wantSplit(t, machine(2, 0, 0), leaving(10, 10), task(21, 40, 40))
	// Of each 40 ticks the loads leave 20, in which three windows have to be done.
	wantSplit(t, machine(2, 0, 0), leaving(10, 10), task(12, 16, 16), piece(0, 0, 8, 6), piece(1, 8, 8, 6))
	wantSplit(t, machine(2, 0, 0), leaving(10, 10), task(13, 16, 16))
}

func TestOneLoadListOfEachCore(t *testing.T) {
	x := task(11, 20, 20)
	for _, cores := range []int{low, -2, -1, 0, 1, 3, 4, 6, 1 << 32, 1<<32 + 2, high} {
		wantSplit(t, machine(cores, 0, 0), leaving(20, 20), x)
	}
	for _, n := range []int{0, 1, 3, 6, 7, 1 << 20} {
		wantSplit(t, machine(2, 0, 0), make([][]api.Load, n), x)
	}
	wantSplit(t, machine(0, 0, 0), nil, x)
	wantSplit(t, machine(-1, 0, 0), nil, x)
	wantSplit(t, machine(1, 0, 0), leaving(20), x)
	wantSplit(t, machine(2, 0, 0), nil, x)
	wantSplit(t, machine(2, 0, 0), make([][]api.Load, 1, 2), x)
	wantSplit(t, machine(2, 0, 0), make([][]api.Load, 2), x, piece(0, 0, 10, 10), piece(1, 10, 10, 1))
	wantSplit(t, machine(2, 0, 0), [][]api.Load{{}, make([]api.Load, 0, 30)}, x, piece(0, 0, 10, 10), piece(1, 10, 10, 1))
}

func TestTasksWithSectionsAreNotSplit(t *testing.T) {
	c := api.Config{Cores: 2, Syncs: 1, Res: []int{0}}
	x := task(11, 20, 20)
	for _, secs := range [][]api.Section{
		{{Res: 0, At: 1, Len: 1}}, {{Res: 0, At: 1, Len: 1}, {Res: 0, At: 2, Len: 1}}, {{}}, {{Res: -1, At: low, Len: high}}, make([]api.Section, 1<<20),
	} {
		x.Secs = secs
		wantSplit(t, c, leaving(20, 20), x)
	}
	for _, secs := range [][]api.Section{nil, {}, make([]api.Section, 0, 2), make([]api.Section, 2)[:0]} {
		x.Secs = secs
		wantSplit(t, c, leaving(20, 20), x, piece(0, 0, 10, 10), piece(1, 10, 10, 1))
	}
}

func TestTasksThatNoWindowsDo(t *testing.T) {
	for _, x := range []api.Task{
		{}, task(0, 20, 20), task(-1, 20, 20), task(low, 20, 20), task(21, 20, 20), task(201, 200, 200), task(1<<32+11, 20, 20), task(high, 20, 20), task(high, 200, 200),
		task(1, 1, 1), task(1, 1, 200), task(11, 0, 20), task(11, -20, 20), task(11, low, 20), task(11, 20, 0), task(11, 20, -20), task(11, 20, low),
		task(11, 20, 201), task(11, 20, 1<<32+20), task(11, 20, high), task(11, 202, 202), task(11, high, 20), task(11, 1<<32+20, 20), task(high, high, high), task(low, low, low),
		task(1, high, high), task(low, high, high),
	} {
		wantSplit(t, machine(2, 0, 0), leaving(20, 20), x)
		wantSplit(t, machine(6, 1, 1), leaving(20, 20, 20, 20, 20, 20), x)
	}
}

// A core that holds what may not be, doesn't fit, or is too much for one more, has no room.
func TestCoresWithoutRoom(t *testing.T) {
	good := api.Load{C: 1, D: 200, T: 200}
	x := task(11, 20, 20)
	for _, bad := range [][]api.Load{
		{{}}, {{C: 0, D: 1, T: 1}}, {{C: -1, D: 1, T: 1}}, {{C: -100, D: 20, T: 20}}, {{C: low, D: 1, T: 1}}, {{C: 20001, D: 20, T: 20}},
		{{C: 1, D: 0, T: 5}}, {{C: 1, D: 6, T: 5}}, {{C: 1, D: 1, T: 201}}, {{C: 1, D: 1, T: -5}}, {{C: high, D: high, T: high}},
		{good, {}}, {{}, good}, {{C: 4, D: 3, T: 4}}, {{C: 2, D: 1, T: 200}}, {{C: 1, D: 1, T: 1}}, {{C: 200, D: 200, T: 200}},
		slices.Repeat([]api.Load{good}, 24), slices.Repeat([]api.Load{good}, 25), slices.Repeat([]api.Load{good}, 1<<20),
	} {
		wantSplit(t, machine(2, 0, 0), [][]api.Load{bad, nil}, x)
		wantSplit(t, machine(2, 0, 0), [][]api.Load{nil, bad}, x)
		wantSplit(t, machine(3, 0, 0), [][]api.Load{bad, nil, nil}, x, piece(1, 0, 10, 10), piece(2, 10, 10, 1))
		wantSplit(t, machine(3, 0, 0), [][]api.Load{nil, bad, nil}, x, piece(0, 0, 10, 10), piece(2, 10, 10, 1))
	}
	// 23 may lie there.
	many := slices.Repeat([]api.Load{{C: 1, D: 200, T: 200}}, 23)
	wantSplit(t, machine(2, 0, 0), [][]api.Load{nil, many}, x, piece(0, 0, 10, 10), piece(1, 10, 10, 1))
}

// The chapter sets the machine and the task no bounds, so that they count by their numbers.
func TestBeyondTheLimits(t *testing.T) {
	seven := leaving(3, 3, 3, 3, 3, 3, 3)
	wantSplit(t, machine(7, 0, 0), seven, task(21, 21, 40),
		piece(0, 0, 3, 3), piece(1, 3, 3, 3), piece(2, 6, 3, 3), piece(3, 9, 3, 3), piece(4, 12, 3, 3), piece(5, 15, 3, 3), piece(6, 18, 3, 3))
	wantSplit(t, machine(2, 100, 0), leaving(20, 20), task(11, 120, 200), piece(0, 0, 10, 10), piece(1, 110, 10, 1))
	// Two windows are longer than T, three are not.
	wantSplit(t, machine(3, 0, 0), leaving(20, 20, 20), task(25, 30, 10), piece(0, 0, 10, 10), piece(1, 10, 10, 10), piece(2, 20, 10, 5))
	wantSplit(t, machine(2, 0, 0), leaving(20, 20), task(25, 30, 10))
	// A Lag below 0 lets windows overlap, so that they may be longer.
	wantSplit(t, machine(2, -4, 0), leaving(20, 20), task(23, 20, 20), piece(0, 0, 12, 12), piece(1, 8, 12, 11))
	// Of two there is no size, which ends it, though of three there is one.
	wantSplit(t, machine(4, -10, 0), leaving(20, 20, 20, 20), task(3, -15, 20))
	// No int64 has where the third one begins.
	wantSplit(t, machine(3, low, -3), leaving(20, 20, 20), task(6, low+2, 20))
	// A move below 0 gives, and what leaves nothing is above it.
	wantSplit(t, machine(2, 0, -3), leaving(20, 20), task(23, 20, 20), piece(0, 0, 10, 10), piece(1, 10, 10, 10))
	wantSplit(t, machine(2, 0, -3), leaving(20, 20), task(24, 20, 20))
	wantSplit(t, machine(2, 0, -3), leaving(20, 0), task(13, 20, 20), piece(0, 0, 10, 10), piece(1, 10, 10, 0))
	wantSplit(t, machine(2, 0, -3), leaving(20, 0), task(11, 20, 20), piece(0, 0, 10, 10), piece(1, 10, 10, -2))
	wantSplit(t, machine(2, 0, low), leaving(20, 20), task(11, 20, 20), piece(0, 0, 10, 10), piece(1, 10, 10, low+1))
	wantSplit(t, machine(2, 0, low), leaving(20, 20), task(high, 20, 20), piece(0, 0, 10, 10), piece(1, 10, 10, -11))
	wantSplit(t, machine(2, 0, -3), leaving(20, 20), task(3, 60, 20), piece(0, 0, 30, 0), piece(1, 30, 30, 0))
	wantSplit(t, machine(2, 0, -3), leaving(20, 20), task(high, high, high))
}

// Of many cores, too, the lesser ones of those that are alike are taken.
func TestTheLesserOfManyCores(t *testing.T) {
	free := make([]int64, 100)
	for i := range free {
		free[i] = 5 + int64(i*7%10)/9
	}
	// More than 5 ticks leave the cores 7, 17, 27 and so on.
	wantSplit(t, machine(100, 0, 0), leaving(free...), task(18, 20, 20), piece(7, 0, 6, 6), piece(17, 6, 6, 6), piece(27, 12, 6, 6))
	wantSplit(t, machine(100, 0, 0), leaving(free...), task(12, 20, 20), piece(7, 0, 10, 6), piece(17, 10, 10, 6))
	// In windows of 6 they are alike again.
	free[90], free[30] = 7, 7
	wantSplit(t, machine(100, 0, 0), leaving(free...), task(14, 20, 20), piece(30, 0, 10, 7), piece(90, 10, 10, 7))
	wantSplit(t, machine(100, 0, 0), leaving(free...), task(15, 20, 20), piece(7, 0, 6, 6), piece(17, 6, 6, 6), piece(27, 12, 6, 3))
}

// Long lists are gone through in a while, at numbers that give many sizes, or none at which anything fits.
func TestManyCores(t *testing.T) {
	const n = 1 << 14
	full := slices.Repeat([][]api.Load{{{C: 200, D: 200, T: 200}}}, n)
	wantSplit(t, machine(n, 0, 0), full, task(199, 199, 200))
	wantSplit(t, machine(n, 0, 0), full, task(11, high, high))
	wantSplit(t, machine(n, 0, 0), full, task(11, high, 200))
	wantSplit(t, machine(n, 0, 5), make([][]api.Load, n), task(high, 199, 200))
	full[7], full[n-1] = nil, nil
	wantSplit(t, machine(n, 3, 2), full, task(11, 23, 40), piece(7, 0, 10, 10), piece(n-1, 13, 10, 3))
	// All of the least windows are needed.
	pieces := make([]api.Piece, 199)
	for i := range pieces {
		pieces[i] = piece(i, int64(i), 1, 1)
	}
	wantSplit(t, machine(n, 0, 0), make([][]api.Load, n), task(199, 199, 200), pieces...)
}

// thrown gives a machine, a load list of each core, some free, some nearly full, some alike, and a task.
func thrown(r *rand.Rand) (api.Config, [][]api.Load, api.Task) {
	c := machine(1+r.Intn(6), r.Int63n(6), r.Int63n(6))
	loads := make([][]api.Load, c.Cores)
	for i := range loads {
		if i > 0 && r.Intn(4) == 0 {
			loads[i] = loads[r.Intn(i)]
			continue
		}
		n := int64(r.Intn(4))
		for range n {
			period := 1 + r.Int63n(100)
			d := max(period*(50+r.Int63n(51))/100, 1)
			loads[i] = append(loads[i], api.Load{C: 1 + r.Int63n(max(3*d/(2*n), 1)), D: d, T: period})
		}
	}
	period := 1 + r.Int63n(100)
	d := max(period*(50+r.Int63n(51))/100, 1)
	return c, loads, task(1+r.Int63n(d), d, period)
}

func TestAsItIsTried(t *testing.T) {
	r := rand.New(rand.NewSource(15))
	var by [7]int
	fewer, moved, later := 0, 0, 0
	for range 12000 {
		c, loads, x := thrown(r)
		plan, n := split(c, loads, x)
		wantSplit(t, c, loads, x, plan.Pieces...)
		by[n]++
		if n == 0 {
			continue
		}
		if len(plan.Pieces) < n {
			fewer++
		}
		if c.Move > 0 {
			moved++
		}
		if plan.Pieces[len(plan.Pieces)-1].Core >= len(plan.Pieces) {
			later++
		}
	}
	if slices.Min(append(by[2:6], by[0], fewer, moved, later)) < 50 {
		t.Errorf("P15.1: too few kinds were thrown: by windows %v, fewer pieces %d, with moves %d, of later cores %d", by, fewer, moved, later)
	}
}

// What a plan says, besides how it is found: all of the task is done, in windows that end in time, on cores on which they fit.
func TestWhatAPlanKeeps(t *testing.T) {
	r := rand.New(rand.NewSource(51))
	found := 0
	for range 6000 {
		c, loads, x := thrown(r)
		p, ok := window.Split(c, loads, x)
		if !ok {
			continue
		}
		found++
		done, from, core := c.Move, int64(0), -1
		for _, one := range p.Pieces {
			if one.Core <= core || one.Core >= c.Cores || one.Off < from || one.C < 1 || one.C > one.Len || from > 0 && one.C <= c.Move {
				t.Errorf("P15.1: Split of %v on %v: %v", x, c, p)
			}
			if !demand.Fits(slices.Concat(loads[one.Core], []api.Load{{C: one.C, D: one.Len, T: x.T}})) {
				t.Errorf("P15.1: %v doesn't fit on %v", one, loads[one.Core])
			}
			done, from, core = done+one.C-c.Move, one.Off+one.Len+c.Lag, one.Core
		}
		if done != x.C || from-c.Lag > x.D || p.Kind != api.PWindow || p.Pieces[0].Off != 0 {
			t.Errorf("P15.1: Split of %v on %v: %v", x, c, p)
		}
	}
	if found < 500 {
		t.Errorf("P15.1: only %d plans", found)
	}
}

func TestListsAreLeftAlone(t *testing.T) {
	room := []api.Load{{C: 3, D: 8, T: 10}, {C: 4, D: 20, T: 20}, {C: 7, D: 9, T: 9}, {C: -1}}
	cores := [][]api.Load{room[:1], room[1:2], {{C: 3, D: 3, T: 3}}, nil}
	res, secs := []int{0, 9}, []api.Section{{Res: 7}}
	keptRoom, keptCores := slices.Clone(room), slices.Clone(cores)
	c := api.Config{Cores: 2, Syncs: 1, Lag: 1, Move: 1, Res: res[:1]}
	x := api.Task{C: 11, D: 20, T: 20, Secs: secs[:0]}
	want := []api.Piece{piece(0, 0, 9, 6), piece(1, 10, 9, 6)}
	wantSplit(t, c, cores[:2], x, want...)
	if !slices.Equal(room, keptRoom) || !reflect.DeepEqual(cores, keptCores) || !slices.Equal(res, []int{0, 9}) || secs[0] != (api.Section{Res: 7}) {
		t.Errorf("P0.3: the lists, or their room, were changed: %v, %v, %v, %v", room, cores, res, secs)
	}
	// What was told before is not kept.
	room[0] = api.Load{C: 10, D: 10, T: 10}
	wantSplit(t, c, cores[:2], x)
	room[0] = keptRoom[0]
	wantSplit(t, c, cores[:2], x, want...)
}

func TestPlansAreTheCallersOwn(t *testing.T) {
	c, loads, x := machine(3, 0, 0), leaving(5, 5, 5), task(11, 20, 20)
	a, _ := window.Split(c, loads, x)
	b, _ := window.Split(c, loads, x)
	whole := a.Pieces[:cap(a.Pieces)]
	for i := range whole {
		whole[i] = api.Piece{Core: -1, Off: -1, Len: -1, C: -1}
	}
	want := []api.Piece{piece(0, 0, 6, 5), piece(1, 6, 6, 5), piece(2, 12, 6, 1)}
	if !slices.Equal(b.Pieces, want) {
		t.Errorf("P0.3: another answer was changed: %v", b)
	}
	wantSplit(t, c, loads, x, want...)
}
