package zero_test

import (
	"math"
	"math/big"
	"math/rand"
	"reflect"
	"slices"
	"testing"

	"hortator/api"
	"hortator/demand"
	"hortator/zero"
)

const (
	low  = math.MinInt64
	high = math.MaxInt64
)

func task(c, d, period int64) api.Task {
	return api.Task{C: c, D: d, T: period}
}

func machine(cores int, lag, move int64) api.Config {
	return api.Config{Cores: cores, Lag: lag, Move: move}
}

func piece(core int, off, length, c int64) api.Piece {
	return api.Piece{Core: core, Off: off, Len: length, C: c}
}

// leaving gives one core for each number, on which of each 20 ticks just so many are left.
func leaving(free ...int64) [][]api.Load {
	cores := make([][]api.Load, len(free))
	for i, f := range free {
		if f < 20 {
			cores[i] = []api.Load{{C: 20 - f, D: 20, T: 20}}
		}
	}
	return cores
}

// fits lays one load beside l.
func fits(l []api.Load, c, d, period int64) bool {
	return len(l) < 24 && demand.Fits(slices.Concat(l, []api.Load{{C: c, D: d, T: period}}))
}

// tight counts up how much fits without slack beside l.
func tight(l []api.Load, period, most int64) int64 {
	x := int64(0)
	for len(l) < 24 && x < most && x < period && fits(l, x+1, x+1, period) {
		x++
	}
	return x
}

// minus is a - b + c in numbers that have no end.
func minus(a, b, c int64) *big.Int {
	x := new(big.Int).Sub(big.NewInt(a), big.NewInt(b))
	return x.Add(x, big.NewInt(c))
}

// split is Split as the chapter tells it: its pieces, or nil.
func split(c api.Config, loads [][]api.Load, t api.Task) []api.Piece {
	if t.C < 2 {
		return nil
	}
	for a := range loads {
		x := tight(loads[a], t.T, t.C-1)
		r := minus(t.C, x, c.Move)
		d := minus(t.D, x, 0)
		d.Sub(d, big.NewInt(c.Lag))
		if x < 1 || r.Cmp(d) > 0 || !r.IsInt64() || !d.IsInt64() {
			continue
		}
		for b := range loads {
			if b != a && fits(loads[b], r.Int64(), d.Int64(), t.T) {
				return []api.Piece{piece(a, 0, x, x), piece(b, x+c.Lag, d.Int64(), r.Int64())}
			}
		}
	}
	return nil
}

// wantSplit wants the plan of these pieces, or, where there are none, zero and false.
func wantSplit(t *testing.T, c api.Config, loads [][]api.Load, x api.Task, pieces ...api.Piece) {
	t.Helper()
	want := api.Plan{}
	if len(pieces) > 0 {
		want = api.Plan{Kind: 3, Pieces: pieces}
	}
	got, ok := zero.Split(c, loads, x)
	if ok != (len(pieces) > 0) || !reflect.DeepEqual(got, want) {
		t.Errorf("P16.1: Split of %v on %v, %d load lists: %v, %v, not %v", x, c, len(loads), got, ok, want)
	}
}

// By hand: 8 ticks of each 20 go without slack on the first core, and what is left has from then on.
func TestTwoPieces(t *testing.T) {
	c, loads := machine(2, 0, 0), leaving(8, 10)
	wantSplit(t, c, loads, task(13, 20, 20), piece(0, 0, 8, 8), piece(1, 8, 12, 5))
	wantSplit(t, c, loads, task(18, 20, 20), piece(0, 0, 8, 8), piece(1, 8, 12, 10))
	wantSplit(t, c, loads, task(9, 20, 20), piece(0, 0, 8, 8), piece(1, 8, 12, 1))
	wantSplit(t, c, loads, task(19, 20, 20))
	wantSplit(t, c, leaving(10, 8), task(18, 20, 20), piece(0, 0, 10, 10), piece(1, 10, 10, 8))
	// Each core leaves ten ticks of twenty, which is all there is.
	wantSplit(t, c, leaving(10, 10), task(20, 20, 20), piece(0, 0, 10, 10), piece(1, 10, 10, 10))
	wantSplit(t, c, leaving(9, 10), task(20, 20, 20))
	// D is nearer than T, and what is left has to be done by it.
	wantSplit(t, c, leaving(8, 20), task(15, 15, 20), piece(0, 0, 8, 8), piece(1, 8, 7, 7))
	wantSplit(t, c, leaving(8, 20), task(16, 15, 20))
	wantSplit(t, c, leaving(8, 6), task(15, 15, 20))
	wantSplit(t, c, leaving(8, 7), task(15, 15, 20), piece(0, 0, 8, 8), piece(1, 8, 7, 7))
	// Of each 40 ticks each core leaves 20, but of 20 on end no more than 10.
	wantSplit(t, c, leaving(10, 10), task(30, 40, 40), piece(0, 0, 10, 10), piece(1, 10, 30, 20))
	wantSplit(t, c, leaving(10, 10), task(31, 40, 40))
}

// A tick at least is left for the second piece: the first one takes all but one at most.
func TestAllButOneTick(t *testing.T) {
	c := machine(2, 0, 0)
	wantSplit(t, c, leaving(20, 20), task(12, 20, 20), piece(0, 0, 11, 11), piece(1, 11, 9, 1))
	wantSplit(t, c, leaving(20, 20), task(20, 20, 20), piece(0, 0, 19, 19), piece(1, 19, 1, 1))
	wantSplit(t, c, leaving(20, 1), task(20, 20, 20), piece(0, 0, 19, 19), piece(1, 19, 1, 1))
	wantSplit(t, c, leaving(20, 0), task(20, 20, 20))
	wantSplit(t, c, leaving(8, 1), task(9, 20, 20), piece(0, 0, 8, 8), piece(1, 8, 12, 1))
	wantSplit(t, c, leaving(8, 1), task(8, 20, 20), piece(0, 0, 7, 7), piece(1, 7, 13, 1))
	wantSplit(t, c, leaving(8, 1), task(2, 20, 20), piece(0, 0, 1, 1), piece(1, 1, 19, 1))
	wantSplit(t, c, leaving(1, 1), task(2, 20, 20), piece(0, 0, 1, 1), piece(1, 1, 19, 1))
	wantSplit(t, c, leaving(20, 20), task(2, 2, 20), piece(0, 0, 1, 1), piece(1, 1, 1, 1))
	wantSplit(t, c, leaving(20, 20), task(200, 200, 200), piece(0, 0, 199, 199), piece(1, 199, 1, 1))
	// Of one tick there are no two pieces.
	wantSplit(t, c, leaving(20, 20), task(1, 20, 20))
	wantSplit(t, machine(2, 0, 1), leaving(20, 20), task(1, 20, 20))
}

// Between the pieces lies a Lag: the second one begins behind it, and has less time.
func TestLags(t *testing.T) {
	wantSplit(t, machine(2, 2, 0), leaving(8, 10), task(13, 20, 20), piece(0, 0, 8, 8), piece(1, 10, 10, 5))
	wantSplit(t, machine(2, 5, 0), leaving(8, 10), task(13, 20, 20), piece(0, 0, 8, 8), piece(1, 13, 7, 5))
	wantSplit(t, machine(2, 5, 0), leaving(8, 20), task(15, 20, 20), piece(0, 0, 8, 8), piece(1, 13, 7, 7))
	wantSplit(t, machine(2, 5, 0), leaving(8, 20), task(16, 20, 20))
	wantSplit(t, machine(2, 5, 0), leaving(20, 20), task(15, 20, 20), piece(0, 0, 14, 14), piece(1, 19, 1, 1))
	wantSplit(t, machine(2, 5, 0), leaving(20, 20), task(2, 7, 20), piece(0, 0, 1, 1), piece(1, 6, 1, 1))
	wantSplit(t, machine(2, 5, 0), leaving(20, 20), task(2, 6, 20))
	wantSplit(t, machine(2, 19, 0), leaving(20, 20), task(2, 20, 20))
	wantSplit(t, machine(2, 18, 0), leaving(20, 20), task(2, 20, 20), piece(0, 0, 1, 1), piece(1, 19, 1, 1))
}

// The second piece has a move to do besides, the first one has none.
func TestMoves(t *testing.T) {
	wantSplit(t, machine(2, 0, 4), leaving(8, 10), task(13, 20, 20), piece(0, 0, 8, 8), piece(1, 8, 12, 9))
	wantSplit(t, machine(2, 0, 5), leaving(8, 10), task(13, 20, 20), piece(0, 0, 8, 8), piece(1, 8, 12, 10))
	wantSplit(t, machine(2, 0, 6), leaving(8, 10), task(13, 20, 20))
	wantSplit(t, machine(2, 0, 7), leaving(8, 20), task(13, 20, 20), piece(0, 0, 8, 8), piece(1, 8, 12, 12))
	wantSplit(t, machine(2, 0, 8), leaving(8, 20), task(13, 20, 20))
	wantSplit(t, machine(2, 2, 5), leaving(8, 20), task(13, 20, 20), piece(0, 0, 8, 8), piece(1, 10, 10, 10))
	wantSplit(t, machine(2, 3, 5), leaving(8, 20), task(13, 20, 20))
	wantSplit(t, machine(2, 2, 6), leaving(8, 20), task(13, 20, 20))
	// The first piece may be shorter than a move, and the task, too.
	wantSplit(t, machine(2, 0, 5), leaving(1, 20), task(4, 20, 20), piece(0, 0, 1, 1), piece(1, 1, 19, 8))
	wantSplit(t, machine(2, 0, 5), leaving(20, 6), task(2, 20, 20), piece(0, 0, 1, 1), piece(1, 1, 19, 6))
	wantSplit(t, machine(2, 0, 5), leaving(20, 5), task(2, 20, 20), piece(1, 0, 1, 1), piece(0, 1, 19, 6))
	wantSplit(t, machine(2, 0, 5), leaving(5, 5), task(2, 20, 20))
}

// The first core, rising, from which it goes, and of it the first other one.
func TestWhichCores(t *testing.T) {
	c, x := machine(3, 0, 0), task(13, 20, 20)
	wantSplit(t, c, leaving(8, 8, 8), x, piece(0, 0, 8, 8), piece(1, 8, 12, 5))
	wantSplit(t, c, leaving(8, 4, 8), x, piece(0, 0, 8, 8), piece(2, 8, 12, 5))
	wantSplit(t, c, leaving(8, 4, 20), x, piece(0, 0, 8, 8), piece(2, 8, 12, 5))
	wantSplit(t, c, leaving(8, 5, 20), x, piece(0, 0, 8, 8), piece(1, 8, 12, 5))
	wantSplit(t, c, leaving(0, 8, 8), x, piece(1, 0, 8, 8), piece(2, 8, 12, 5))
	wantSplit(t, c, leaving(8, 0, 0), x)
	wantSplit(t, c, leaving(0, 8, 0), x)
	wantSplit(t, c, leaving(0, 0, 8), x)
	wantSplit(t, c, leaving(0, 0, 0), x)
	// The lesser core comes first though the other one would leave a shorter rest.
	wantSplit(t, c, leaving(1, 12, 20), x, piece(0, 0, 1, 1), piece(1, 1, 19, 12))
	wantSplit(t, c, leaving(1, 11, 20), x, piece(0, 0, 1, 1), piece(2, 1, 19, 12))
	// From the first nothing goes, so that it takes the rest of another one.
	near := []api.Load{{C: 7, D: 7, T: 20}}
	wantSplit(t, c, [][]api.Load{near, leaving(8)[0], leaving(0)[0]}, x, piece(1, 0, 8, 8), piece(0, 8, 12, 5))
	wantSplit(t, c, [][]api.Load{near, leaving(0)[0], leaving(8)[0]}, x, piece(2, 0, 8, 8), piece(0, 8, 12, 5))
	wantSplit(t, c, [][]api.Load{leaving(0)[0], near, leaving(8)[0]}, x, piece(2, 0, 8, 8), piece(1, 8, 12, 5))
	wantSplit(t, c, [][]api.Load{near, near, leaving(8)[0]}, x, piece(2, 0, 8, 8), piece(0, 8, 12, 5))
	wantSplit(t, c, [][]api.Load{near, leaving(8)[0], leaving(8)[0]}, x, piece(1, 0, 8, 8), piece(0, 8, 12, 5))
	wantSplit(t, machine(2, 0, 0), [][]api.Load{near, near}, x)
	wantSplit(t, machine(6, 0, 0), leaving(0, 0, 0, 3, 0, 10), x, piece(3, 0, 3, 3), piece(5, 3, 17, 10))
	wantSplit(t, machine(6, 0, 0), leaving(0, 0, 0, 3, 0, 9), x)
	wantSplit(t, machine(6, 0, 0), leaving(0, 0, 0, 9, 0, 4), x, piece(3, 0, 9, 9), piece(5, 9, 11, 4))
}

// The second piece lies on another core, also where the first one's own is the only one that takes it.
func TestEachPieceHasItsCore(t *testing.T) {
	// On both go 4 ticks without slack, but only the one of the near load has room for the 6 behind them.
	near, full := []api.Load{{C: 4, D: 8, T: 20}}, []api.Load{{C: 16, D: 20, T: 20}}
	x := task(10, 20, 20)
	wantSplit(t, machine(2, 0, 0), [][]api.Load{near, full}, x, piece(1, 0, 4, 4), piece(0, 4, 16, 6))
	wantSplit(t, machine(2, 0, 0), [][]api.Load{full, near}, x, piece(0, 0, 4, 4), piece(1, 4, 16, 6))
	wantSplit(t, machine(3, 0, 0), [][]api.Load{near, full, full}, x, piece(1, 0, 4, 4), piece(0, 4, 16, 6))
	wantSplit(t, machine(3, 0, 0), [][]api.Load{near, full, near}, x, piece(0, 0, 4, 4), piece(2, 4, 16, 6))
	wantSplit(t, machine(3, 0, 0), [][]api.Load{full, near, near}, x, piece(0, 0, 4, 4), piece(1, 4, 16, 6))
	wantSplit(t, machine(2, 0, 0), [][]api.Load{full, full}, x)
	wantSplit(t, machine(1, 0, 0), [][]api.Load{near}, x)
	wantSplit(t, machine(1, 0, 0), [][]api.Load{nil}, x)
	// What is left differs from core to core.
	wantSplit(t, machine(3, 0, 0), leaving(4, 5, 0), task(9, 20, 20), piece(0, 0, 4, 4), piece(1, 4, 16, 5))
	wantSplit(t, machine(3, 0, 0), leaving(5, 4, 0), task(9, 20, 20), piece(0, 0, 5, 5), piece(1, 5, 15, 4))
	wantSplit(t, machine(4, 0, 0), [][]api.Load{near, full, leaving(3)[0], full}, task(12, 20, 20), piece(1, 0, 4, 4), piece(0, 4, 16, 8))
	wantSplit(t, machine(3, 0, 0), [][]api.Load{near, full, leaving(7)[0]}, task(11, 20, 20), piece(0, 0, 4, 4), piece(2, 4, 16, 7))
	wantSplit(t, machine(3, 0, 0), [][]api.Load{near, full, leaving(7)[0]}, task(12, 20, 20), piece(1, 0, 4, 4), piece(0, 4, 16, 8))
}

// The load of the first piece is due when it could be done first, that of the second by D, each once in T.
func TestTheLoadsOfThePieces(t *testing.T) {
	c := machine(2, 0, 0)
	// Both cores leave 10 of each 20 ticks, but the first one only 2 of the first 8.
	loads := [][]api.Load{{{C: 6, D: 8, T: 20}, {C: 4, D: 20, T: 20}}, leaving(10)[0]}
	wantSplit(t, c, loads, task(12, 20, 20), piece(0, 0, 2, 2), piece(1, 2, 18, 10))
	wantSplit(t, c, loads, task(13, 20, 20), piece(1, 0, 10, 10), piece(0, 10, 10, 3))
	// The second has to be done within 10 of 20, of which the first core then leaves 4.
	wantSplit(t, c, loads, task(14, 20, 20), piece(1, 0, 10, 10), piece(0, 10, 10, 4))
	wantSplit(t, c, loads, task(15, 20, 20))
	// A shorter load that comes often leaves no more than a tick without slack, a long T more in all.
	often := []api.Load{{C: 1, D: 2, T: 2}}
	wantSplit(t, c, [][]api.Load{often, nil}, task(10, 20, 20), piece(0, 0, 1, 1), piece(1, 1, 19, 9))
	wantSplit(t, c, [][]api.Load{nil, often}, task(28, 60, 60), piece(0, 0, 27, 27), piece(1, 27, 33, 1))
	wantSplit(t, c, [][]api.Load{leaving(10)[0], often}, task(20, 60, 60), piece(0, 0, 10, 10), piece(1, 10, 50, 10))
	wantSplit(t, c, [][]api.Load{leaving(10)[0], often}, task(35, 60, 60), piece(0, 0, 10, 10), piece(1, 10, 50, 25))
	wantSplit(t, c, [][]api.Load{leaving(10)[0], often}, task(36, 60, 60))
}

func TestOneLoadListOfEachCore(t *testing.T) {
	x := task(12, 20, 20)
	for _, cores := range []int{low, -2, -1, 0, 1, 3, 4, 6, 1 << 32, 1<<32 + 2, high} {
		wantSplit(t, machine(cores, 0, 0), leaving(20, 20), x)
	}
	for _, n := range []int{0, 1, 3, 6, 7, 1 << 20} {
		wantSplit(t, machine(2, 0, 0), make([][]api.Load, n), x)
	}
	wantSplit(t, machine(0, 0, 0), nil, x)
	wantSplit(t, machine(0, 0, 0), [][]api.Load{}, x)
	wantSplit(t, machine(-1, 0, 0), nil, x)
	wantSplit(t, machine(2, 0, 0), nil, x)
	wantSplit(t, machine(2, 0, 0), make([][]api.Load, 1, 2), x)
	wantSplit(t, machine(2, 0, 0), make([][]api.Load, 2), x, piece(0, 0, 11, 11), piece(1, 11, 9, 1))
	wantSplit(t, machine(2, 0, 0), [][]api.Load{{}, make([]api.Load, 0, 30)}, x, piece(0, 0, 11, 11), piece(1, 11, 9, 1))
}

func TestTasksWithSectionsAreNotSplit(t *testing.T) {
	c := api.Config{Cores: 2, Syncs: 1, Res: []int{0}}
	x := task(12, 20, 20)
	for _, secs := range [][]api.Section{
		{{Res: 0, At: 1, Len: 1}}, {{Res: 0, At: 1, Len: 1}, {Res: 0, At: 2, Len: 1}}, {{}}, {{Res: -1, At: low, Len: high}}, make([]api.Section, 1<<20),
	} {
		x.Secs = secs
		wantSplit(t, c, leaving(20, 20), x)
	}
	for _, secs := range [][]api.Section{nil, {}, make([]api.Section, 0, 2), make([]api.Section, 2)[:0]} {
		x.Secs = secs
		wantSplit(t, c, leaving(20, 20), x, piece(0, 0, 11, 11), piece(1, 11, 9, 1))
	}
}

func TestTasksThatAreNotSplit(t *testing.T) {
	for _, x := range []api.Task{
		{}, task(1, 20, 20), task(0, 20, 20), task(-1, 20, 20), task(low, 20, 20), task(low+1, 20, 20), task(21, 20, 20), task(201, 200, 200), task(1<<32+12, 20, 20), task(high, 20, 20), task(high, 200, 200),
		task(1, 1, 1), task(2, 1, 1), task(2, 1, 200), task(12, 0, 20), task(12, -20, 20), task(12, low, 20), task(12, 20, 0), task(12, 20, -20), task(12, 20, low), task(12, low, low),
		task(12, 20, 201), task(12, 20, 1<<32+20), task(12, 20, high), task(12, 202, 202), task(12, high, 20), task(12, 1<<32+20, 20), task(12, 33, 20), task(high, high, high), task(low, low, low),
		task(1, high, high), task(low, high, high), task(high, high, 20), task(high, high, 200), task(low, high, 20),
	} {
		wantSplit(t, machine(2, 0, 0), leaving(20, 20), x)
		wantSplit(t, machine(6, 1, 1), leaving(20, 20, 20, 20, 20, 20), x)
	}
}

// On a core that holds what may not be, doesn't fit, or is too much for one more, no piece lies.
func TestCoresWithoutRoom(t *testing.T) {
	good := api.Load{C: 1, D: 200, T: 200}
	x := task(12, 20, 20)
	for _, bad := range [][]api.Load{
		{{}}, {{C: 0, D: 1, T: 1}}, {{C: -1, D: 1, T: 1}}, {{C: -100, D: 20, T: 20}}, {{C: low, D: 1, T: 1}}, {{C: 20001, D: 20, T: 20}},
		{{C: 1, D: 0, T: 5}}, {{C: 1, D: 6, T: 5}}, {{C: 1, D: 1, T: 201}}, {{C: 1, D: 1, T: -5}}, {{C: high, D: high, T: high}},
		{good, {}}, {{}, good}, {{C: 4, D: 3, T: 4}}, {{C: 2, D: 1, T: 200}}, {{C: 1, D: 1, T: 1}}, {{C: 200, D: 200, T: 200}},
		slices.Repeat([]api.Load{good}, 24), slices.Repeat([]api.Load{good}, 25), slices.Repeat([]api.Load{good}, 1<<20),
	} {
		wantSplit(t, machine(2, 0, 0), [][]api.Load{bad, nil}, x)
		wantSplit(t, machine(2, 0, 0), [][]api.Load{nil, bad}, x)
		wantSplit(t, machine(3, 0, 0), [][]api.Load{bad, nil, nil}, x, piece(1, 0, 11, 11), piece(2, 11, 9, 1))
		wantSplit(t, machine(3, 0, 0), [][]api.Load{nil, bad, nil}, x, piece(0, 0, 11, 11), piece(2, 11, 9, 1))
	}
	// 23 may lie there, for either piece.
	many := slices.Repeat([]api.Load{good}, 23)
	wantSplit(t, machine(2, 0, 0), [][]api.Load{nil, many}, x, piece(0, 0, 11, 11), piece(1, 11, 9, 1))
	wantSplit(t, machine(2, 0, 0), [][]api.Load{many, nil}, x, piece(0, 0, 11, 11), piece(1, 11, 9, 1))
}

// The chapter sets the machine and the task no bounds, so that they count by their numbers.
func TestBeyondTheLimits(t *testing.T) {
	wantSplit(t, machine(7, 0, 0), leaving(0, 0, 0, 0, 0, 8, 10), task(13, 20, 20), piece(5, 0, 8, 8), piece(6, 8, 12, 5))
	wantSplit(t, machine(2, 100, 0), leaving(8, 20), task(13, 120, 20), piece(0, 0, 8, 8), piece(1, 108, 12, 5))
	// The first piece is T long at most, and the second has no more time than T.
	wantSplit(t, machine(2, 0, 0), leaving(20, 20), task(25, 40, 20), piece(0, 0, 20, 20), piece(1, 20, 20, 5))
	wantSplit(t, machine(2, 0, 0), leaving(20, 20), task(40, 40, 20), piece(0, 0, 20, 20), piece(1, 20, 20, 20))
	wantSplit(t, machine(2, 0, 0), leaving(20, 20), task(25, 41, 20))
	wantSplit(t, machine(2, 1, 1), leaving(20, 20), task(12, 32, 20), piece(0, 0, 11, 11), piece(1, 12, 20, 2))
	wantSplit(t, machine(2, 0, 0), make([][]api.Load, 2), task(300, 400, 200), piece(0, 0, 200, 200), piece(1, 200, 200, 100))
	// A Lag below 0 lets the second begin ahead of the first one's end, or of the release.
	wantSplit(t, machine(2, -4, 0), leaving(8, 20), task(13, 16, 20), piece(0, 0, 8, 8), piece(1, 4, 12, 5))
	wantSplit(t, machine(2, -12, 0), leaving(8, 20), task(13, 16, 20), piece(0, 0, 8, 8), piece(1, -4, 20, 5))
	wantSplit(t, machine(2, -13, 0), leaving(8, 20), task(13, 16, 20), piece(1, 0, 12, 12), piece(0, -1, 17, 1))
	wantSplit(t, machine(2, -30, 0), leaving(8, 20), task(13, -10, 20), piece(0, 0, 8, 8), piece(1, -22, 12, 5))
	// A Move below 0 gives, but a tick has to be left.
	wantSplit(t, machine(2, 0, -4), leaving(8, 20), task(13, 20, 20), piece(0, 0, 8, 8), piece(1, 8, 12, 1))
	wantSplit(t, machine(2, 0, -5), leaving(8, 20), task(13, 20, 20))
	wantSplit(t, machine(2, 0, -6), leaving(8, 20), task(13, 20, 20))
	wantSplit(t, machine(2, 0, -1), leaving(20, 20), task(13, 20, 20))
}

// Numbers whose sums no int64 has on the way, while what they come to is an int64.
func TestFarNumbers(t *testing.T) {
	free := make([][]api.Load, 2)
	wantSplit(t, machine(2, low, 0), free, task(6, low+15, 20), piece(0, 0, 5, 5), piece(1, low+5, 10, 1))
	wantSplit(t, machine(2, low+1, 0), free, task(6, low+16, 20), piece(0, 0, 5, 5), piece(1, low+6, 10, 1))
	wantSplit(t, machine(2, high-20, 0), free, task(10, high, 20), piece(0, 0, 9, 9), piece(1, high-11, 11, 1))
	wantSplit(t, machine(2, high-40, 0), free, task(10, high, 20))
	wantSplit(t, machine(2, 0, 30-high), free, task(high, 40, 20), piece(0, 0, 20, 20), piece(1, 20, 20, 10))
	wantSplit(t, machine(2, 0, 20-high), free, task(high, 40, 20))
	wantSplit(t, machine(2, high, 0), free, task(10, high, 20))
	far := []int64{low, low + 1, low + 5, low + 15, low + 20, low + 40, low / 2, -1 << 32, -20, -1, 0, 1, 2, 10, 20, 40, 1 << 32, high / 2, high - 40, high - 20, high - 15, high - 5, high - 1, high}
	found := 0
	for _, lag := range far {
		for _, move := range far {
			for _, c := range far {
				for _, d := range far {
					m, x := machine(2, lag, move), task(c, d, 20)
					pieces := split(m, free, x)
					wantSplit(t, m, free, x, pieces...)
					found += len(pieces) / 2
				}
			}
		}
	}
	if found < 200 {
		t.Errorf("P16.1: only %d plans of far numbers", found)
	}
}

// Long lists are gone through in a while, also where each core leaves something, for which there is no room.
func TestManyCores(t *testing.T) {
	const n = 1 << 14
	loads := slices.Repeat(leaving(4), n)
	wantSplit(t, machine(n, 0, 0), loads, task(13, 20, 20))
	wantSplit(t, machine(n, 0, 0), loads, task(high, 20, 20))
	wantSplit(t, machine(n, 0, 0), slices.Repeat(leaving(0), n), task(13, 20, 20))
	wantSplit(t, machine(n, 0, 0), make([][]api.Load, n), task(200, 199, 200))
	loads[n-1] = nil
	wantSplit(t, machine(n, 3, 2), loads, task(13, 20, 20), piece(0, 0, 4, 4), piece(n-1, 7, 13, 11))
	// The last one but one leaves so much that there is room for the rest on the first one.
	loads[n-1], loads[n-2] = loads[0], leaving(9)[0]
	wantSplit(t, machine(n, 0, 0), loads, task(13, 20, 20), piece(0, 0, 4, 4), piece(n-2, 4, 16, 9))
	loads[n-2] = leaving(8)[0]
	wantSplit(t, machine(n, 0, 0), loads, task(12, 20, 20), piece(0, 0, 4, 4), piece(n-2, 4, 16, 8))
	wantSplit(t, machine(n, 0, 0), loads, task(13, 20, 20))
	loads[n-2] = []api.Load{{C: 4, D: 8, T: 20}}
	wantSplit(t, machine(n, 0, 0), loads[:n-1], task(13, 20, 20))
	wantSplit(t, machine(n-1, 0, 0), loads[:n-1], task(13, 20, 20), piece(0, 0, 4, 4), piece(n-2, 4, 16, 9))
	// Only the first one takes what the others leave over.
	loads[0], loads[n-2] = loads[n-2], loads[0]
	wantSplit(t, machine(n, 0, 0), loads, task(13, 20, 20), piece(1, 0, 4, 4), piece(0, 4, 16, 9))
}

// thrown gives a machine, a load list of each core, some free, some nearly full, some alike, and a task.
func thrown(r *rand.Rand) (api.Config, [][]api.Load, api.Task) {
	c := machine(1+r.Intn(6), r.Int63n(6), r.Int63n(6))
	loads := make([][]api.Load, c.Cores)
	for i := range loads {
		if i > 0 && r.Intn(4) == 0 {
			loads[i] = loads[r.Intn(i)]
			continue
		}
		n := int64(r.Intn(4))
		for range n {
			period := 1 + r.Int63n(100)
			d := max(period*(50+r.Int63n(51))/100, 1)
			loads[i] = append(loads[i], api.Load{C: 1 + r.Int63n(max(2*d/n, 1)), D: d, T: period})
		}
	}
	period := 1 + r.Int63n(100)
	d := max(period*(50+r.Int63n(51))/100, 1)
	return c, loads, task(1+r.Int63n(d), d, period)
}

func TestAsItIsTried(t *testing.T) {
	r := rand.New(rand.NewSource(16))
	nothing, next, skipped, back, later, capped := 0, 0, 0, 0, 0, 0
	for range 12000 {
		c, loads, x := thrown(r)
		pieces := split(c, loads, x)
		wantSplit(t, c, loads, x, pieces...)
		if len(pieces) == 0 {
			nothing++
			continue
		}
		a, b := pieces[0], pieces[1]
		switch {
		case b.Core < a.Core:
			back++
		case b.Core == a.Core+1:
			next++
		default:
			skipped++
		}
		if a.Core > 0 && tight(loads[0], x.T, x.C-1) > 0 {
			later++
		}
		if a.C == x.C-1 {
			capped++
		}
	}
	if min(nothing, next, skipped, back, later, capped) < 50 {
		t.Errorf("P16.1: too few kinds were thrown: none %d, the next core %d, a later one %d, a lesser one %d, not of the first that leaves something %d, all but a tick %d", nothing, next, skipped, back, later, capped)
	}
}

// What a plan says, besides how it is found: all of the task is done, the first piece without slack, the second in time, on two cores on which they fit.
func TestWhatAPlanKeeps(t *testing.T) {
	r := rand.New(rand.NewSource(61))
	found := 0
	for range 6000 {
		c, loads, x := thrown(r)
		p, ok := zero.Split(c, loads, x)
		if !ok {
			continue
		}
		found++
		if p.Kind != api.PZero || len(p.Pieces) != 2 {
			t.Fatalf("P16.1: Split of %v on %v: %v", x, c, p)
		}
		a, b := p.Pieces[0], p.Pieces[1]
		if a.Core == b.Core || min(a.Core, b.Core) < 0 || max(a.Core, b.Core) >= c.Cores {
			t.Fatalf("P16.1: Split of %v on %v: %v", x, c, p)
		}
		if a.Off != 0 || a.C < 1 || a.Len != a.C || b.Off != a.Len+c.Lag || b.Off+b.Len != x.D || b.C <= c.Move || b.C > b.Len || a.C+b.C != x.C+c.Move {
			t.Errorf("P16.1: Split of %v on %v: %v", x, c, p)
		}
		if !fits(loads[a.Core], a.C, a.Len, x.T) || !fits(loads[b.Core], b.C, b.Len, x.T) {
			t.Errorf("P16.1: %v doesn't fit on %v, %v", p, loads[a.Core], loads[b.Core])
		}
	}
	if found < 500 {
		t.Errorf("P16.1: only %d plans", found)
	}
}

func TestListsAreLeftAlone(t *testing.T) {
	room := []api.Load{{C: 3, D: 8, T: 10}, {C: 4, D: 20, T: 20}, {C: 7, D: 9, T: 9}, {C: -1}}
	cores := [][]api.Load{room[:1], room[1:2], {{C: 3, D: 3, T: 3}}, nil}
	res, secs := []int{0, 9}, []api.Section{{Res: 7}}
	keptRoom, keptCores := slices.Clone(room), slices.Clone(cores)
	c := api.Config{Cores: 2, Syncs: 1, Lag: 1, Move: 1, Res: res[:1]}
	x := api.Task{C: 14, D: 20, T: 20, Secs: secs[:0]}
	want := []api.Piece{piece(0, 0, 5, 5), piece(1, 6, 14, 10)}
	wantSplit(t, c, cores[:2], x, want...)
	if !slices.Equal(room, keptRoom) || !reflect.DeepEqual(cores, keptCores) || !slices.Equal(res, []int{0, 9}) || secs[0] != (api.Section{Res: 7}) {
		t.Errorf("P0.3: the lists, or their room, were changed: %v, %v, %v, %v", room, cores, res, secs)
	}
	// What was told before is not kept.
	room[0] = api.Load{C: 10, D: 10, T: 10}
	wantSplit(t, c, cores[:2], x)
	room[0] = keptRoom[0]
	wantSplit(t, c, cores[:2], x, want...)
}

func TestPlansAreTheCallersOwn(t *testing.T) {
	c, loads, x := machine(2, 2, 1), leaving(8, 10), task(13, 20, 20)
	a, _ := zero.Split(c, loads, x)
	b, _ := zero.Split(c, loads, x)
	whole := a.Pieces[:cap(a.Pieces)]
	for i := range whole {
		whole[i] = api.Piece{Core: -1, Off: -1, Len: -1, C: -1}
	}
	want := []api.Piece{piece(0, 0, 8, 8), piece(1, 10, 10, 6)}
	if !slices.Equal(b.Pieces, want) {
		t.Errorf("P0.3: another answer was changed: %v", b)
	}
	wantSplit(t, c, loads, x, want...)
}
