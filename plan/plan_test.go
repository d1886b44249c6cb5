package plan_test

import (
	"math"
	"math/big"
	"math/rand"
	"slices"
	"testing"

	"hortator/api"
	"hortator/plan"
	"hortator/whole"
	"hortator/window"
	"hortator/zero"
)

const (
	low  = math.MinInt64
	high = math.MaxInt64
)

// far are numbers that run over where they are added to, and those that look small when they are cut to 32 bits.
var far = []int64{low, low + 1, -1 << 32, -1, 1 << 32, 1<<32 + 1, 1 << 62, high - 1, high}

func machine(cores int, lag, move int64) api.Config {
	return api.Config{Cores: cores, Lag: lag, Move: move}
}

func task(c, d, period int64) api.Task {
	return api.Task{C: c, D: d, T: period}
}

func piece(core int, off, length, c int64) api.Piece {
	return api.Piece{Core: core, Off: off, Len: length, C: c}
}

func of(kind int, pieces ...api.Piece) api.Plan {
	return api.Plan{Kind: kind, Pieces: pieces}
}

// wantMay wants May to answer so.
func wantMay(t *testing.T, c api.Config, x api.Task, p api.Plan, want bool) {
	t.Helper()
	if got := plan.May(c, x, p); got != want {
		t.Errorf("P17.1: May(%+v, %+v, %+v) = %v", c, x, p, got)
	}
}

// here is a machine, and a task on it that may be done by each of the three plans behind it.
func here() (api.Config, api.Task) {
	return machine(4, 2, 1), task(10, 40, 50)
}

func wholePlan() api.Plan {
	return of(api.PWhole, piece(3, 0, 40, 10))
}

// windowPlan leaves room on all sides, so that each number alone may be more and less.
func windowPlan() api.Plan {
	return of(api.PWindow, piece(2, 0, 6, 4), piece(0, 10, 7, 5), piece(1, 20, 8, 3))
}

func zeroPlan() api.Plan {
	return of(api.PZero, piece(1, 0, 6, 6), piece(0, 10, 12, 5))
}

func TestMayOrdinaryPlans(t *testing.T) {
	c, x := here()
	for _, p := range []api.Plan{wholePlan(), windowPlan(), zeroPlan()} {
		wantMay(t, c, x, p, true)
	}
}

func TestMayKindIsOneOfThree(t *testing.T) {
	c, x := here()
	for _, p := range []api.Plan{wholePlan(), windowPlan(), zeroPlan(), of(api.PWindow, zeroPlan().Pieces...)} {
		for _, kind := range append([]int64{0, 1, 2, 3, 4, 5, 1<<32 + 1, 1<<32 + 2, 1<<32 + 3}, far...) {
			want := kind == int64(p.Kind)
			// What is without slack is in windows, too.
			if p.Pieces[0] == zeroPlan().Pieces[0] {
				want = kind == api.PWindow || kind == api.PZero
			}
			wantMay(t, c, x, of(int(kind), p.Pieces...), want)
		}
	}
}

// eachNumber changes one number of one piece of p to many and wants May to say of which it may be so.
func eachNumber(t *testing.T, p api.Plan, at int, field func(p *api.Piece) *int64, first, last int64) {
	t.Helper()
	c, x := here()
	all := slices.Clone(far)
	for v := int64(-2); v <= 210; v++ {
		all = append(all, v)
	}
	for _, v := range all {
		changed := of(p.Kind, slices.Clone(p.Pieces)...)
		*field(&changed.Pieces[at]) = v
		wantMay(t, c, x, changed, first <= v && v <= last)
	}
}

func offOf(p *api.Piece) *int64 { return &p.Off }
func lenOf(p *api.Piece) *int64 { return &p.Len }
func cOf(p *api.Piece) *int64   { return &p.C }

func TestMayEachNumberOfAWholePlan(t *testing.T) {
	eachNumber(t, wholePlan(), 0, offOf, 0, 0)
	eachNumber(t, wholePlan(), 0, lenOf, 40, 40)
	eachNumber(t, wholePlan(), 0, cOf, 10, 10)
}

func TestMayEachNumberOfAWindowPlan(t *testing.T) {
	eachNumber(t, windowPlan(), 0, offOf, 0, 0)
	eachNumber(t, windowPlan(), 0, lenOf, 4, 8)
	eachNumber(t, windowPlan(), 0, cOf, 4, 4)
	eachNumber(t, windowPlan(), 1, offOf, 8, 11)
	eachNumber(t, windowPlan(), 1, lenOf, 5, 8)
	eachNumber(t, windowPlan(), 1, cOf, 5, 5)
	eachNumber(t, windowPlan(), 2, offOf, 19, 32)
	eachNumber(t, windowPlan(), 2, lenOf, 3, 20)
	eachNumber(t, windowPlan(), 2, cOf, 3, 3)
}

func TestMayEachNumberOfAPlanWithoutSlack(t *testing.T) {
	eachNumber(t, zeroPlan(), 0, offOf, 0, 0)
	eachNumber(t, zeroPlan(), 0, lenOf, 6, 6)
	eachNumber(t, zeroPlan(), 0, cOf, 6, 6)
	eachNumber(t, zeroPlan(), 1, offOf, 8, 28)
	eachNumber(t, zeroPlan(), 1, lenOf, 5, 30)
	eachNumber(t, zeroPlan(), 1, cOf, 5, 5)
}

func TestMayEachPieceIsOnACoreOfItsOwn(t *testing.T) {
	c, x := here()
	for _, p := range []api.Plan{wholePlan(), windowPlan(), zeroPlan()} {
		for at := range p.Pieces {
			others := map[int]int{}
			for i, y := range p.Pieces {
				if i != at {
					others[y.Core]++
				}
			}
			for _, core := range append([]int64{0, 1, 2, 3, 4, 5, 6, 1<<32 + 3}, far...) {
				changed := of(p.Kind, slices.Clone(p.Pieces)...)
				changed.Pieces[at].Core = int(core)
				wantMay(t, c, x, changed, 0 <= core && core < 4 && others[int(core)] == 0)
			}
		}
	}
}

func TestMayHowManyPieces(t *testing.T) {
	x := task(12, 60, 60)
	for n := range 9 {
		var even, tight []api.Piece
		for k := range n {
			does := 12 / int64(n)
			if k == 0 {
				does += 12 % int64(n)
			}
			even = append(even, piece(k, int64(k)*7, 7, min(does, 7)))
			tight = append(tight, piece(k, int64(k)*7, does, does))
		}
		for cores := 1; cores <= 6; cores++ {
			c := machine(cores, 0, 0)
			wantMay(t, c, x, of(api.PWindow, even...), 2 <= n && n <= cores)
			wantMay(t, c, x, of(api.PWindow, tight...), 2 <= n && n <= cores)
			wantMay(t, c, x, of(api.PZero, tight...), n == 2 && n <= cores)
			wantMay(t, c, x, of(api.PWhole, tight...), false)
		}
	}
}

func TestMayAWholePlanHasJustOnePiece(t *testing.T) {
	c, x := here()
	one := wholePlan().Pieces[0]
	other := one
	other.Core = 0
	wantMay(t, c, x, of(api.PWhole), false)
	wantMay(t, c, x, of(api.PWhole, one, one), false)
	wantMay(t, c, x, of(api.PWhole, one, other), false)
	wantMay(t, c, x, of(api.PWhole, one, piece(0, 0, 0, 0)), false)
	// All of it is done by the two, of which a window plan may be.
	two := []api.Piece{piece(0, 0, 10, 6), piece(1, 12, 10, 5)}
	wantMay(t, c, x, of(api.PWhole, two...), false)
	wantMay(t, c, x, of(api.PWindow, two...), true)
}

func TestMayOnePieceIsNoSplit(t *testing.T) {
	c, x := here()
	wantMay(t, c, x, of(api.PWindow, wholePlan().Pieces...), false)
	wantMay(t, c, x, of(api.PZero, wholePlan().Pieces...), false)
	tight := task(10, 10, 10)
	wantMay(t, c, tight, of(api.PWhole, piece(0, 0, 10, 10)), true)
	wantMay(t, c, tight, of(api.PZero, piece(0, 0, 10, 10)), false)
	wantMay(t, c, tight, of(api.PWindow, piece(0, 0, 10, 10)), false)
}

func TestMayThreePiecesAreNotWithoutSlack(t *testing.T) {
	c, x := here()
	pieces := []api.Piece{piece(2, 0, 4, 4), piece(0, 6, 5, 5), piece(1, 13, 3, 3)}
	wantMay(t, c, x, of(api.PWindow, pieces...), true)
	wantMay(t, c, x, of(api.PZero, pieces...), false)
}

func TestMayTwoWindowsWithSlackAreNotWithoutIt(t *testing.T) {
	c, x := here()
	pieces := []api.Piece{piece(2, 0, 7, 6), piece(0, 9, 5, 5)}
	wantMay(t, c, x, of(api.PWindow, pieces...), true)
	wantMay(t, c, x, of(api.PZero, pieces...), false)
	pieces[0].Len = 6
	wantMay(t, c, x, of(api.PZero, pieces...), true)
}

func TestMayEachNextOneIsALagBehind(t *testing.T) {
	x := task(9, 60, 60)
	for lag := int64(0); lag <= 5; lag++ {
		c := machine(3, lag, 0)
		for off := range int64(20) {
			wantMay(t, c, x, of(api.PWindow, piece(0, 0, 6, 4), piece(1, off, 6, 5)), off >= 6+lag)
			wantMay(t, c, x, of(api.PZero, piece(0, 0, 6, 6), piece(1, off, 6, 3)), off >= 6+lag)
			wantMay(t, c, x, of(api.PWindow, piece(0, 0, 6, 3), piece(1, 12, 6, 3), piece(2, 18+off, 6, 3)), off >= lag)
			// From the one ahead, not from the first one.
			wantMay(t, c, x, of(api.PWindow, piece(0, 0, 6, 3), piece(1, 30, 6, 3), piece(2, 6+lag+off, 6, 3)), off+lag+6 >= 36+lag)
		}
	}
}

func TestMayEachNextOneDoesMoreThanAMove(t *testing.T) {
	x := task(10, 100, 100)
	for move := int64(0); move <= 5; move++ {
		c := machine(3, 0, move)
		for done := int64(0); done <= 10; done++ {
			p := of(api.PWindow, piece(0, 0, 20, 10-done), piece(1, 20, 20, done+move))
			wantMay(t, c, x, p, 1 <= done && done <= 9)
			p = of(api.PZero, piece(0, 0, 10-done, 10-done), piece(1, 20, 20, done+move))
			wantMay(t, c, x, p, 1 <= done && done <= 9)
			p = of(api.PWindow, piece(0, 0, 20, 1), piece(1, 20, 20, 9-done+move), piece(2, 40, 20, done+move))
			wantMay(t, c, x, p, 1 <= done && done <= 8)
		}
	}
	// The first one needs no more than a move, and nothing of it is taken off.
	c := machine(3, 0, 5)
	wantMay(t, c, x, of(api.PWindow, piece(0, 0, 20, 1), piece(1, 20, 20, 14)), true)
	wantMay(t, c, x, of(api.PZero, piece(0, 0, 5, 5), piece(1, 20, 20, 10)), true)
	// One takes off more than it does, another makes up for it.
	wantMay(t, c, x, of(api.PWindow, piece(0, 0, 20, 6), piece(1, 20, 20, 2), piece(2, 40, 20, 12)), false)
	wantMay(t, c, x, of(api.PWindow, piece(0, 0, 20, 6), piece(1, 20, 20, 12), piece(2, 40, 20, 2)), false)
}

func TestMayTheLastOneEndsWithinD(t *testing.T) {
	c := machine(3, 0, 0)
	for _, d := range []int64{21, 22, 23, 30, 199, 200} {
		x := task(9, d, 200)
		for end := int64(20); end <= 201; end++ {
			wantMay(t, c, x, of(api.PWindow, piece(0, 0, 6, 4), piece(1, 10, end-10, 5)), end <= d)
			wantMay(t, c, x, of(api.PZero, piece(0, 0, 4, 4), piece(1, 10, end-10, 5)), end <= d)
			wantMay(t, c, x, of(api.PWindow, piece(0, 0, 3, 3), piece(1, 3, 3, 3), piece(2, end-3, 3, 3)), end <= d)
		}
	}
}

func TestMayWithSectionsJustWhole(t *testing.T) {
	c, x := here()
	c.Syncs, c.Res = 1, []int{0}
	for _, p := range []api.Plan{wholePlan(), windowPlan(), zeroPlan()} {
		x.Secs = []api.Section{}
		wantMay(t, c, x, p, true)
		x.Secs = []api.Section{{At: 1, Len: 1}}
		wantMay(t, c, x, p, p.Kind == api.PWhole)
		x.Secs = []api.Section{{At: 1, Len: 200}, {At: 9, Len: 200}}
		wantMay(t, c, x, p, p.Kind == api.PWhole)
	}
}

func TestMayNothingOfWhatMayNotBe(t *testing.T) {
	c, x := here()
	for _, p := range []api.Plan{wholePlan(), windowPlan(), zeroPlan(), {}} {
		for _, wrong := range []api.Config{
			{}, {Cores: 7, Lag: 2, Move: 1}, {Cores: high}, {Cores: low}, machine(4, 6, 1), machine(4, -1, 1), machine(4, low, low), machine(4, 2, 6), machine(4, high, high),
			{Cores: 4, Syncs: 4, Lag: 2, Move: 1}, {Cores: 4, Lag: 2, Move: 1, Res: []int{0}}, {Cores: 4, Syncs: 1, Lag: 2, Move: 1, Res: make([]int, 7)},
		} {
			wantMay(t, wrong, x, p, false)
		}
		for _, wrong := range []api.Task{
			{}, task(10, 40, 39), task(10, 40, 201), task(10, low, high), {C: 10, D: 40, T: 50, Secs: []api.Section{{At: 1, Len: 1}}}, {C: 10, D: 40, T: 50, Secs: make([]api.Section, 1000)},
		} {
			wantMay(t, c, wrong, p, false)
		}
	}
	// Each of them would be right but for the task.
	wantMay(t, c, task(10, 201, 201), of(api.PWhole, piece(0, 0, 201, 10)), false)
	wantMay(t, c, task(0, 40, 50), of(api.PWhole, piece(0, 0, 40, 0)), false)
	wantMay(t, c, task(41, 40, 50), of(api.PWhole, piece(0, 0, 40, 41)), false)
	wantMay(t, c, task(41, 40, 50), of(api.PZero, piece(0, 0, 20, 20), piece(1, 22, 18, 22)), false)
	wantMay(t, c, task(30, 40, 39), of(api.PZero, piece(0, 0, 15, 15), piece(1, 17, 18, 16)), false)
	wantMay(t, c, task(30, 40, 40), of(api.PZero, piece(0, 0, 15, 15), piece(1, 17, 18, 16)), true)
	wantMay(t, machine(4, 6, 1), task(10, 40, 40), of(api.PZero, piece(0, 0, 5, 5), piece(1, 12, 18, 6)), false)
	wantMay(t, machine(7, 2, 1), task(10, 40, 40), of(api.PZero, piece(0, 0, 5, 5), piece(6, 12, 18, 6)), false)
}

func TestMayALongListOfPieces(t *testing.T) {
	c, x := here()
	for _, kind := range []int{api.PWhole, api.PWindow, api.PZero} {
		long := make([]api.Piece, 1<<20)
		wantMay(t, c, x, of(kind, long...), false)
		for i := range long {
			long[i] = piece(i, int64(i)*10, 8, 4)
		}
		wantMay(t, c, x, of(kind, long...), false)
	}
}

// may is May of a task and a machine that may be, as the chapter tells it, in numbers that have no end.
func may(c api.Config, x api.Task, p api.Plan) bool {
	sum := func(l ...int64) *big.Int {
		s := new(big.Int)
		for _, v := range l {
			s.Add(s, big.NewInt(v))
		}
		return s
	}
	on := map[int]int{}
	all := new(big.Int)
	for k, y := range p.Pieces {
		on[y.Core]++
		if y.Core < 0 || y.Core >= c.Cores || on[y.Core] > 1 || y.Off < 0 || y.C < 1 || y.C > y.Len || sum(y.Off, y.Len).Cmp(big.NewInt(200)) > 0 {
			return false
		}
		all.Add(all, big.NewInt(y.C))
		if p.Kind != api.PWhole && k > 0 {
			ahead := p.Pieces[k-1]
			if big.NewInt(y.Off).Cmp(sum(ahead.Off, ahead.Len, c.Lag)) < 0 || y.C <= c.Move {
				return false
			}
		}
	}
	n := len(p.Pieces)
	if n == 0 || p.Pieces[0].Off != 0 {
		return false
	}
	first, last := p.Pieces[0], p.Pieces[n-1]
	split := len(x.Secs) == 0 && n >= 2 && sum(last.Off, last.Len).Cmp(big.NewInt(x.D)) <= 0 && all.Cmp(sum(x.C, c.Move*int64(n-1))) == 0
	switch p.Kind {
	case api.PWhole:
		return n == 1 && first.Len == x.D && first.C == x.C
	case api.PWindow:
		return split
	case api.PZero:
		return split && n == 2 && first.Len == first.C
	}
	return false
}

// thrown is a plan that is often right, and often nearly right.
func thrown(r *rand.Rand, c api.Config, x api.Task) api.Plan {
	p := of(1 + r.Intn(3))
	n := 1
	if p.Kind == api.PZero {
		n = 2
	} else if p.Kind == api.PWindow {
		n = 2 + r.Intn(4)
	}
	off, left := int64(0), x.C
	for k, core := range r.Perm(6)[:n] {
		does := 1 + r.Int63n(max(left, 1))
		if k == n-1 {
			does = left
		}
		left -= does
		if k > 0 {
			does += c.Move
		}
		length := does + r.Int63n(4)
		if p.Kind == api.PWhole {
			length = x.D
		} else if p.Kind == api.PZero && k == 0 {
			length = does
		}
		p.Pieces = append(p.Pieces, piece(core%max(c.Cores, 1), off, length, does))
		off += length + c.Lag + r.Int63n(3)
	}
	for r.Intn(3) == 0 {
		y := &p.Pieces[r.Intn(n)]
		field := []*int64{&y.Off, &y.Len, &y.C}[r.Intn(3)]
		*field += r.Int63n(5) - 2
		if r.Intn(8) == 0 {
			*field = far[r.Intn(len(far))]
		}
	}
	if r.Intn(20) == 0 {
		p.Kind = r.Intn(5)
	}
	return p
}

func TestMayAgainstTheChapterWordByWord(t *testing.T) {
	r := rand.New(rand.NewSource(17))
	counts := [5][2]int{}
	for range 200000 {
		c := machine(1+r.Intn(6), r.Int63n(6), r.Int63n(6))
		c.Syncs, c.Res = 1, []int{0}
		period := 1 + r.Int63n(200)
		d := 1 + r.Int63n(period)
		x := task(1+r.Int63n(min(d, 40)), d, period)
		if r.Intn(10) == 0 && x.C > 1 {
			x.Secs = []api.Section{{At: 1, Len: 3}}
		}
		p := thrown(r, c, x)
		want := may(c, x, p)
		wantMay(t, c, x, p, want)
		if want {
			counts[p.Kind][1]++
		} else {
			counts[p.Kind][0]++
		}
	}
	for kind := api.PWhole; kind <= api.PZero; kind++ {
		if counts[kind][0] < 5000 || counts[kind][1] < 5000 {
			t.Errorf("plans of kind %d that may not be, that may be: %v", kind, counts[kind])
		}
	}
}

// cores throws some loads on each of n cores.
func cores(r *rand.Rand, n int) [][]api.Load {
	all := make([][]api.Load, n)
	for i := range all {
		for range r.Intn(3) {
			period := 4 + r.Int63n(20)
			all[i] = append(all[i], api.Load{C: 1 + r.Int63n(period*2/3), D: period, T: period})
		}
	}
	return all
}

func TestMayWhatTheLayersBelowPlan(t *testing.T) {
	r := rand.New(rand.NewSource(71))
	counts := [4]int{}
	for range 3000 {
		c := machine(1+r.Intn(6), r.Int63n(3), r.Int63n(3))
		period := 5 + r.Int63n(30)
		d := period - r.Int63n(4)
		x := task(1+r.Int63n(d), d, period)
		loads := cores(r, c.Cores)
		for i, split := range []func() (api.Plan, bool){
			func() (api.Plan, bool) { return whole.Place(loads, x, r.Int63n(3)) },
			func() (api.Plan, bool) { return window.Split(c, loads, x) },
			func() (api.Plan, bool) { return zero.Split(c, loads, x) },
		} {
			p, ok := split()
			if !ok {
				continue
			}
			counts[i+1]++
			wantMay(t, c, x, p, true)
			if want := x.C + c.Move*int64(len(p.Pieces)-1); plan.Budget(p) != want {
				t.Errorf("P17.1: Budget(%v) of %v on %v: %d", p, x, c, plan.Budget(p))
			}
			if due := plan.Deadline(p, len(p.Pieces)-1, 1000); due > 1000+d {
				t.Errorf("P17.1: %v is done by %d, of %v released at 1000", p, due, x)
			}
		}
	}
	for kind := api.PWhole; kind <= api.PZero; kind++ {
		if counts[kind] < 300 {
			t.Errorf("plans of each kind: %v", counts)
		}
	}
}

func TestEqIsAlikeInEverything(t *testing.T) {
	all := []api.Plan{
		{}, {Kind: api.PWhole}, {Kind: low}, {Kind: high},
		wholePlan(), windowPlan(), zeroPlan(),
		of(api.PZero, windowPlan().Pieces...), of(0, windowPlan().Pieces...),
		of(api.PWindow, windowPlan().Pieces[:2]...), of(api.PWindow, windowPlan().Pieces[1:]...),
		of(api.PWindow, make([]api.Piece, 1)...), of(api.PWindow, make([]api.Piece, 2)...), of(api.PWindow, make([]api.Piece, 1<<16)...),
	}
	for at := range 3 {
		for _, step := range []int64{-1, 1, 1 << 32, low} {
			for field := range 4 {
				p := windowPlan()
				y := &p.Pieces[at]
				switch field {
				case 0:
					y.Core += int(step)
				case 1:
					y.Off += step
				case 2:
					y.Len += step
				case 3:
					y.C += step
				}
				all = append(all, p)
			}
		}
	}
	turned := windowPlan()
	slices.Reverse(turned.Pieces)
	all = append(all, turned)
	for i, a := range all {
		for k, b := range all {
			b.Pieces = slices.Clone(b.Pieces)
			if got := plan.Eq(a, b); got != (i == k) {
				t.Errorf("P17.1: Eq(%v, %v) = %v", a, b, got)
			}
		}
	}
}

func TestEqNilIsLikeEmpty(t *testing.T) {
	for _, kind := range []int{0, api.PWhole, api.PWindow, api.PZero, -7} {
		none := []api.Plan{{Kind: kind}, {Kind: kind, Pieces: []api.Piece{}}, {Kind: kind, Pieces: make([]api.Piece, 0, 9)}}
		for _, a := range none {
			for _, b := range none {
				if !plan.Eq(a, b) {
					t.Errorf("P17.1: no pieces and no pieces of kind %d", kind)
				}
			}
			one := of(kind, api.Piece{})
			if plan.Eq(a, one) || plan.Eq(one, a) || plan.Eq(a, api.Plan{Kind: kind + 1}) {
				t.Errorf("P17.1: no pieces of kind %d and one, or of another kind", kind)
			}
		}
	}
}

func TestEqSpareRoomDoesNotCount(t *testing.T) {
	a, b := windowPlan(), windowPlan()
	a.Pieces, b.Pieces = append(a.Pieces, piece(3, 1, 2, 3))[:3], append(b.Pieces, piece(3, 3, 2, 1))[:3]
	if !plan.Eq(a, b) || !plan.Eq(a, windowPlan()) {
		t.Error("P17.1: what lies in the spare room is no piece")
	}
}

// wantBudget wants Budget of pieces that do so much.
func wantBudget(t *testing.T, want int64, does ...int64) {
	t.Helper()
	for _, kind := range []int{0, api.PWhole, api.PWindow, api.PZero, low} {
		p := api.Plan{Kind: kind}
		for i, c := range does {
			p.Pieces = append(p.Pieces, piece(i%3, high, low, c))
		}
		if got := plan.Budget(p); got != want {
			t.Errorf("P17.1: Budget of %v: %d, not %d", does, got, want)
		}
	}
}

func TestBudgetIsAllTogether(t *testing.T) {
	wantBudget(t, 0)
	wantBudget(t, 10, 10)
	wantBudget(t, 12, 4, 5, 3)
	wantBudget(t, 11, 6, 5)
	wantBudget(t, -6, 1, -7, 0)
	if got := plan.Budget(api.Plan{Kind: api.PWhole, Pieces: []api.Piece{}}); got != 0 {
		t.Errorf("P17.1: Budget of none: %d", got)
	}
	long := make([]api.Piece, 1<<20)
	for i := range long {
		long[i].C = int64(i%2)*3 - 1
	}
	if got := plan.Budget(of(api.PWindow, long...)); got != 1<<19 {
		t.Errorf("P17.1: Budget of a long list: %d", got)
	}
}

func TestBudgetFarNumbers(t *testing.T) {
	wantBudget(t, high, high)
	wantBudget(t, low, low)
	wantBudget(t, -1, high, low)
	wantBudget(t, high, high-1, 1)
	wantBudget(t, 5, high, high, low, low, 7)
	wantBudget(t, high, high, 1, -1)
	// No int64 has them.
	wantBudget(t, 0, high, 1)
	wantBudget(t, 0, low, -1)
	wantBudget(t, 0, high, high, high)
	wantBudget(t, 0, low, low)
	wantBudget(t, 0, high, high, 2)
}

func TestDeadlineOfEachPiece(t *testing.T) {
	for _, release := range []int64{-1000, -1, 0, 1, 7, 100, api.MaxNow} {
		for _, p := range []api.Plan{wholePlan(), windowPlan(), zeroPlan(), of(0, piece(9, 3, 4, 5), piece(9, -3, -4, 5)), {}} {
			for i := -3; i < len(p.Pieces)+3; i++ {
				want := int64(0)
				if i >= 0 && i < len(p.Pieces) {
					want = release + p.Pieces[i].Off + p.Pieces[i].Len
				}
				if got := plan.Deadline(p, i, release); got != want {
					t.Errorf("P17.1: Deadline(%v, %d, %d) = %d", p, i, release, got)
				}
			}
			for _, i := range []int{low, low + 1, -1 << 32, 1 << 32, high - 1, high} {
				if got := plan.Deadline(p, i, release); got != 0 {
					t.Errorf("P17.1: Deadline(%v, %d, %d) = %d", p, i, release, got)
				}
			}
		}
	}
}

func TestDeadlineFarNumbers(t *testing.T) {
	numbers := append([]int64{-200, 0, 1, 2, 200}, far...)
	for _, release := range numbers {
		for _, off := range numbers {
			for _, length := range numbers {
				sum := big.NewInt(release)
				sum.Add(sum, big.NewInt(off)).Add(sum, big.NewInt(length))
				want := int64(0)
				if sum.IsInt64() {
					want = sum.Int64()
				}
				p := of(api.PWindow, api.Piece{}, piece(0, off, length, 7))
				if got := plan.Deadline(p, 1, release); got != want {
					t.Errorf("P17.1: Deadline of %d, %d, %d: %d, not %d", release, off, length, got, want)
				}
			}
		}
	}
}

func TestNothingIsChangedOrKept(t *testing.T) {
	c, x := here()
	room := append(windowPlan().Pieces, piece(7, 7, 7, 7))
	was := slices.Clone(room)
	p := of(api.PWindow, room[:3]...)
	p.Pieces = room[:3]
	for range 2 {
		if !plan.May(c, x, p) || !plan.Eq(p, windowPlan()) || plan.Budget(p) != 12 || plan.Deadline(p, 2, 5) != 33 {
			t.Errorf("P0.5: %v", p)
		}
	}
	if !slices.Equal(room, was) {
		t.Errorf("P0.3: the pieces have become %v", room)
	}
	room[0].C++
	if plan.May(c, x, p) || plan.Eq(p, windowPlan()) || plan.Budget(p) != 13 {
		t.Errorf("P0.5: of a plan that is told anew: %v", p)
	}
}
