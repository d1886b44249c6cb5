package box_test

import (
	"math"
	"math/rand"
	"runtime"
	"slices"
	"testing"
	"time"
	"weak"

	"hortator/box"
)

// fill puts what has to find room.
func fill[T any](t *testing.T, b *box.Box[T], l ...T) {
	t.Helper()
	for _, v := range l {
		if !b.Put(v) {
			t.Fatalf("P5.1: Put(%v) finds no room", v)
		}
	}
}

// takes says where Take does not answer just these, one behind the other, and then nothing.
func takes[T comparable](t *testing.T, b *box.Box[T], l ...T) {
	t.Helper()
	for i, want := range l {
		if n := b.Len(); n != len(l)-i {
			t.Fatalf("P5.1: Len %d, not %d", n, len(l)-i)
		}
		if v, ok := b.Take(); v != want || !ok {
			t.Fatalf("P5.1: Take = %v, %v, not %v", v, ok, want)
		}
	}
	empty(t, b)
}

// empty says where b has something.
func empty[T comparable](t *testing.T, b *box.Box[T]) {
	t.Helper()
	if n := b.Len(); n != 0 {
		t.Fatalf("P5.1: Len %d of an empty one", n)
	}
	for range 2 {
		if v, ok := b.Take(); v != *new(T) || ok {
			t.Fatalf("P5.1: Take = %v, %v of an empty one", v, ok)
		}
	}
}

// either says where Either does not answer want of the box which.
func either[T comparable](t *testing.T, a, c *box.Box[T], want T, which int) {
	t.Helper()
	if v, n := box.Either(a, c); v != want || n != which {
		t.Fatalf("P5.1: Either = %v, %d, not %v, %d", v, n, want, which)
	}
}

func TestWhatWasPutFirstIsTakenFirst(t *testing.T) {
	b := box.New[string](4)
	empty(t, b)
	fill(t, b, "b", "a", "", "a")
	takes(t, b, "b", "a", "", "a")
	fill(t, b, "x", "y", "z")
	if v, ok := b.Take(); v != "x" || !ok {
		t.Errorf("P5.1: Take = %q, %v", v, ok)
	}
	fill(t, b, "p", "q")
	takes(t, b, "y", "z", "p", "q")
}

func TestAFullBoxTakesNothingIn(t *testing.T) {
	b := box.New[int](3)
	fill(t, b, 7, 8, 9)
	for range 3 {
		if b.Put(5) {
			t.Error("P5.1: Put into a full one")
		}
		if n := b.Len(); n != 3 {
			t.Errorf("P5.1: Len %d of a full one for 3", n)
		}
	}
	if v, ok := b.Take(); v != 7 || !ok {
		t.Errorf("P5.1: Take = %d, %v", v, ok)
	}
	fill(t, b, 6)
	if b.Put(5) {
		t.Error("P5.1: Put into one that is full again")
	}
	takes(t, b, 8, 9, 6)
}

func TestRoomIsFromNoughtToAHundred(t *testing.T) {
	for _, x := range []struct{ room, want int }{
		{math.MinInt, 0}, {-1 << 32, 0}, {-100, 0}, {-1, 0}, {0, 0}, {1, 1}, {2, 2}, {99, 99},
		{100, 100}, {101, 100}, {1 << 32, 100}, {math.MaxInt, 100},
	} {
		b := box.New[int](x.room)
		var l []int
		for len(l) < 102 && b.Put(1000+len(l)) {
			l = append(l, 1000+len(l))
		}
		if len(l) != x.want {
			t.Errorf("P5.1: New(%d) has room for %d, not %d", x.room, len(l), x.want)
		}
		takes(t, b, l...)
	}
}

func TestEitherTakesOfTheSecondWhereTheFirstIsEmpty(t *testing.T) {
	a, c := box.New[string](3), box.New[string](3)
	either(t, a, c, "", 0)
	fill(t, c, "x", "y")
	either(t, a, c, "x", 2)
	fill(t, a, "p", "")
	either(t, a, c, "p", 1)
	fill(t, c, "z")
	either(t, a, c, "", 1)
	either(t, a, c, "y", 2)
	fill(t, a, "q")
	either(t, c, a, "z", 1)
	either(t, c, a, "q", 2)
	either(t, a, c, "", 0)
	fill(t, c, "")
	either(t, a, c, "", 2)
	either(t, a, c, "", 0)
}

func TestEitherNeverChoosesByChance(t *testing.T) {
	for range 200 {
		a, c := box.New[int](2), box.New[int](2)
		fill(t, a, 1, 2)
		fill(t, c, 3, 4)
		for i, which := range []int{1, 1, 2, 2} {
			either(t, a, c, i+1, which)
		}
		either(t, a, c, 0, 0)
	}
}

func TestEitherTakesOneThingAlone(t *testing.T) {
	a, c := box.New[int](3), box.New[int](3)
	fill(t, a, 1, 2, 3)
	fill(t, c, 4, 5, 6)
	either(t, a, c, 1, 1)
	if a.Len() != 2 || c.Len() != 3 {
		t.Errorf("P5.1: Either leaves %d, %d", a.Len(), c.Len())
	}
	takes(t, a, 2, 3)
	either(t, a, c, 4, 2)
	takes(t, c, 5, 6)
}

func TestEitherOfOneBoxTwice(t *testing.T) {
	b := box.New[int](3)
	fill(t, b, 1, 2, 3)
	either(t, b, b, 1, 1)
	either(t, b, b, 2, 1)
	takes(t, b, 3)
	either(t, b, b, 0, 0)
}

func TestNilAndUnmadeBoxesAreEmptyAndHaveNoRoom(t *testing.T) {
	for _, b := range []*box.Box[string]{nil, {}, new(box.Box[string]), box.New[string](0)} {
		if b.Put("x") || b.Put("") {
			t.Error("P5.1: Put into none")
		}
		empty(t, b)
		either(t, b, b, "", 0)
		either(t, b, nil, "", 0)
		either(t, nil, b, "", 0)
		c := box.New[string](2)
		either(t, b, c, "", 0)
		either(t, c, b, "", 0)
		fill(t, c, "x", "y")
		either(t, b, c, "x", 2)
		either(t, c, b, "y", 1)
		either(t, c, b, "", 0)
	}
}

func TestNoCallWaits(t *testing.T) {
	done := make(chan int)
	go func() {
		defer close(done)
		full := box.New[int](1)
		full.Put(1)
		for _, b := range []*box.Box[int]{nil, {}, box.New[int](0), full} {
			b.Put(2)
			b.Len()
			box.Either(b, nil)
			box.Either(nil, b)
			b.Take()
		}
	}()
	select {
	case <-done:
	case <-time.After(10 * time.Second):
		t.Fatal("P5.1: a call waits")
	}
}

func TestABoxWithoutRoomHandsNothingOver(t *testing.T) {
	b := box.New[int](0)
	got := make(chan int)
	go func() {
		n := 0
		for range 20000 {
			if _, ok := b.Take(); ok {
				n++
			}
		}
		got <- n
	}()
	for range 20000 {
		if b.Put(1) {
			t.Error("P5.1: Put into one without room")
			break
		}
	}
	if n := <-got; n != 0 {
		t.Errorf("P5.1: Take of one without room: %d times", n)
	}
}

func TestBoxesOfOtherTypes(t *testing.T) {
	e := box.New[struct{}](2)
	fill(t, e, struct{}{}, struct{}{})
	if e.Put(struct{}{}) {
		t.Error("P5.1: Put of a thing without size into a full one")
	}
	takes(t, e, struct{}{}, struct{}{})
	p := box.New[*int](2)
	fill(t, p, nil, nil)
	either(t, nil, p, nil, 2)
	takes(t, p, nil)
	l := box.New[[]int](2)
	fill(t, l, nil, []int{1, 2})
	if v, ok := l.Take(); v != nil || !ok {
		t.Errorf("P5.1: Take %v, %v", v, ok)
	}
	if v, which := box.Either(nil, l); !slices.Equal(v, []int{1, 2}) || which != 2 {
		t.Errorf("P5.1: Either %v, %v", v, which)
	}
	f := box.New[func() int](1)
	fill(t, f, func() int { return 7 })
	if v, ok := f.Take(); !ok || v() != 7 {
		t.Error("P5.1: of functions")
	}
	a := box.New[any](3)
	fill[any](t, a, map[int]int{1: 2}, nil, math.NaN())
	a.Take()
	if v, ok := a.Take(); v != nil || !ok {
		t.Errorf("P5.1: Take %v, %v", v, ok)
	}
	if v, ok := a.Take(); v == v || !ok {
		t.Errorf("P5.1: Take %v, %v", v, ok)
	}
}

// A channel itself has no things of this size.
func TestBoxesOfBigThings(t *testing.T) {
	type big [1 << 17]byte
	b := box.New[big](100)
	fill(t, b, big{0: 1}, big{1<<17 - 1: 2})
	takes(t, b, big{0: 1}, big{1<<17 - 1: 2})
}

func TestWhatIsPutIsACopy(t *testing.T) {
	b := box.New[[2]int](2)
	v := [2]int{1, 2}
	fill(t, b, v)
	v[0] = 9
	fill(t, b, v)
	takes(t, b, [2]int{1, 2}, [2]int{9, 2})
}

func TestBoxesHaveNothingInCommon(t *testing.T) {
	a, c := box.New[int](2), box.New[int](2)
	fill(t, a, 1)
	empty(t, c)
	fill(t, c, 2, 3)
	takes(t, a, 1)
	takes(t, c, 2, 3)
}

func TestWhatHasGoneIsNotKept(t *testing.T) {
	b := box.New[*[64]int](8)
	var l []weak.Pointer[[64]int]
	for range 8 {
		p := new([64]int)
		l = append(l, weak.Make(p))
		fill(t, b, p)
	}
	b.Take()
	box.Either(nil, b)
	runtime.GC()
	for k, p := range l {
		if (p.Value() == nil) != (k < 2) {
			t.Errorf("P5.1: the one at %d: gone %v", k, p.Value() == nil)
		}
	}
	runtime.KeepAlive(b)
}

// pair is two boxes and what has to be in them.
type pair struct {
	boxes [2]*box.Box[int]
	lists [2][]int
}

// put puts v into a box and its list, and holds the answers against each other.
func (p *pair) put(t *testing.T, which, room, v int) {
	t.Helper()
	free := len(p.lists[which]) < room
	if p.boxes[which].Put(v) != free {
		t.Fatalf("P5.1: Put(%d) = %v", v, !free)
	}
	if free {
		p.lists[which] = append(p.lists[which], v)
	}
}

// first takes the first out of a list.
func (p *pair) first(which int) (int, bool) {
	l := p.lists[which]
	if len(l) == 0 {
		return 0, false
	}
	p.lists[which] = l[1:]
	return l[0], true
}

// either takes of a box and of the other, and of their lists, and holds the answers against each other.
func (p *pair) either(t *testing.T, which int) {
	t.Helper()
	want, of := 0, 0
	if v, ok := p.first(which); ok {
		want, of = v, 1
	} else if v, ok := p.first(1 - which); ok {
		want, of = v, 2
	}
	either(t, p.boxes[which], p.boxes[1-which], want, of)
}

// walk does many things to two boxes and to plain lists, and holds them against each other. Of nine throws so many are Puts.
func walk(t *testing.T, dice *rand.Rand, room, puts int) {
	p := pair{boxes: [2]*box.Box[int]{box.New[int](room), box.New[int](room)}}
	for i := range 300 {
		which := dice.Intn(2)
		switch throw := dice.Intn(9); {
		case throw < puts:
			p.put(t, which, room, i+1)
		case throw == 8:
			p.either(t, which)
		default:
			want, there := p.first(which)
			if v, ok := p.boxes[which].Take(); v != want || ok != there {
				t.Fatalf("P5.1: %d: Take = %d, %v, not %d, %v", i, v, ok, want, there)
			}
		}
		for k, b := range p.boxes {
			if n := b.Len(); n != len(p.lists[k]) {
				t.Fatalf("P5.1: %d: Len %d, not %d", i, n, len(p.lists[k]))
			}
		}
	}
}

func TestLongWalksAgainstPlainLists(t *testing.T) {
	for seed := range int64(10) {
		dice := rand.New(rand.NewSource(seed))
		for _, room := range []int{0, 1, 2, 3, 5, 8, 60, 100} {
			walk(t, dice, room, 3)
			walk(t, dice, room, 5)
			walk(t, dice, room, 8)
		}
	}
}
