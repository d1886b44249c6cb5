package ring_test

import (
	"math"
	"math/rand"
	"runtime"
	"slices"
	"testing"
	"weak"

	"hortator/ring"
)

// fill puts what has to find room.
func fill[T any](t *testing.T, r *ring.Ring[T], l ...T) {
	t.Helper()
	for i, v := range l {
		if !r.Put(v) {
			t.Fatalf("P3.1: no room for the %dth: %v", i, v)
		}
	}
}

// holds says where r is not just l, with so much room left.
func holds[T comparable](t *testing.T, r *ring.Ring[T], room int, l ...T) {
	t.Helper()
	if r.Len() != len(l) || r.Room() != room {
		t.Fatalf("P3.1: Len %d, Room %d, not %d, %d", r.Len(), r.Room(), len(l), room)
	}
	for i, want := range l {
		if v, ok := r.At(i); v != want || !ok {
			t.Fatalf("P3.1: At(%d) = %v, %v, not %v", i, v, ok, want)
		}
	}
	for _, i := range []int{math.MinInt, -len(l), -2, -1, len(l), len(l) + 1, 1000, math.MaxInt - 1, math.MaxInt} {
		if i < 0 || i >= len(l) {
			if v, ok := r.At(i); v != *new(T) || ok {
				t.Fatalf("P3.1: At(%d) of %d = %v, %v", i, len(l), v, ok)
			}
		}
	}
	first, ok := r.First()
	if ok != (len(l) > 0) || ok && first != l[0] || !ok && first != *new(T) {
		t.Fatalf("P3.1: First = %v, %v of %v", first, ok, l)
	}
}

// drain takes all, and answers them in the order in which they came.
func drain[T comparable](t *testing.T, r *ring.Ring[T]) []T {
	t.Helper()
	var l []T
	for n := r.Len(); n > 0; n-- {
		v, ok := r.Take()
		if !ok || r.Len() != n-1 {
			t.Fatalf("P3.1: of %d: Take %v, Len %d", n, ok, r.Len())
		}
		l = append(l, v)
	}
	if v, ok := r.Take(); v != *new(T) || ok {
		t.Errorf("P3.1: Take of an empty ring: %v, %v", v, ok)
	}
	return l
}

func TestWhatCameFirstGoesFirst(t *testing.T) {
	r := ring.New[string](4)
	holds(t, r, 4)
	fill(t, r, "b", "a", "", "a")
	holds(t, r, 0, "b", "a", "", "a")
	if got := drain(t, r); !slices.Equal(got, []string{"b", "a", "", "a"}) {
		t.Errorf("P3.1: taken %q", got)
	}
	holds(t, r, 4)
}

func TestAFullRingTakesNoOtherAndStays(t *testing.T) {
	r := ring.New[int](3)
	fill(t, r, 1, 2, 3)
	for range 3 {
		if r.Put(4) {
			t.Error("P3.1: room for a fourth of three")
		}
		holds(t, r, 0, 1, 2, 3)
	}
	r.Take()
	fill(t, r, 5)
	if r.Put(6) {
		t.Error("P3.1: room for a fourth of three")
	}
	holds(t, r, 0, 2, 3, 5)
}

func TestFirstAndAtLeaveItThere(t *testing.T) {
	r := ring.New[int](5)
	fill(t, r, 7, 8)
	for range 3 {
		holds(t, r, 3, 7, 8)
	}
}

func TestRoomIsFromNoughtToAThousand(t *testing.T) {
	for _, x := range []struct{ room, want int }{
		{math.MinInt, 0}, {-1000, 0}, {-1, 0}, {0, 0}, {1, 1}, {2, 2}, {999, 999},
		{1000, 1000}, {1001, 1000}, {1 << 32, 1000}, {math.MaxInt, 1000},
	} {
		r := ring.New[int](x.room)
		holds(t, r, x.want)
		var want []int
		for len(want) <= 1000 && r.Put(len(want)+1) {
			want = append(want, len(want)+1)
		}
		if len(want) != x.want {
			t.Errorf("P3.1: New(%d) has room for %d, not %d", x.room, len(want), x.want)
		}
		holds(t, r, 0, want...)
		if got := drain(t, r); !slices.Equal(got, want) {
			t.Errorf("P3.1: New(%d): taken out of order", x.room)
		}
		holds(t, r, x.want)
	}
}

// Wherever the front stands when more is put, the order stays.
func TestEveryFrontAndEveryCount(t *testing.T) {
	const room = 9
	for early := range room + 1 {
		for gone := range early + 1 {
			r := ring.New[int](room)
			var l []int
			for v := range early {
				fill(t, r, v+1)
				l = append(l, v+1)
			}
			for range gone {
				r.Take()
			}
			l = l[gone:]
			for v := 100; len(l) < room; v++ {
				holds(t, r, room-len(l), l...)
				fill(t, r, v)
				l = append(l, v)
			}
			holds(t, r, 0, l...)
		}
	}
}

func TestANilRingHasNothingAndNoRoom(t *testing.T) {
	for _, r := range []*ring.Ring[string]{nil, {}, new(ring.Ring[string])} {
		if r.Put("x") {
			t.Error("P3.1: Put into none")
		}
		holds(t, r, 0)
		if v, ok := r.Take(); v != "" || ok {
			t.Errorf("P3.1: Take %q, %v", v, ok)
		}
		holds(t, r, 0)
	}
}

func TestRingsOfOtherTypes(t *testing.T) {
	e := ring.New[struct{}](2)
	fill(t, e, struct{}{}, struct{}{})
	if e.Put(struct{}{}) || e.Len() != 2 || len(drain(t, e)) != 2 {
		t.Error("P3.1: of things without size")
	}
	l := ring.New[[]int](2)
	fill(t, l, nil, []int{1, 2})
	if v, ok := l.Take(); v != nil || !ok {
		t.Errorf("P3.1: Take %v, %v", v, ok)
	}
	if v, ok := l.Take(); !slices.Equal(v, []int{1, 2}) || !ok {
		t.Errorf("P3.1: Take %v, %v", v, ok)
	}
	f := ring.New[func() int](1)
	fill(t, f, func() int { return 7 })
	if v, ok := f.First(); !ok || v() != 7 {
		t.Error("P3.1: of functions")
	}
	a := ring.New[any](3)
	fill[any](t, a, map[int]int{1: 2}, nil, math.NaN())
	if v, ok := a.At(1); v != nil || !ok {
		t.Errorf("P3.1: At %v, %v", v, ok)
	}
	if v, ok := a.At(2); v == v || !ok {
		t.Errorf("P3.1: At %v, %v", v, ok)
	}
}

func TestRingsHaveNothingInCommon(t *testing.T) {
	q, r := ring.New[int](2), ring.New[int](2)
	fill(t, q, 1)
	holds(t, r, 2)
	fill(t, r, 2, 3)
	holds(t, q, 1, 1)
}

func TestWhatHasGoneIsNotKept(t *testing.T) {
	r := ring.New[*[64]int](8)
	var l []weak.Pointer[[64]int]
	for range 8 {
		p := new([64]int)
		l = append(l, weak.Make(p))
		fill(t, r, p)
	}
	for range 3 {
		r.Take()
	}
	runtime.GC()
	for k, p := range l {
		if (p.Value() == nil) != (k < 3) {
			t.Errorf("P3.1: %d: gone %v", k, p.Value() == nil)
		}
	}
	runtime.KeepAlive(r)
}

// walk does many things to a ring and to a plain list, and holds them against each other. Of nine throws so many are Puts.
func walk(t *testing.T, dice *rand.Rand, room, puts int) {
	r := ring.New[int](room)
	var l []int
	for i := range 500 {
		if dice.Intn(9) < puts {
			free := len(l) < room
			if r.Put(i+1) != free {
				t.Fatalf("P3.1: %d: Put = %v", i, !free)
			}
			if free {
				l = append(l, i+1)
			}
		} else {
			v, ok := r.Take()
			if ok != (len(l) > 0) || ok && v != l[0] || !ok && v != 0 {
				t.Fatalf("P3.1: %d: Take = %d, %v", i, v, ok)
			}
			l = l[min(1, len(l)):]
		}
		holds(t, r, room-len(l), l...)
	}
}

func TestLongWalksAgainstAPlainList(t *testing.T) {
	for seed := range int64(10) {
		dice := rand.New(rand.NewSource(seed))
		for _, room := range []int{0, 1, 2, 3, 5, 8, 60, 1000} {
			walk(t, dice, room, 3)
			walk(t, dice, room, 5)
			walk(t, dice, room, 8)
		}
	}
}
