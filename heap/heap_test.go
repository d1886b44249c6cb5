package heap_test

import (
	"math"
	"math/rand"
	"runtime"
	"slices"
	"testing"
	"weak"

	"hortator/heap"
)

const (
	low  = math.MinInt64
	high = math.MaxInt64
)

// thing is one that a heap has, with its key.
type thing struct {
	v    int
	a, b int64
}

// model is a heap that is slow and plain: things in the order in which they were Put.
type model struct {
	room   int
	things []thing
}

func (m *model) at(v int) int {
	return slices.IndexFunc(m.things, func(x thing) bool { return x.v == v })
}

func (m *model) put(v int, a, b int64) bool {
	if !m.drop(v) && len(m.things) >= m.room {
		return false
	}
	m.things = append(m.things, thing{v, a, b})
	return true
}

func (m *model) drop(v int) bool {
	i := m.at(v)
	if i < 0 {
		return false
	}
	m.things = slices.Delete(m.things, i, i+1)
	return true
}

func (m *model) first() (int, bool) {
	if len(m.things) == 0 {
		return 0, false
	}
	best := m.things[0]
	for _, x := range m.things {
		if x.a < best.a || x.a == best.a && x.b < best.b {
			best = x
		}
	}
	return best.v, true
}

func (m *model) take() (int, bool) {
	v, ok := m.first()
	m.drop(v)
	return v, ok
}

func (m *model) key(v int) (int64, int64, bool) {
	i := m.at(v)
	if i < 0 {
		return 0, 0, false
	}
	return m.things[i].a, m.things[i].b, true
}

// drain takes all, and answers them in the order in which they came.
func drain[T comparable](t *testing.T, h *heap.Heap[T]) []T {
	t.Helper()
	var l []T
	for n := h.Len(); n > 0; n-- {
		f, had := h.First()
		v, ok := h.Take()
		if !had || !ok || h.Len() != n-1 {
			t.Fatalf("P2.1: of %d: First %v, Take %v, Len %d", n, had, ok, h.Len())
		}
		if f != v && f == f {
			t.Fatalf("P2.1: First says %v, Take %v", f, v)
		}
		l = append(l, v)
	}
	if v, ok := h.Take(); v != *new(T) || ok {
		t.Errorf("P2.1: Take of an empty heap: %v, %v", v, ok)
	}
	return l
}

// put puts what has to find room.
func put[T comparable](t *testing.T, h *heap.Heap[T], v T, a, b int64) {
	t.Helper()
	if !h.Put(v, a, b) {
		t.Errorf("P2.1: no room for %v", v)
	}
}

func TestLeastKeyGoesFirst(t *testing.T) {
	h := heap.New[string](10)
	put(t, h, "high", high, low)
	put(t, h, "nought b", 0, 3)
	put(t, h, "low b", low, high)
	put(t, h, "nought a", 0, -3)
	put(t, h, "low a", low, low)
	put(t, h, "one", 1, low)
	put(t, h, "below", -1, high)
	want := []string{"low a", "low b", "below", "nought a", "nought b", "one", "high"}
	if got := drain(t, h); !slices.Equal(got, want) {
		t.Errorf("P2.1: taken %q, not %q", got, want)
	}
}

func TestOfEqualKeysTheEarlierPutGoesFirst(t *testing.T) {
	h := heap.New[int](100)
	var want []int
	for v := range 100 {
		put(t, h, 99-v, 7, 7)
		want = append(want, 99-v)
	}
	if got := drain(t, h); !slices.Equal(got, want) {
		t.Errorf("P2.1: taken %v, not %v", got, want)
	}
}

func TestANewKeyCountsAsPutAnew(t *testing.T) {
	h := heap.New[string](3)
	for _, v := range []string{"a", "b", "c"} {
		put(t, h, v, 1, 1)
	}
	put(t, h, "a", 1, 1) // the same key once more
	put(t, h, "b", 2, 2)
	put(t, h, "b", 1, 1) // away and back
	if got := drain(t, h); !slices.Equal(got, []string{"c", "a", "b"}) {
		t.Errorf("P2.1: taken %v", got)
	}
	put(t, h, "a", 1, 1)
	put(t, h, "b", 1, 1)
	h.Drop("a")
	put(t, h, "a", 1, 1)
	if got := drain(t, h); !slices.Equal(got, []string{"b", "a"}) {
		t.Errorf("P2.1: taken %v", got)
	}
}

func TestPutOfOneThatIsThereGivesItTheNewKey(t *testing.T) {
	h := heap.New[string](2)
	put(t, h, "x", 5, 6)
	put(t, h, "y", 7, 8)
	put(t, h, "x", 9, low)
	if a, b, ok := h.Key("x"); a != 9 || b != low || !ok || h.Len() != 2 {
		t.Errorf("P2.1: Key %d, %d, %v of %d", a, b, ok, h.Len())
	}
	if v, ok := h.First(); v != "y" || !ok {
		t.Errorf("P2.1: First %q, %v", v, ok)
	}
	if got := drain(t, h); !slices.Equal(got, []string{"y", "x"}) {
		t.Errorf("P2.1: taken %v", got)
	}
}

func TestAFullHeapTakesNoOtherAndStays(t *testing.T) {
	h := heap.New[string](2)
	put(t, h, "x", 5, 6)
	put(t, h, "y", 5, 6)
	if h.Put("z", low, low) {
		t.Error("P2.1: room for a third of two")
	}
	if _, _, ok := h.Key("z"); ok || h.Len() != 2 {
		t.Error("P2.1: what found no room is there")
	}
	put(t, h, "x", 5, 6)
	if got := drain(t, h); !slices.Equal(got, []string{"y", "x"}) {
		t.Errorf("P2.1: taken %v", got)
	}
	put(t, h, "z", 1, 1)
	put(t, h, "", 0, 0)
	if !h.Drop("z") || !h.Put("w", 2, 2) || h.Put("z", 2, 2) {
		t.Error("P2.1: room that was left is not given again")
	}
}

func TestRoomIsFromNoughtToAThousand(t *testing.T) {
	for _, x := range []struct{ room, want int }{
		{math.MinInt, 0}, {-1000, 0}, {-1, 0}, {0, 0}, {1, 1}, {2, 2}, {999, 999},
		{1000, 1000}, {1001, 1000}, {1 << 32, 1000}, {math.MaxInt, 1000},
	} {
		h := heap.New[int](x.room)
		n := 0
		for n <= 1000 && h.Put(n, int64(-n), 0) {
			n++
		}
		if n != x.want || h.Len() != x.want {
			t.Errorf("P2.1: New(%d) has room for %d, not %d", x.room, n, x.want)
		}
		if got := drain(t, h); !slices.IsSortedFunc(got, func(v, w int) int { return w - v }) {
			t.Errorf("P2.1: New(%d): taken out of order", x.room)
		}
	}
}

func TestDropFromAnyPlaceKeepsTheOrder(t *testing.T) {
	const n = 40
	for seed := range int64(20) {
		keys := rand.New(rand.NewSource(seed)).Perm(n)
		for gone := range n {
			h := heap.New[int](n)
			for _, k := range keys {
				put(t, h, k, int64(k/3), int64(k%3))
			}
			if !h.Drop(gone) || h.Drop(gone) || h.Len() != n-1 {
				t.Fatalf("P2.1: Drop(%d)", gone)
			}
			if _, _, ok := h.Key(gone); ok {
				t.Fatalf("P2.1: %d is there still", gone)
			}
			if got := drain(t, h); !slices.IsSorted(got) || slices.Contains(got, gone) {
				t.Fatalf("P2.1: without %d: %v", gone, got)
			}
		}
	}
}

func TestWhereThereIsNoneTheAnswerIsZero(t *testing.T) {
	h := heap.New[int](3)
	put(t, h, 4, 5, 6)
	if a, b, ok := h.Key(3); a != 0 || b != 0 || ok {
		t.Errorf("P0.2: Key of none: %d, %d, %v", a, b, ok)
	}
	if h.Drop(3) || !h.Drop(4) {
		t.Error("P2.1: Drop")
	}
	if v, ok := h.First(); v != 0 || ok {
		t.Errorf("P0.2: First of none: %d, %v", v, ok)
	}
	if v, ok := h.Take(); v != 0 || ok {
		t.Errorf("P0.2: Take of none: %d, %v", v, ok)
	}
	if a, b, ok := h.Key(4); a != 0 || b != 0 || ok || h.Drop(4) || h.Len() != 0 {
		t.Errorf("P0.2: Key of what has gone: %d, %d, %v", a, b, ok)
	}
}

func TestANilHeapHasNothingAndNoRoom(t *testing.T) {
	for _, h := range []*heap.Heap[string]{nil, {}, new(heap.Heap[string])} {
		if h.Put("x", 1, 1) || h.Drop("x") || h.Drop("") || h.Len() != 0 {
			t.Error("P2.1: Put, Drop or Len of none")
		}
		if v, ok := h.First(); v != "" || ok {
			t.Errorf("P2.1: First %q, %v", v, ok)
		}
		if v, ok := h.Take(); v != "" || ok {
			t.Errorf("P2.1: Take %q, %v", v, ok)
		}
		if a, b, ok := h.Key("x"); a != 0 || b != 0 || ok {
			t.Errorf("P2.1: Key %d, %d, %v", a, b, ok)
		}
	}
}

// A NaN is unlike itself: none is ever there, but each that was Put is taken.
func TestWhatIsUnlikeItselfIsTaken(t *testing.T) {
	nan := math.NaN()
	h := heap.New[float64](3)
	put(t, h, nan, 2, 0)
	put(t, h, 1, 3, 0)
	put(t, h, nan, 1, 0)
	if h.Put(nan, 0, 0) || h.Drop(nan) || h.Len() != 3 {
		t.Error("P2.1: a NaN is there")
	}
	if _, _, ok := h.Key(nan); ok {
		t.Error("P2.1: a NaN has a key")
	}
	got := drain(t, h)
	if len(got) != 3 || !math.IsNaN(got[0]) || !math.IsNaN(got[1]) || got[2] != 1 {
		t.Errorf("P2.1: taken %v", got)
	}
	put(t, h, nan, 1, 1)
	put(t, h, nan, 1, 1)
	put(t, h, nan, 1, 1)
}

// An interface may hold what can't be compared: it is like nothing.
func TestWhatCannotBeComparedDoesNotPanic(t *testing.T) {
	h := heap.New[any](4)
	put[any](t, h, []int{1}, 3, 0)
	put[any](t, h, []int{1}, 1, 0)
	put[any](t, h, map[int]int{}, 4, 0)
	put[any](t, h, 7, 2, 0)
	if h.Put([]int{1}, 0, 0) || h.Drop([]int{1}) || h.Drop(map[int]int{}) || h.Len() != 4 {
		t.Error("P0.1: what can't be compared is there")
	}
	if _, _, ok := h.Key([]int{1}); ok {
		t.Error("P0.1: what can't be compared has a key")
	}
	if a, b, ok := h.Key(7); a != 2 || b != 0 || !ok {
		t.Errorf("P0.1: Key of what stands among them: %d, %d, %v", a, b, ok)
	}
	put[any](t, h, 7, 0, 0)
	for _, want := range []string{"int", "slice", "slice", "map"} {
		v, ok := h.Take()
		kind := "none"
		switch v.(type) {
		case int:
			kind = "int"
		case []int:
			kind = "slice"
		case map[int]int:
			kind = "map"
		}
		if !ok || kind != want {
			t.Errorf("P0.1: Take %v, %v, not %s", v, ok, want)
		}
	}
}

func TestHeapsOfOtherTypes(t *testing.T) {
	type pair struct {
		s string
		n [2]int
	}
	h := heap.New[pair](2)
	put(t, h, pair{"x", [2]int{1, 2}}, 2, 0)
	put(t, h, pair{"x", [2]int{1, 3}}, 1, 0)
	put(t, h, pair{"x", [2]int{1, 2}}, 0, 0)
	if got := drain(t, h); !slices.Equal(got, []pair{{"x", [2]int{1, 2}}, {"x", [2]int{1, 3}}}) {
		t.Errorf("P2.1: taken %v", got)
	}
	e := heap.New[struct{}](5)
	put(t, e, struct{}{}, 1, 1)
	put(t, e, struct{}{}, 2, 2)
	if a, b, ok := e.Key(struct{}{}); a != 2 || b != 2 || !ok || e.Len() != 1 {
		t.Errorf("P2.1: Key %d, %d, %v", a, b, ok)
	}
}

func TestHeapsHaveNothingInCommon(t *testing.T) {
	g, h := heap.New[int](2), heap.New[int](2)
	put(t, g, 1, 1, 1)
	if h.Len() != 0 || h.Drop(1) {
		t.Error("P0.5: another heap has it, too")
	}
	put(t, h, 2, 0, 0)
	if v, _ := g.First(); v != 1 {
		t.Errorf("P0.5: First %d", v)
	}
}

func TestWhatHasGoneIsNotKept(t *testing.T) {
	h := heap.New[*[64]int](8)
	var l []weak.Pointer[[64]int]
	for k := range 8 {
		p := new([64]int)
		l = append(l, weak.Make(p))
		put(t, h, p, int64(k), 0)
	}
	h.Take()
	h.Drop(l[3].Value())
	h.Drop(l[7].Value())
	runtime.GC()
	for k, p := range l {
		gone := k == 0 || k == 3 || k == 7
		if (p.Value() == nil) != gone {
			t.Errorf("P2.1: %d: gone %v", k, p.Value() == nil)
		}
	}
	runtime.KeepAlive(h)
}

// walk does many things to a heap and to the model, and holds all their answers against each other.
func walk(t *testing.T, seed int64, room, values int, keys []int64) {
	dice := rand.New(rand.NewSource(seed))
	h, m := heap.New[int](room), &model{room: room}
	for i := range 3000 {
		v := dice.Intn(values)
		switch dice.Intn(7) {
		case 0:
			if got, want := h.Drop(v), m.drop(v); got != want {
				t.Fatalf("P2.1: %d: Drop(%d) = %v", i, v, got)
			}
		case 1:
			got, ok := h.Take()
			if want, has := m.take(); got != want || ok != has {
				t.Fatalf("P2.1: %d: Take = %d, %v, not %d, %v", i, got, ok, want, has)
			}
		default:
			a, b := keys[dice.Intn(len(keys))], keys[dice.Intn(len(keys))]
			if got, want := h.Put(v, a, b), m.put(v, a, b); got != want {
				t.Fatalf("P2.1: %d: Put(%d) = %v", i, v, got)
			}
		}
		first, ok := h.First()
		if want, has := m.first(); first != want || ok != has || h.Len() != len(m.things) {
			t.Fatalf("P2.1: %d: First = %d, %v, not %d, %v", i, first, ok, want, has)
		}
		a, b, ok := h.Key(v)
		if wa, wb, has := m.key(v); a != wa || b != wb || ok != has {
			t.Fatalf("P2.1: %d: Key(%d) = %d, %d, %v", i, v, a, b, ok)
		}
	}
	for len(m.things) > 0 {
		got, ok := h.Take()
		if want, _ := m.take(); got != want || !ok {
			t.Fatalf("P2.1: Take = %d, not %d", got, want)
		}
	}
}

func TestLongWalksAgainstTheModel(t *testing.T) {
	for seed := range int64(10) {
		walk(t, seed, 1, 3, []int64{0, 1})
		walk(t, seed, 12, 20, []int64{low, -1, 0, 1, high})
		walk(t, seed, 60, 70, []int64{3})
		walk(t, seed, 200, 260, []int64{low, low + 1, -5, -4, 0, 9, 10, 11, high - 1, high})
	}
}
