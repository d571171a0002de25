package tests

import (
	"math"
	"math/rand"
	"slices"
	"testing"

	"loop.example/g00803/impl"
)

// pathTo returns the indices from the first one to i.
func pathTo(i int) []int {
	if i == 0 {
		return []int{0}
	}
	return append(pathTo((i-1)/2), i)
}

// putOnPath puts s among the slots above i, which are in order, and moves those behind it down.
func putOnPath(h []impl.Slot, i int, s impl.Slot) {
	path := pathTo(i)
	slots := []impl.Slot{s}
	for _, place := range path[:len(path)-1] {
		slots = append(slots, h[place])
	}
	slices.SortFunc(slots, compareSlots)
	for n, place := range path {
		h[place] = slots[n]
	}
}

// putBelow puts s at i, or raises the first of the children to i and puts s below.
func putBelow(h []impl.Slot, i int, s impl.Slot) {
	children := childrenOf(h, i)
	slices.SortFunc(children, func(a, b int) int { return compareSlots(h[a], h[b]) })
	if len(children) == 0 || goesBefore(s, h[children[0]]) {
		h[i] = s
		return
	}
	h[i] = h[children[0]]
	putBelow(h, children[0], s)
}

func pushed(h []impl.Slot, s impl.Slot) []impl.Slot {
	h = append(slices.Clone(h), s)
	putOnPath(h, len(h)-1, s)
	return h
}

func without(h []impl.Slot, i int) []impl.Slot {
	last := len(h) - 1
	rest := slices.Clone(h[:last])
	switch {
	case i == last:
	case i > 0 && goesBefore(h[last], h[(i-1)/2]):
		putOnPath(rest, i, h[last])
	default:
		putBelow(rest, i, h[last])
	}
	return rest
}

func pushByRules(h []impl.Slot, s impl.Slot) ([]impl.Slot, int) {
	switch {
	case !slotByRules(s):
		return nil, impl.ErrBad
	case hasSlotOf(h, s.Id):
		return h, impl.ErrSame
	case len(h) == 16:
		return h, impl.ErrFull
	}
	return pushed(h, s), 0
}

func removeByRules(h []impl.Slot, id int) ([]impl.Slot, int) {
	for i, s := range h {
		if s.Id == id {
			return without(h, i), 0
		}
	}
	return h, impl.ErrNone
}

func untilByRules(h []impl.Slot, key int) ([]impl.Slot, []int) {
	if len(h) == 0 || h[0].Key > key {
		return h, nil
	}
	rest, ids := untilByRules(without(h, 0), key)
	return rest, append([]int{h[0].Id}, ids...)
}

// checkPush and the checks below also make sure that the heap is unchanged and the result a heap.
func checkPush(t *testing.T, h []impl.Slot, s impl.Slot) {
	t.Helper()
	given := slices.Clone(h)
	want, wantCode := pushByRules(h, s)
	got, code := impl.HeapPush(given, s)
	if !slices.Equal(got, want) || code != wantCode {
		t.Errorf("HeapPush(%s, %s) = %s, %d, want %s, %d", shownHeap(h), shownSlot(s), shownHeap(got), code, shownHeap(want), wantCode)
	}
	checkKept(t, "HeapPush", given, h, got)
}

func checkKept(t *testing.T, what string, given, before, result []impl.Slot) {
	t.Helper()
	if !slices.Equal(given, before) || !impl.HeapOK(result) || !heapByRules(result) {
		t.Errorf("%s made %s of the heap %s and returned %s", what, shownHeap(given), shownHeap(before), shownHeap(result))
	}
}

func checkPop(t *testing.T, h []impl.Slot) {
	t.Helper()
	given := slices.Clone(h)
	var want []impl.Slot
	wantFirst, wantCode := impl.Slot{}, impl.ErrNone
	if len(h) > 0 {
		want, wantFirst, wantCode = without(h, 0), slices.MinFunc(h, compareSlots), 0
	}
	got, first, code := impl.HeapPop(given)
	if !slices.Equal(got, want) || first != wantFirst || code != wantCode {
		t.Errorf("HeapPop(%s) = %s, %s, %d, want %s, %s, %d", shownHeap(h), shownHeap(got), shownSlot(first), code, shownHeap(want), shownSlot(wantFirst), wantCode)
	}
	checkKept(t, "HeapPop", given, h, got)
}

func checkHeapRemove(t *testing.T, h []impl.Slot, id int) {
	t.Helper()
	given := slices.Clone(h)
	want, wantCode := removeByRules(h, id)
	got, code := impl.HeapRemove(given, id)
	if !slices.Equal(got, want) || code != wantCode {
		t.Errorf("HeapRemove(%s, %d) = %s, %d, want %s, %d", shownHeap(h), id, shownHeap(got), code, shownHeap(want), wantCode)
	}
	checkKept(t, "HeapRemove", given, h, got)
}

func checkUntil(t *testing.T, h []impl.Slot, key int) {
	t.Helper()
	given := slices.Clone(h)
	want, wantIds := untilByRules(h, key)
	got, ids, code := impl.HeapUntil(given, key)
	if !slices.Equal(got, want) || !slices.Equal(ids, wantIds) || code != 0 {
		t.Errorf("HeapUntil(%s, %d) = %s, %v, %d, want %s, %v", shownHeap(h), key, shownHeap(got), ids, code, shownHeap(want), wantIds)
	}
	checkKept(t, "HeapUntil", given, h, got)
}

func checkHeapSort(t *testing.T, h []impl.Slot) {
	t.Helper()
	given := slices.Clone(h)
	want := slices.SortedFunc(slices.Values(h), compareSlots)
	got, code := impl.HeapSort(given)
	if !slices.Equal(got, want) || code != 0 {
		t.Errorf("HeapSort(%s) = %s, %d, want %s", shownHeap(h), shownHeap(got), code, shownHeap(want))
	}
	checkKept(t, "HeapSort", given, h, got)
}

func TestP10PushedSlots(t *testing.T) {
	for _, v := range []struct {
		h    string
		s    impl.Slot
		want string
	}{
		{"", impl.Slot{Key: 0, Id: 1}, "0:1"},
		{"", impl.Slot{Key: 2000000000000, Id: 1000000000000}, "2000000000000:1000000000000"},
		{"5:1", impl.Slot{Key: 6, Id: 2}, "5:1 6:2"},
		{"5:1", impl.Slot{Key: 5, Id: 2}, "5:1 5:2"},
		{"5:2", impl.Slot{Key: 5, Id: 1}, "5:1 5:2"},
		{"5:1", impl.Slot{Key: 4, Id: 2}, "4:2 5:1"},
		{"1:1 2:2 3:3 4:4 5:5 6:6 7:7", impl.Slot{Key: 8, Id: 8}, "1:1 2:2 3:3 4:4 5:5 6:6 7:7 8:8"},
		{"1:1 2:2 3:3 4:4 5:5 6:6 7:7", impl.Slot{Key: 3, Id: 8}, "1:1 2:2 3:3 3:8 5:5 6:6 7:7 4:4"},
		{"1:1 2:2 3:3 4:4 5:5 6:6 7:7", impl.Slot{Key: 1, Id: 8}, "1:1 1:8 3:3 2:2 5:5 6:6 7:7 4:4"},
		{"1:1 2:2 3:3 4:4 5:5 6:6 7:7", impl.Slot{Key: 0, Id: 8}, "0:8 1:1 3:3 2:2 5:5 6:6 7:7 4:4"},
		{"1:1 2:2 3:3 4:4 5:5 6:6", impl.Slot{Key: 0, Id: 9}, "0:9 2:2 1:1 4:4 5:5 6:6 3:3"},
	} {
		if got, code := impl.HeapPush(heap(v.h), v.s); !slices.Equal(got, heap(v.want)) || code != 0 {
			t.Errorf("HeapPush([%s], %s) = %s, %d, want [%s]", v.h, shownSlot(v.s), shownHeap(got), code, v.want)
		}
		checkPush(t, heap(v.h), v.s)
	}
	if got, code := impl.HeapPush(manySlots(15), impl.Slot{Key: 0, Id: 16}); len(got) != 16 || code != 0 {
		t.Errorf("the last slot gives %s, %d", shownHeap(got), code)
	}
}

func TestP10SlotsThatCannotBePushed(t *testing.T) {
	for _, v := range []struct {
		h    []impl.Slot
		s    impl.Slot
		code int
	}{
		{nil, impl.Slot{}, impl.ErrBad},
		{nil, impl.Slot{Key: 0, Id: 0}, impl.ErrBad},
		{nil, impl.Slot{Key: 0, Id: 1000000000001}, impl.ErrBad},
		{nil, impl.Slot{Key: -1, Id: 1}, impl.ErrBad},
		{nil, impl.Slot{Key: 2000000000001, Id: 1}, impl.ErrBad},
		{nil, impl.Slot{Key: math.MaxInt, Id: 1}, impl.ErrBad},
		{nil, impl.Slot{Key: 1, Id: math.MinInt}, impl.ErrBad},
		{manySlots(16), impl.Slot{Key: -1, Id: 3}, impl.ErrBad},
		{manySlots(16), impl.Slot{Key: 3, Id: 0}, impl.ErrBad},
		{manySlots(16), impl.Slot{Key: -1, Id: 17}, impl.ErrBad},
		{manySlots(3), impl.Slot{Key: 2000000000001, Id: 2}, impl.ErrBad},
		{manySlots(3), impl.Slot{Key: 2, Id: 2}, impl.ErrSame},
		{manySlots(3), impl.Slot{Key: 0, Id: 2}, impl.ErrSame},
		{manySlots(3), impl.Slot{Key: 9, Id: 1}, impl.ErrSame},
		{manySlots(16), impl.Slot{Key: 16, Id: 16}, impl.ErrSame},
		{manySlots(16), impl.Slot{Key: 0, Id: 16}, impl.ErrSame},
		{manySlots(16), impl.Slot{Key: 0, Id: 17}, impl.ErrFull},
		{manySlots(16), impl.Slot{Key: 2000000000000, Id: 1000000000000}, impl.ErrFull},
	} {
		want := v.h
		if v.code == impl.ErrBad {
			want = nil
		}
		if got, code := impl.HeapPush(v.h, v.s); !slices.Equal(got, want) || code != v.code {
			t.Errorf("HeapPush(%s, %s) = %s, %d, want %s, %d", shownHeap(v.h), shownSlot(v.s), shownHeap(got), code, shownHeap(want), v.code)
		}
		checkPush(t, v.h, v.s)
	}
}

func TestP10PoppedSlots(t *testing.T) {
	for _, v := range []struct {
		h     string
		want  string
		first impl.Slot
		code  int
	}{
		{"", "", impl.Slot{}, impl.ErrNone},
		{"0:1", "", impl.Slot{Key: 0, Id: 1}, 0},
		{"5:2 7:1", "7:1", impl.Slot{Key: 5, Id: 2}, 0},
		{"5:2 7:1 6:3", "6:3 7:1", impl.Slot{Key: 5, Id: 2}, 0},
		{"1:5 3:2 2:7 5:1 3:4 9:6 8:3", "2:7 3:2 8:3 5:1 3:4 9:6", impl.Slot{Key: 1, Id: 5}, 0},
		{"1:1 2:2 3:3 4:4 5:5 6:6 7:7", "2:2 4:4 3:3 7:7 5:5 6:6", impl.Slot{Key: 1, Id: 1}, 0},
		{"1:1 1:3 1:2 1:5 1:4", "1:2 1:3 1:4 1:5", impl.Slot{Key: 1, Id: 1}, 0},
	} {
		got, first, code := impl.HeapPop(heap(v.h))
		if !slices.Equal(got, heap(v.want)) || first != v.first || code != v.code {
			t.Errorf("HeapPop([%s]) = %s, %s, %d, want [%s], %s, %d", v.h, shownHeap(got), shownSlot(first), code, v.want, shownSlot(v.first), v.code)
		}
		checkPop(t, heap(v.h))
	}
}

func TestP10RemovedSlots(t *testing.T) {
	for _, v := range []struct {
		h    string
		id   int
		want string
		code int
	}{
		{"", 1, "", impl.ErrNone},
		{"5:1", 1, "", 0},
		{"5:1", 2, "5:1", impl.ErrNone},
		{"5:1", 0, "5:1", impl.ErrNone},
		{"5:1", math.MinInt, "5:1", impl.ErrNone},
		{"5:1", math.MaxInt, "5:1", impl.ErrNone},
		{"5:1 6:2", 1, "6:2", 0},
		{"5:1 6:2", 2, "5:1", 0},
		{"5:1 6:2", 6, "5:1 6:2", impl.ErrNone},
		{"1:1 2:2 3:3", 1, "2:2 3:3", 0},
		{"1:1 2:2 3:3", 2, "1:1 3:3", 0},
		// The replacement 3:6 rises above 5:2.
		{"1:1 5:2 2:3 6:4 7:5 3:6", 4, "1:1 3:6 2:3 5:2 7:5", 0},
		{"1:1 5:2 2:3 6:4 7:5 5:6", 4, "1:1 5:2 2:3 5:6 7:5", 0},
		{"1:1 5:6 2:3 6:4 7:5 5:2", 4, "1:1 5:2 2:3 5:6 7:5", 0},
		// It rises over two slots.
		{"1:1 9:2 2:3 10:4 11:5 3:6 4:7 12:8 13:9 14:10 15:11 5:12", 8, "1:1 5:12 2:3 9:2 11:5 3:6 4:7 10:4 13:9 14:10 15:11", 0},
		// The replacement 9:7 sinks below the first of the children.
		{"1:1 2:2 3:3 4:4 5:5 8:6 9:7", 2, "1:1 4:4 3:3 9:7 5:5 8:6", 0},
		{"1:1 2:2 3:3 5:4 4:5 8:6 9:7", 2, "1:1 4:5 3:3 5:4 9:7 8:6", 0},
		{"1:1 2:2 3:3 4:5 4:4 8:6 9:7", 2, "1:1 4:4 3:3 4:5 9:7 8:6", 0},
		// It stays.
		{"1:1 2:2 3:3 9:4 8:5 8:6 4:7", 2, "1:1 4:7 3:3 9:4 8:5 8:6", 0},
	} {
		got, code := impl.HeapRemove(heap(v.h), v.id)
		if !slices.Equal(got, heap(v.want)) || code != v.code {
			t.Errorf("HeapRemove([%s], %d) = %s, %d, want [%s], %d", v.h, v.id, shownHeap(got), code, v.want, v.code)
		}
		checkHeapRemove(t, heap(v.h), v.id)
	}
}

func TestP10SlotsUntilAKey(t *testing.T) {
	h := "1:5 3:2 2:7 5:1 3:4 9:6 8:3"
	for _, v := range []struct {
		h    string
		key  int
		want string
		ids  []int
	}{
		{"", 5, "", nil},
		{"", math.MinInt, "", nil},
		{"", math.MaxInt, "", nil},
		{h, math.MinInt, h, nil},
		{h, -1, h, nil},
		{h, 0, h, nil},
		{h, 1, "2:7 3:2 8:3 5:1 3:4 9:6", []int{5}},
		{h, 3, "5:1 9:6 8:3", []int{5, 7, 2, 4}},
		{h, 4, "5:1 9:6 8:3", []int{5, 7, 2, 4}},
		{h, 8, "9:6", []int{5, 7, 2, 4, 1, 3}},
		{h, 9, "", []int{5, 7, 2, 4, 1, 3, 6}},
		{h, math.MaxInt, "", []int{5, 7, 2, 4, 1, 3, 6}},
		{"0:1 2000000000000:2", -1, "0:1 2000000000000:2", nil},
		{"0:1 2000000000000:2", 0, "2000000000000:2", []int{1}},
		{"0:1 2000000000000:2", 1999999999999, "2000000000000:2", []int{1}},
		{"0:1 2000000000000:2", 2000000000000, "", []int{1, 2}},
	} {
		got, ids, code := impl.HeapUntil(heap(v.h), v.key)
		if !slices.Equal(got, heap(v.want)) || !slices.Equal(ids, v.ids) || code != 0 {
			t.Errorf("HeapUntil([%s], %d) = %s, %v, %d, want [%s], %v", v.h, v.key, shownHeap(got), ids, code, v.want, v.ids)
		}
		checkUntil(t, heap(v.h), v.key)
	}
}

func TestP10SortedSlots(t *testing.T) {
	for _, v := range [][2]string{
		{"", ""},
		{"5:1", "5:1"},
		{"5:1 7:2 6:3", "5:1 6:3 7:2"},
		{"4:1 4:3 4:2", "4:1 4:2 4:3"},
		{"4:1 5:2 4:9 5:7 5:3 4:10 4:12", "4:1 4:9 4:10 4:12 5:2 5:3 5:7"},
		{"0:1 2000000000000:2 1:1000000000000", "0:1 1:1000000000000 2000000000000:2"},
	} {
		if got, code := impl.HeapSort(heap(v[0])); !slices.Equal(got, heap(v[1])) || code != 0 {
			t.Errorf("HeapSort([%s]) = %s, %d, want [%s]", v[0], shownHeap(got), code, v[1])
		}
		checkHeapSort(t, heap(v[0]))
	}
}

// checkAllSteps makes every step that the heap allows, and near ones.
func checkAllSteps(t *testing.T, h []impl.Slot) {
	t.Helper()
	checkPop(t, h)
	checkHeapSort(t, h)
	ids, keys := []int{0, 7, impl.MaxDecimal + 1}, []int{-1, math.MaxInt}
	for _, s := range h {
		ids, keys = append(ids, s.Id), append(keys, s.Key-1, s.Key, s.Key+1)
	}
	for _, id := range ids {
		checkHeapRemove(t, h, id)
	}
	for _, key := range keys {
		checkUntil(t, h, key)
		for _, id := range []int{1, 9, 21, impl.MaxDecimal, 0} {
			checkPush(t, h, impl.Slot{Key: key, Id: id})
		}
	}
}

func TestP10StepsOfSmallHeaps(t *testing.T) {
	for _, h := range smallHeaps() {
		checkAllSteps(t, h)
	}
}

func TestP10StepsOfRandomHeaps(t *testing.T) {
	source := rand.New(rand.NewSource(11))
	for range 2000 {
		checkAllSteps(t, randomHeap(source))
	}
	for _, h := range append(validHeaps(), manySlots(16)) {
		checkAllSteps(t, h)
	}
}

func TestP10AHeapYieldsItsSlotsInOrder(t *testing.T) {
	source := rand.New(rand.NewSource(12))
	for range 500 {
		h := randomHeap(source)
		want := slices.SortedFunc(slices.Values(h), compareSlots)
		for rest := h; len(want) > 0; want = want[1:] {
			next, first, code := impl.HeapPop(rest)
			if first != want[0] || code != 0 {
				t.Errorf("HeapPop(%s) yields %s, %d, want %s", shownHeap(rest), shownSlot(first), code, shownSlot(want[0]))
			}
			rest = next
		}
	}
}

func TestP10HeapUntilYieldsExactlyTheSlotsUpToTheKey(t *testing.T) {
	source := rand.New(rand.NewSource(13))
	for range 500 {
		h := randomHeap(source)
		for _, key := range []int{-1, 0, 1, 2, 3, 4, 5, impl.Forever - 1, impl.Forever} {
			rest, ids, _ := impl.HeapUntil(h, key)
			for _, s := range h {
				if slices.Contains(ids, s.Id) != (s.Key <= key) || slices.Contains(rest, s) != (s.Key > key) {
					t.Errorf("HeapUntil(%s, %d) = %s, %v: wrong for %s", shownHeap(h), key, shownHeap(rest), ids, shownSlot(s))
				}
			}
			if len(ids)+len(rest) != len(h) {
				t.Errorf("HeapUntil(%s, %d) = %s, %v: other slots", shownHeap(h), key, shownHeap(rest), ids)
			}
		}
	}
}

func TestP10RandomStepsAgainstRules(t *testing.T) {
	source := rand.New(rand.NewSource(14))
	for range 50 {
		var h []impl.Slot
		for range 200 {
			s := randomSlot(source)
			switch n := source.Intn(10); {
			case n < 6:
				checkPush(t, h, s)
				h, _ = impl.HeapPush(h, s)
			case n < 8:
				checkHeapRemove(t, h, s.Id)
				h, _ = impl.HeapRemove(h, s.Id)
			case n < 9:
				checkPop(t, h)
				h, _, _ = impl.HeapPop(h)
			case s.Key < 2:
				checkUntil(t, h, s.Key)
				h, _, _ = impl.HeapUntil(h, s.Key)
			}
		}
	}
}
