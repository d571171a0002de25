package tests

import (
	"math"
	"math/rand"
	"slices"
	"strconv"
	"strings"
	"testing"

	"loop.example/g00803/impl"
)

func shownSlot(s impl.Slot) string { return strconv.Itoa(s.Key) + ":" + strconv.Itoa(s.Id) }

func shownHeap(h []impl.Slot) string {
	var list []string
	for _, s := range h {
		list = append(list, shownSlot(s))
	}
	return "[" + strings.Join(list, " ") + "]"
}

// heap reads slots of the form key:id.
func heap(text string) []impl.Slot {
	var h []impl.Slot
	for _, word := range strings.Fields(text) {
		key, id, _ := strings.Cut(word, ":")
		s := impl.Slot{}
		s.Key, _ = strconv.Atoi(key)
		s.Id, _ = strconv.Atoi(id)
		h = append(h, s)
	}
	return h
}

// manySlots has Keys and Ids from 1 to count, in order.
func manySlots(count int) []impl.Slot {
	var h []impl.Slot
	for i := range count {
		h = append(h, impl.Slot{Key: i + 1, Id: i + 1})
	}
	return h
}

func compareSlots(a, b impl.Slot) int {
	return slices.Compare([]int{a.Key, a.Id}, []int{b.Key, b.Id})
}

func goesBefore(a, b impl.Slot) bool { return compareSlots(a, b) < 0 }

func slotByRules(s impl.Slot) bool {
	return s.Id >= 1 && s.Id <= 1000000000000 && s.Key >= 0 && s.Key <= 2000000000000
}

func childrenOf(h []impl.Slot, i int) []int {
	var list []int
	for child := range h {
		if child == 2*i+1 || child == 2*i+2 {
			list = append(list, child)
		}
	}
	return list
}

func heapByRules(h []impl.Slot) bool {
	if len(h) > 16 {
		return false
	}
	ids := map[int]bool{}
	for i, s := range h {
		if !slotByRules(s) || ids[s.Id] {
			return false
		}
		ids[s.Id] = true
		for _, child := range childrenOf(h, i) {
			if goesBefore(h[child], s) {
				return false
			}
		}
	}
	return true
}

// smallLists returns all lists of count slots with Keys below keys and the Ids from 1 to count in each order.
func smallLists(count, keys int) [][]impl.Slot {
	lists := [][]impl.Slot{nil}
	for range count {
		var longer [][]impl.Slot
		for _, list := range lists {
			for id := 1; id <= count; id++ {
				if slices.ContainsFunc(list, func(s impl.Slot) bool { return s.Id == id }) {
					continue
				}
				for key := range keys {
					longer = append(longer, append(slices.Clone(list), impl.Slot{Key: key, Id: id}))
				}
			}
		}
		lists = longer
	}
	return lists
}

func smallHeaps() [][]impl.Slot {
	var heaps [][]impl.Slot
	for count := range 6 {
		for _, list := range smallLists(count, 3) {
			if heapByRules(list) {
				heaps = append(heaps, list)
			}
		}
	}
	return heaps
}

// heapOf spreads the slots over the branches of a heap by chance.
func heapOf(slots []impl.Slot, source *rand.Rand) []impl.Slot {
	h := make([]impl.Slot, len(slots))
	var fill func(i int, slots []impl.Slot)
	fill = func(i int, slots []impl.Slot) {
		if len(slots) == 0 {
			return
		}
		first := slices.Index(slots, slices.MinFunc(slots, compareSlots))
		h[i] = slots[first]
		rest := slices.Delete(slices.Clone(slots), first, first+1)
		source.Shuffle(len(rest), func(a, b int) { rest[a], rest[b] = rest[b], rest[a] })
		left := branchSize(2*i+1, len(h))
		fill(2*i+1, rest[:left])
		fill(2*i+2, rest[left:])
	}
	fill(0, slots)
	return h
}

func branchSize(i, count int) int {
	if i >= count {
		return 0
	}
	return 1 + branchSize(2*i+1, count) + branchSize(2*i+2, count)
}

func randomSlot(source *rand.Rand) impl.Slot {
	s := impl.Slot{Key: source.Intn(6), Id: 1 + source.Intn(20)}
	switch source.Intn(12) {
	case 0:
		s.Key = impl.Forever - source.Intn(2)
	case 1:
		s.Id = impl.MaxDecimal - source.Intn(2)
	}
	return s
}

func randomHeap(source *rand.Rand) []impl.Slot {
	var slots []impl.Slot
	for range source.Intn(40) {
		s := randomSlot(source)
		if !hasSlotOf(slots, s.Id) && len(slots) < 16 {
			slots = append(slots, s)
		}
	}
	return heapOf(slots, source)
}

func hasSlotOf(h []impl.Slot, id int) bool {
	return slices.ContainsFunc(h, func(s impl.Slot) bool { return s.Id == id })
}

func validHeaps() [][]impl.Slot {
	list := [][]impl.Slot{
		nil, {}, manySlots(1), manySlots(2), manySlots(3), manySlots(15), manySlots(16),
		heap("0:1"), heap("0:1000000000000"), heap("2000000000000:1"), heap("2000000000000:1000000000000"),
		heap("4:1 4:2"), heap("4:1 4:2 4:3"), heap("4:1 4:3 4:2"), heap("3:9 4:2 4:1"), heap("0:1 9:2 8:3"),
		heap("1:1 5:2 2:3 6:4 7:5 3:6"), heap("1:1 2:2 9:3 3:4 4:5 10:6 11:7"),
	}
	source := rand.New(rand.NewSource(9))
	for range 20 {
		list = append(list, randomHeap(source))
	}
	return list
}

func changedSlot(h []impl.Slot, i int, s impl.Slot) []impl.Slot {
	h = slices.Clone(h)
	h[i] = s
	return h
}

func invalidHeaps() [][]impl.Slot {
	return [][]impl.Slot{
		manySlots(17), manySlots(1000),
		{{}}, heap("0:0"), heap("5:-1"), heap("5:1000000000001"), heap("-1:1"), heap("2000000000001:1"),
		{{Key: math.MinInt, Id: 1}}, {{Key: math.MaxInt, Id: 1}}, {{Key: 1, Id: math.MinInt}}, {{Key: 1, Id: math.MaxInt}},
		heap("5:1 4:2"), heap("4:2 4:1"), heap("4:2 5:1 4:1"), heap("4:2 5:3 4:1"),
		heap("4:3 5:2 3:9"), heap("4:3 3:2 5:1"), heap("4:1 5:1"), heap("4:1 4:1"), heap("4:1 5:2 6:1"),
		changedSlot(manySlots(16), 15, impl.Slot{Key: 7, Id: 16}), changedSlot(manySlots(16), 15, impl.Slot{Key: 16, Id: 15}),
		changedSlot(manySlots(16), 1, impl.Slot{Key: 5, Id: 2}), changedSlot(manySlots(16), 14, impl.Slot{Key: 6, Id: 15}),
		changedSlot(manySlots(16), 13, impl.Slot{Key: 6, Id: 14}), changedSlot(manySlots(16), 15, impl.Slot{Key: 16}),
		changedSlot(manySlots(15), 6, impl.Slot{Key: 2, Id: 7}), changedSlot(manySlots(15), 0, impl.Slot{Key: 3, Id: 1}),
		changedSlot(manySlots(3), 1, impl.Slot{Key: -1, Id: 2}), changedSlot(manySlots(3), 2, impl.Slot{Key: 2000000000001, Id: 3}),
		changedSlot(manySlots(3), 0, impl.Slot{Key: -1, Id: 1}), changedSlot(manySlots(3), 2, impl.Slot{Key: 3, Id: 1000000000001}),
	}
}

func checkHeap(t *testing.T, h []impl.Slot, want bool) {
	t.Helper()
	if got := impl.HeapOK(h); got != want {
		t.Errorf("HeapOK(%s) = %v", shownHeap(h), got)
	}
}

func TestP10ValidHeaps(t *testing.T) {
	for _, h := range validHeaps() {
		checkHeap(t, h, true)
		if !heapByRules(h) {
			t.Errorf("the rules refuse the heap %s", shownHeap(h))
		}
	}
}

func TestP10InvalidHeaps(t *testing.T) {
	for _, h := range invalidHeaps() {
		checkHeap(t, h, false)
		if heapByRules(h) {
			t.Errorf("the rules allow the heap %s", shownHeap(h))
		}
	}
	checkHeap(t, manySlots(impl.MaxList), false)
	checkHeap(t, manySlots(impl.MaxList+1), false)
}

func TestP10SmallListsAgainstRules(t *testing.T) {
	for count := range 6 {
		for _, list := range smallLists(count, 3) {
			checkHeap(t, list, heapByRules(list))
		}
	}
}

func TestP10RandomListsAgainstRules(t *testing.T) {
	source := rand.New(rand.NewSource(10))
	valid := 0
	for range 20000 {
		h := randomHeap(source)
		if len(h) > 0 && source.Intn(2) == 0 {
			h[source.Intn(len(h))] = randomSlot(source)
		}
		if heapByRules(h) {
			valid++
		}
		checkHeap(t, h, heapByRules(h))
	}
	if valid < 8000 || valid > 18000 {
		t.Errorf("%d of the random lists are heaps", valid)
	}
}

// checkFailingHeap checks that all functions return the code alone.
func checkFailingHeap(t *testing.T, h []impl.Slot, s impl.Slot, want int) {
	t.Helper()
	pushed, code := impl.HeapPush(h, s)
	if len(pushed) != 0 || code != want {
		t.Errorf("HeapPush(%s, %s) = %s, %d, want %d", shownHeap(h), shownSlot(s), shownHeap(pushed), code, want)
	}
	rest, first, code := impl.HeapPop(h)
	if len(rest) != 0 || first != (impl.Slot{}) || code != want {
		t.Errorf("HeapPop(%s) = %s, %s, %d, want %d", shownHeap(h), shownHeap(rest), shownSlot(first), code, want)
	}
	removed, code := impl.HeapRemove(h, s.Id)
	if len(removed) != 0 || code != want {
		t.Errorf("HeapRemove(%s, %d) = %s, %d, want %d", shownHeap(h), s.Id, shownHeap(removed), code, want)
	}
	until, ids, code := impl.HeapUntil(h, s.Key)
	if len(until) != 0 || len(ids) != 0 || code != want {
		t.Errorf("HeapUntil(%s, %d) = %s, %v, %d, want %d", shownHeap(h), s.Key, shownHeap(until), ids, code, want)
	}
	sorted, code := impl.HeapSort(h)
	if len(sorted) != 0 || code != want {
		t.Errorf("HeapSort(%s) = %s, %d, want %d", shownHeap(h), shownHeap(sorted), code, want)
	}
}

func TestP10FunctionsOfInvalidHeaps(t *testing.T) {
	for _, h := range append(invalidHeaps(), manySlots(impl.MaxList)) {
		for _, s := range []impl.Slot{{Key: 1, Id: 50}, {Key: 1, Id: 1}, {Key: 9, Id: 4}, {}, {Key: -1, Id: 50}, {Key: math.MaxInt, Id: math.MinInt}} {
			checkFailingHeap(t, h, s, impl.ErrBad)
		}
	}
}

func TestP10FunctionsOfMoreThanMaxListSlots(t *testing.T) {
	noHeap := slices.Repeat(heap("5:1"), impl.MaxList+1)
	for _, h := range [][]impl.Slot{manySlots(impl.MaxList + 1), noHeap, make([]impl.Slot, 2*impl.MaxList)} {
		for _, s := range []impl.Slot{{Key: 1, Id: 9999}, {Key: 1, Id: 1}, {}, {Key: -1, Id: -1}} {
			checkFailingHeap(t, h, s, impl.ErrLong)
		}
	}
}
