package tests

import (
	"slices"
	"testing"

	"loop.example/g00803/impl"
)

type heapResults struct {
	valid                                                  bool
	pushed, popped, removed, until, ids, sorted            string
	first                                                  impl.Slot
	pushCode, popCode, removeCode, untilCode, sortHeapCode int
}

func callHeapFunctions(h []impl.Slot, s impl.Slot) heapResults {
	var r heapResults
	r.valid = impl.HeapOK(h)
	pushed, code := impl.HeapPush(h, s)
	r.pushed, r.pushCode = shownHeap(pushed), code
	popped, first, code := impl.HeapPop(h)
	r.popped, r.first, r.popCode = shownHeap(popped), first, code
	removed, code := impl.HeapRemove(h, s.Id)
	r.removed, r.removeCode = shownHeap(removed), code
	until, ids, code := impl.HeapUntil(h, s.Key)
	r.until, r.ids, r.untilCode = shownHeap(until), shownTrie(leaf("", ids...)), code
	sorted, code := impl.HeapSort(h)
	r.sorted, r.sortHeapCode = shownHeap(sorted), code
	return r
}

// memorySlots can be added, are there, or cannot be in a heap; their Keys are below, among and above those of the heaps.
func memorySlots() []impl.Slot {
	return heap("0:20 3:1 9:2 5:16 -1:5 0:0 2000000000000:1000000000000 2000000000001:7")
}

// callHeaps takes the same heaps in all calls, so that a call that changes one shows in the next.
func callHeaps() func(s string, i int) heapResults {
	heaps, slots := append(validHeaps(), invalidHeaps()...), memorySlots()
	return func(s string, i int) heapResults {
		return callHeapFunctions(heaps[i%len(heaps)], slots[(i+len(s))%len(slots)])
	}
}

// withSpareSlots is the same list with slots behind its end.
func withSpareSlots(h []impl.Slot) []impl.Slot {
	return append(slices.Clone(h), heap("7:77 8:88 9:99")...)[:len(h)]
}

func TestP1HeapsAreUnchanged(t *testing.T) {
	for _, h := range append(validHeaps(), invalidHeaps()...) {
		given := withSpareSlots(h)
		before := shownHeap(given[:cap(given)])
		for _, s := range memorySlots() {
			callHeapFunctions(given, s)
		}
		if after := shownHeap(given[:cap(given)]); after != before {
			t.Errorf("the heap and its spare capacity %s became %s", before, after)
		}
	}
}

func TestP1ResultsOfHeapsAreNewMemory(t *testing.T) {
	for _, h := range validHeaps() {
		for _, s := range memorySlots() {
			given := withSpareSlots(h)
			pushed, _ := impl.HeapPush(given, s)
			popped, _, _ := impl.HeapPop(given)
			removed, _ := impl.HeapRemove(given, s.Id)
			until, ids, _ := impl.HeapUntil(given, s.Key)
			sorted, _ := impl.HeapSort(given)
			results := []span{spanOf(pushed), spanOf(popped), spanOf(removed), spanOf(until), spanOf(ids), spanOf(sorted)}
			if anyOverlap([]span{spanOf(given)}, results) || spanOf(until).overlaps(spanOf(ids)) {
				t.Errorf("a result for the heap %s and the slot %s shares memory", shownHeap(h), shownSlot(s))
			}
		}
	}
}

func TestP1ResultsOfHeapsAreNewAtEachCall(t *testing.T) {
	for _, h := range validHeaps() {
		for _, s := range memorySlots() {
			given := withSpareSlots(h)
			want := callHeapFunctions(given, s)
			pushed, _ := impl.HeapPush(given, s)
			popped, _, _ := impl.HeapPop(given)
			removed, _ := impl.HeapRemove(given, s.Id)
			until, ids, _ := impl.HeapUntil(given, s.Key)
			sorted, _ := impl.HeapSort(given)
			for _, list := range [][]impl.Slot{pushed, popped, removed, until, sorted} {
				clear(list[:cap(list)])
			}
			clear(ids[:cap(ids)])
			if callHeapFunctions(given, s) != want || !slices.Equal(given, h) {
				t.Errorf("a change of the results for the heap %s and the slot %s changes later ones", shownHeap(h), shownSlot(s))
			}
		}
	}
}

func TestP1HeapsOfNilAndEmptySlices(t *testing.T) {
	for _, s := range memorySlots() {
		if callHeapFunctions(nil, s) != callHeapFunctions([]impl.Slot{}, s) {
			t.Errorf("nil and an empty heap differ for the slot %s", shownSlot(s))
		}
	}
}
