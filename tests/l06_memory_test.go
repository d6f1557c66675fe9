package tests

import (
	"math"
	"reflect"
	"slices"
	"testing"

	"loop.example/g00238/impl"
)

func sameWrite(a impl.Write, b impl.Write) bool {
	return a.V == b.V && slices.Equal(a.View, b.View)
}

func sameWrites(a []impl.Write, b []impl.Write) bool { return slices.EqualFunc(a, b, sameWrite) }

// sameMemory holds an empty list and nil for the same.
func sameMemory(a impl.Memory, b impl.Memory) bool {
	return slices.EqualFunc(a.Cells, b.Cells, sameWrites)
}

func cloneMemory(m impl.Memory) impl.Memory {
	d := impl.Memory{Cells: slices.Clone(m.Cells)}
	for cell := range d.Cells {
		d.Cells[cell] = slices.Clone(d.Cells[cell])
		for i := range d.Cells[cell] {
			d.Cells[cell][i].View = slices.Clone(d.Cells[cell][i].View)
		}
	}
	return d
}

// viewRight is the document's ViewOk once more: as many as cells, and each the number of one of its writes.
func viewRight(m impl.Memory, v []int) bool {
	for cell, n := range v {
		if cell >= len(m.Cells) || n < 0 || len(m.Cells[cell]) <= n {
			return false
		}
	}
	return len(v) == len(m.Cells)
}

func memoryRight(m impl.Memory) bool {
	for _, list := range m.Cells {
		if len(list) == 0 || len(list) > 4000 {
			return false
		}
		if slices.ContainsFunc(list, func(w impl.Write) bool { return !viewRight(m, w.View) }) {
			return false
		}
	}
	return len(m.Cells) == 24
}

func coreRight(m impl.Memory, view []int, cell int) bool {
	return memoryRight(m) && viewRight(m, view) && cell >= 0 && cell < 24
}

func joinWanted(a []int, b []int) []int {
	out := []int{}
	for i := 0; i < len(a) && i < len(b); i++ {
		if a[i] > b[i] {
			out = append(out, a[i])
		} else {
			out = append(out, b[i])
		}
	}
	return out
}

func knowsWanted(a []int, b []int) bool {
	for i := 0; i < len(a) && i < len(b); i++ {
		if a[i] < b[i] {
			return false
		}
	}
	return len(a) == len(b)
}

// loadWanted is the document's Load once more: it goes back from the last write, one by one, as far as it may.
func loadWanted(m impl.Memory, view []int, cell int, late int, hold bool) (int, []int) {
	if !coreRight(m, view, cell) {
		return 0, view
	}
	n := len(m.Cells[cell]) - 1
	for ; late > 0 && n > view[cell]; late-- {
		n--
	}
	then := slices.Clone(view)
	then[cell] = n
	if hold {
		then = joinWanted(then, m.Cells[cell][n].View)
	}
	return m.Cells[cell][n].V, then
}

func storeWanted(m impl.Memory, view []int, cell int, v int, letGo bool) (impl.Memory, []int) {
	if !coreRight(m, view, cell) || len(m.Cells[cell]) == 4000 {
		return m, view
	}
	then, d := slices.Clone(view), cloneMemory(m)
	then[cell] = len(m.Cells[cell])
	w := impl.Write{V: v, View: slices.Clone(then)}
	for i := range w.View {
		if !letGo && i != cell {
			w.View[i] = 0
		}
	}
	d.Cells[cell] = append(d.Cells[cell], w)
	return d, then
}

func swapWanted(m impl.Memory, view []int, cell int, v int) (impl.Memory, []int, int) {
	if !coreRight(m, view, cell) || len(m.Cells[cell]) == 4000 {
		return m, view, 0
	}
	was, then := loadWanted(m, view, cell, 0, true)
	d, then := storeWanted(m, then, cell, v, true)
	return d, then, was
}

// loads, stores and swaps hold one call against what is wanted, and answer it.
func loads(t *testing.T, m impl.Memory, view []int, cell int, late int, hold bool) (int, []int) {
	t.Helper()
	got, then := impl.Load(m, view, cell, late, hold)
	if v, want := loadWanted(m, view, cell, late, hold); got != v || !slices.Equal(then, want) {
		t.Errorf("load of %v late %v, %v, by %v: %v %v, not %v %v", cell, late, hold, view, got, then, v, want)
	}
	return got, then
}

func stores(t *testing.T, m impl.Memory, view []int, cell int, v int, letGo bool) (impl.Memory, []int) {
	t.Helper()
	got, then := impl.Store(m, view, cell, v, letGo)
	if want, wanted := storeWanted(m, view, cell, v, letGo); !sameMemory(got, want) || !slices.Equal(then, wanted) {
		t.Errorf("store of %v to %v, %v, by %v: %v, not %v", v, cell, letGo, view, then, wanted)
	}
	return got, then
}

func swaps(t *testing.T, m impl.Memory, view []int, cell int, v int) (impl.Memory, []int, int) {
	t.Helper()
	got, then, was := impl.Swap(m, view, cell, v)
	if want, wanted, told := swapWanted(m, view, cell, v); !sameMemory(got, want) || !slices.Equal(then, wanted) || was != told {
		t.Errorf("swap of %v to %v, by %v: %v %v, not %v %v", v, cell, view, then, was, wanted, told)
	}
	return got, then, was
}

// viewOf is a view that knows of some cells, by pairs of a cell and a number.
func viewOf(pairs ...[2]int) []int {
	v := make([]int, 24)
	for _, pair := range pairs {
		v[pair[0]] = pair[1]
	}
	return v
}

// lastView is the view that has the last write of each cell.
func lastView(m impl.Memory) []int {
	var v []int
	for _, list := range m.Cells {
		v = append(v, len(list)-1)
	}
	return v
}

// writtenTo is a memory with so many writes in a cell, 10 times their number each, none of them let go.
func writtenTo(cell int, count int) impl.Memory {
	m := impl.MemoryNew()
	for n := 1; n < count; n++ {
		m.Cells[cell] = append(m.Cells[cell], impl.Write{V: 10 * n, View: viewOf([2]int{cell, n})})
	}
	return m
}

// below picks a number from 0 on, below count, always the same ones from the same start.
func (k *picker) below(count int) int {
	for {
		if n := k.pick(count); n >= 0 && n < count {
			return n
		}
	}
}

// oddMemory is a memory that nobody wrote step by step: any numbers, the first ones too, and views of any of its writes.
func oddMemory(seed picker) impl.Memory {
	m := impl.Memory{Cells: make([][]impl.Write, 24)}
	for cell := range m.Cells {
		m.Cells[cell] = make([]impl.Write, 1+seed.below(5))
	}
	for _, list := range m.Cells {
		for i := range list {
			list[i] = impl.Write{V: seed.below(2000) - 1000, View: oddView(m, &seed)}
		}
	}
	return m
}

func oddView(m impl.Memory, seed *picker) []int {
	var v []int
	for _, list := range m.Cells {
		v = append(v, seed.below(len(list)))
	}
	return v
}

func TestNumbersOfChapterSix(t *testing.T) {
	if impl.Cells != 24 || impl.MaxWrites != 4000 {
		t.Error(impl.Cells, impl.MaxWrites)
	}
}

func TestMemoryNewAsTold(t *testing.T) {
	m := impl.MemoryNew()
	if len(m.Cells) != 24 || !impl.MemoryOk(m) || !impl.ViewOk(m, make([]int, 24)) {
		t.Fatal(m)
	}
	for cell, list := range m.Cells {
		if len(list) != 1 || list[0].V != 0 || !slices.Equal(list[0].View, make([]int, 24)) {
			t.Error(cell, list)
		}
		for late := -2; late < 3; late++ {
			if v, then := impl.Load(m, make([]int, 24), cell, late, true); v != 0 || !slices.Equal(then, make([]int, 24)) {
				t.Error("what was never written", cell, late, v, then)
			}
		}
	}
}

// What is written is read, by whoever knows all and by whoever asks for the last one.
func TestWhatIsWrittenIsRead(t *testing.T) {
	for _, cell := range []int{0, 1, 12, 22, 23} {
		for _, v := range []int{7, -7, 0, 1, math.MaxInt, math.MinInt} {
			for _, letGo := range []bool{false, true} {
				m, mine := stores(t, impl.MemoryNew(), make([]int, 24), cell, v, letGo)
				if !slices.Equal(mine, viewOf([2]int{cell, 1})) || len(m.Cells[cell]) != 2 || !impl.MemoryOk(m) || !impl.ViewOk(m, mine) {
					t.Error("stored", cell, v, mine)
				}
				got, _ := loads(t, m, mine, cell, math.MaxInt, false)
				last, then := loads(t, m, make([]int, 24), cell, 0, false)
				if got != v || last != v || !slices.Equal(then, mine) {
					t.Error("read", cell, v, got, last, then)
				}
				for other := range 24 {
					if w, _ := loads(t, m, mine, other, 0, true); other != cell && w != 0 {
						t.Error("another cell", cell, other, w)
					}
				}
			}
		}
	}
}

// Ten writes, the numbers 0 to 90: what is read by who knows little and by who knows much.
func TestLoadThatIsLate(t *testing.T) {
	rows := []struct{ known, late, want int }{
		{0, 0, 90}, {0, 1, 80}, {0, 5, 40}, {0, 8, 10}, {0, 9, 0}, {0, 10, 0}, {0, 11, 0}, {0, math.MaxInt, 0},
		{0, -1, 90}, {0, -9, 90}, {0, math.MinInt, 90}, {0, math.MinInt + 1, 90},
		{4, 0, 90}, {4, 1, 80}, {4, 4, 50}, {4, 5, 40}, {4, 6, 40}, {4, 9, 40}, {4, 4000, 40}, {4, math.MaxInt, 40}, {4, -4, 90},
		{8, 0, 90}, {8, 1, 80}, {8, 2, 80}, {8, 9, 80}, {8, math.MaxInt, 80}, {8, math.MinInt, 90},
		{9, 0, 90}, {9, 1, 90}, {9, 9, 90}, {9, math.MaxInt, 90}, {9, -1, 90}, {9, math.MinInt, 90},
	}
	for _, cell := range []int{0, 11, 23} {
		m := writtenTo(cell, 10)
		for _, row := range rows {
			view := viewOf([2]int{cell, row.known})
			for _, hold := range []bool{false, true} {
				v, then := impl.Load(m, view, cell, row.late, hold)
				if v != row.want || !slices.Equal(then, viewOf([2]int{cell, row.want / 10})) {
					t.Error(cell, row, hold, v, then)
				}
			}
		}
	}
}

// What a view knows of other cells does not turn what is read of this one.
func TestLateIsOfItsCell(t *testing.T) {
	m := writtenTo(5, 10)
	for _, cell := range []int{4, 6} {
		for n := 1; n < 10; n++ {
			m.Cells[cell] = append(m.Cells[cell], impl.Write{V: -n, View: viewOf()})
		}
	}
	view := viewOf([2]int{4, 9}, [2]int{5, 2}, [2]int{6, 8})
	v, then := loads(t, m, view, 5, 100, false)
	w, _ := loads(t, m, view, 6, 100, false)
	x, _ := loads(t, m, view, 4, 3, true)
	if v != 20 || w != -8 || x != -9 || !slices.Equal(then, view) {
		t.Error(v, w, x, then)
	}
}

// A number that was written twice is told by its write, not by its number.
func TestSameNumberTwice(t *testing.T) {
	m := impl.MemoryNew()
	for _, v := range []int{5, 6, 5, 5} {
		m, _ = stores(t, m, lastView(m), 3, v, true)
	}
	for late, n := range []int{4, 3, 2, 1, 0} {
		if _, then := loads(t, m, make([]int, 24), 3, late, false); then[3] != n {
			t.Error(late, then[3])
		}
	}
}

// Promise 6: whoever gets hold of what was let go knows what was ahead of it. Neither is enough without the other.
func TestLetGoAndGotHoldOf(t *testing.T) {
	for _, letGo := range []bool{false, true} {
		for _, hold := range []bool{false, true} {
			m, a := stores(t, impl.MemoryNew(), make([]int, 24), 0, 7, false)
			m, a = stores(t, m, a, 23, 8, false)
			m, a = stores(t, m, a, 10, 1, letGo)
			v, b := loads(t, m, make([]int, 24), 10, 0, hold)
			first, _ := loads(t, m, b, 0, 9, false)
			last, _ := loads(t, m, b, 23, 9, false)
			want := [2]int{}
			if letGo && hold {
				want = [2]int{7, 8}
			}
			if v != 1 || [2]int{first, last} != want || impl.Knows(b, a) != (letGo && hold) || !impl.Knows(a, b) {
				t.Error(letGo, hold, v, first, last, b)
			}
		}
	}
}

// What is let go tells of what its core had read, too, and of no more; what was written behind it is not known.
func TestLetGoTellsWhatWasKnown(t *testing.T) {
	m := writtenTo(2, 6)
	_, a := loads(t, m, make([]int, 24), 2, 3, false)
	m, a = stores(t, m, a, 9, 1, true)
	m, a = stores(t, m, a, 3, 44, true)
	_, b := loads(t, m, make([]int, 24), 9, 0, true)
	if !slices.Equal(b, viewOf([2]int{2, 2}, [2]int{9, 1})) || !slices.Equal(a, viewOf([2]int{2, 2}, [2]int{9, 1}, [2]int{3, 1})) {
		t.Error(a, b)
	}
	v, _ := loads(t, m, b, 2, 100, false)
	w, _ := loads(t, m, b, 3, 100, false)
	if v != 20 || w != 0 {
		t.Error(v, w)
	}
}

// Who gets hold of an older write knows what was ahead of that one alone.
func TestHoldOfAnOlderWrite(t *testing.T) {
	m, a := impl.MemoryNew(), make([]int, 24)
	for n := 1; n < 5; n++ {
		m, a = stores(t, m, a, 0, 100*n, false)
		m, a = stores(t, m, a, 1, n, true)
	}
	for late := range 7 {
		n := max(4-late, 0)
		v, b := impl.Load(m, make([]int, 24), 1, late, true)
		if v != n || !slices.Equal(b, viewOf([2]int{0, n}, [2]int{1, n})) {
			t.Error(late, v, b)
		}
		if x, _ := impl.Load(m, b, 0, 100, false); x != 100*n {
			t.Error("ahead", late, x)
		}
	}
}

// A view that knows more than the write's View keeps that.
func TestHoldForgetsNothing(t *testing.T) {
	m := impl.MemoryNew()
	m.Cells[0] = append(m.Cells[0], impl.Write{V: 1, View: viewOf([2]int{0, 1}, [2]int{1, 2}, [2]int{2, 1})})
	for _, cell := range []int{1, 2, 3} {
		for n := 1; n < 4; n++ {
			m.Cells[cell] = append(m.Cells[cell], impl.Write{V: n, View: viewOf([2]int{cell, n})})
		}
	}
	view := viewOf([2]int{1, 1}, [2]int{2, 3}, [2]int{3, 2})
	_, held := loads(t, m, view, 0, 0, true)
	_, loose := loads(t, m, view, 0, 0, false)
	if !slices.Equal(held, viewOf([2]int{0, 1}, [2]int{1, 2}, [2]int{2, 3}, [2]int{3, 2})) || !slices.Equal(loose, viewOf([2]int{0, 1}, [2]int{1, 1}, [2]int{2, 3}, [2]int{3, 2})) {
		t.Error(held, loose)
	}
}

// The View of a write: all that its core knows then, if it is let go, else noughts but for itself.
func TestViewsOfWrites(t *testing.T) {
	m := writtenTo(7, 4)
	view := viewOf([2]int{7, 2})
	for _, cell := range []int{0, 7, 23} {
		at := len(m.Cells[cell])
		let, a := stores(t, m, view, cell, 5, true)
		not, b := stores(t, m, view, cell, 5, false)
		then := slices.Clone(view)
		then[cell] = at
		if !slices.Equal(let.Cells[cell][at].View, then) || !slices.Equal(not.Cells[cell][at].View, viewOf([2]int{cell, at})) {
			t.Error(cell, let.Cells[cell][at], not.Cells[cell][at])
		}
		if !slices.Equal(a, then) || !slices.Equal(b, then) || let.Cells[cell][at].V != 5 || not.Cells[cell][at].V != 5 {
			t.Error("views", cell, a, b)
		}
	}
}

// A write goes behind all of its cell, though its core had not seen the last ones.
func TestStoreGoesBehindAll(t *testing.T) {
	for _, cell := range []int{0, 23} {
		for known := range 6 {
			m, then := stores(t, writtenTo(cell, 6), viewOf([2]int{cell, known}), cell, 77, known%2 == 0)
			if then[cell] != 6 || len(m.Cells[cell]) != 7 || m.Cells[cell][6].V != 77 {
				t.Error(cell, known, then)
			}
			if v, _ := loads(t, m, then, cell, 100, false); v != 77 {
				t.Error("one's own write is not read", cell, known, v)
			}
		}
	}
}

// A swap reads the last write, gets hold of it, and lets go of its own.
func TestSwapAsTold(t *testing.T) {
	for _, cell := range []int{0, 8, 23} {
		m, a := stores(t, impl.MemoryNew(), make([]int, 24), 4, 6, false)
		m, _ = stores(t, m, a, cell, 31, true)
		m, b, was := swaps(t, m, make([]int, 24), cell, 32)
		if want := viewOf([2]int{4, 1}, [2]int{cell, 2}); was != 31 || !slices.Equal(b, want) || !sameWrite(m.Cells[cell][2], impl.Write{V: 32, View: want}) {
			t.Error("first", cell, was, b, m.Cells[cell])
		}
		m, c, was := swaps(t, m, viewOf([2]int{cell, 1}), cell, 33)
		if x, _ := loads(t, m, c, 4, 9, false); was != 32 || x != 6 || c[cell] != 3 {
			t.Error("second", cell, was, x, c)
		}
	}
	m := writtenTo(3, 5)
	_, c, was := swaps(t, m, make([]int, 24), 3, 1)
	if was != 40 || !slices.Equal(c, viewOf([2]int{3, 5})) || len(m.Cells[3]) != 5 {
		t.Error("what was not let go", was, c)
	}
}

// Under a lock of swaps each reads what the one ahead wrote, and knows all that it knew.
func TestSwapsInARow(t *testing.T) {
	m, views, all := impl.MemoryNew(), [3][]int{make([]int, 24), make([]int, 24), make([]int, 24)}, make([]int, 24)
	next := picker(17)
	for turn := range 60 {
		who := next.below(3)
		var was, count int
		m, views[who], was = swaps(t, m, views[who], 5, turn+1)
		if was != turn || !impl.Knows(views[who], all) {
			t.Fatal("turn", turn, was, views[who], all)
		}
		count, views[who] = loads(t, m, views[who], 6, next.below(9), false)
		if count != turn {
			t.Fatal("count", turn, count)
		}
		m, views[who] = stores(t, m, views[who], 6, count+1, false)
		m, views[who] = stores(t, m, views[who], 5, turn+1, true)
		all = views[who]
	}
}

func TestCellsThatAreNone(t *testing.T) {
	m := oddMemory(7)
	view := lastView(m)
	for _, cell := range []int{-1, -2, -24, 24, 25, 48, math.MinInt, math.MaxInt} {
		for _, late := range []int{-1, 0, 1} {
			for _, flag := range []bool{false, true} {
				if v, then := impl.Load(m, view, cell, late, flag); v != 0 || !slices.Equal(then, view) {
					t.Error("load", cell, v, then)
				}
				if d, then := impl.Store(m, view, cell, late, flag); !sameMemory(d, m) || !slices.Equal(then, view) {
					t.Error("store", cell, then)
				}
			}
		}
		if d, then, was := impl.Swap(m, view, cell, 3); !sameMemory(d, m) || !slices.Equal(then, view) || was != 0 {
			t.Error("swap", cell, then, was)
		}
	}
}

// Of MaxWrites writes but one there is room for one more; then there is none in that cell, and room in the others.
func TestCellsThatAreFull(t *testing.T) {
	for _, cell := range []int{0, 13, 23} {
		near := writtenTo(cell, 3999)
		view := viewOf([2]int{cell, 3000})
		full, then := stores(t, near, view, cell, 5, true)
		swapped, held, was := swaps(t, near, view, cell, 6)
		for _, m := range []impl.Memory{full, swapped} {
			if len(m.Cells[cell]) != 4000 || !impl.MemoryOk(m) || !impl.ViewOk(m, then) {
				t.Fatal("one fewer", cell, len(m.Cells[cell]))
			}
		}
		if then[cell] != 3999 || held[cell] != 3999 || was != 39980 {
			t.Error("one fewer", cell, then, held, was)
		}
		for _, letGo := range []bool{false, true} {
			if d, same := impl.Store(full, view, cell, 7, letGo); !sameMemory(d, full) || !slices.Equal(same, view) {
				t.Error("store into none", cell, same)
			}
		}
		if d, same, was := impl.Swap(full, view, cell, 7); !sameMemory(d, full) || !slices.Equal(same, view) || was != 0 {
			t.Error("swap into none", cell, same, was)
		}
		if v, same := loads(t, full, view, cell, 0, true); v != 5 || same[cell] != 3999 {
			t.Error("load of the last", cell, v)
		}
		if v, _ := loads(t, full, view, cell, 4000, false); v != 30000 {
			t.Error("load of what is known", cell, v)
		}
		other := (cell + 1) % 24
		if d, more := stores(t, full, view, other, 7, true); len(d.Cells[other]) != 2 || more[other] != 1 {
			t.Error("another cell", other, more)
		}
		if d, more, _ := swaps(t, full, view, other, 7); len(d.Cells[other]) != 2 || more[other] != 1 {
			t.Error("another cell", other, more)
		}
	}
}

func TestFilledOneByOne(t *testing.T) {
	m, view := writtenTo(0, 3990), make([]int, 24)
	for n := 3990; n < 4003; n++ {
		was := 0
		if n%2 == 0 {
			m, view, was = impl.Swap(m, view, 0, n)
		} else {
			m, view = impl.Store(m, view, 0, n, false)
		}
		if size := min(n+1, 4000); len(m.Cells[0]) != size || view[0] != size-1 || !impl.MemoryOk(m) {
			t.Fatal(n, len(m.Cells[0]), view[0])
		}
		if (was != 0) != (n%2 == 0 && n < 4000) {
			t.Error("was", n, was)
		}
	}
}

// someViews are views of different lengths, one that has nothing among them.
func someViews() [][]int {
	long := make([]int, 24)
	for i := range long {
		long[i] = i * i % 7
	}
	return [][]int{nil, {}, {0}, {1}, {-1}, {5, 2}, {2, 5}, {0, 0}, {1, 5, 2}, {3, 4}, {3, 5}, {3, 5, 2}, {1, 2, 3, 4}, {4, 3, 2, 1}, {4, 3, 3, 4},
		{math.MinInt, math.MaxInt}, {math.MaxInt, math.MinInt}, {math.MinInt, math.MinInt, math.MinInt}, make([]int, 24), long, slices.Repeat([]int{6}, 24), slices.Repeat([]int{3}, 25), make([]int, 23)}
}

func TestJoinRows(t *testing.T) {
	rows := [][3][]int{{{1, 5, 2}, {3, 4}, {3, 5}}, {{3, 4}, {1, 5, 2}, {3, 5}}, {{1, 2}, {1, 2}, {1, 2}}, {{0, 9, 0}, {9, 0, 9}, {9, 9, 9}}, {{4}, nil, nil}, {nil, {4}, nil}, {nil, nil, nil}, {{}, {1, 2, 3}, {}},
		{{-3, 2}, {-2, -9, 7}, {-2, 2}}, {{math.MinInt}, {math.MaxInt}, {math.MaxInt}}, {{0, 0, 0, 8}, {1}, {1}}}
	for _, row := range rows {
		if got := impl.Join(row[0], row[1]); !slices.Equal(got, row[2]) {
			t.Error(row, got)
		}
	}
}

func TestKnowsRows(t *testing.T) {
	rows := []struct {
		a, b []int
		want bool
	}{{nil, nil, true}, {nil, []int{}, true}, {[]int{0}, nil, false}, {nil, []int{0}, false}, {[]int{1}, []int{1}, true}, {[]int{2}, []int{1}, true}, {[]int{1}, []int{2}, false},
		{[]int{1, 0}, []int{1}, false}, {[]int{1}, []int{1, 0}, false}, {[]int{5, 5}, []int{5}, false}, {[]int{5}, []int{0, 0}, false}, {[]int{2, 1}, []int{1, 2}, false}, {[]int{1, 2}, []int{2, 1}, false},
		{[]int{2, 2}, []int{2, 1}, true}, {[]int{2, 2}, []int{2, 3}, false}, {[]int{0, 0, 0}, []int{0, 0, 1}, false}, {[]int{0, 0, 0}, []int{1, 0, 0}, false}, {[]int{0, 0, 0}, []int{0, 0, -1}, true},
		{[]int{math.MaxInt}, []int{math.MinInt}, true}, {[]int{math.MinInt}, []int{math.MaxInt}, false}}
	for _, row := range rows {
		if got := impl.Knows(row.a, row.b); got != row.want {
			t.Error(row, got)
		}
	}
}

// Join and Knows go together: what is joined knows both, and whatever knows both knows that.
func TestJoinAndKnows(t *testing.T) {
	views := someViews()
	for _, a := range views {
		if !impl.Knows(a, a) || !slices.Equal(impl.Join(a, a), a) || len(impl.Join(a, nil)) != 0 || len(impl.Join(nil, a)) != 0 {
			t.Error("with itself, and with nothing", a)
		}
		for _, b := range views {
			both := impl.Join(a, b)
			if !slices.Equal(both, joinWanted(a, b)) || !slices.Equal(both, impl.Join(b, a)) || impl.Knows(a, b) != knowsWanted(a, b) {
				t.Error(a, b, both, impl.Knows(a, b))
			}
			size := min(len(a), len(b))
			if !impl.Knows(both, a[:size]) || !impl.Knows(both, b[:size]) {
				t.Error("joined and knows less", a, b, both)
			}
			for _, c := range views {
				if len(c) == size && impl.Knows(c, a[:size]) && impl.Knows(c, b[:size]) && !impl.Knows(c, both) {
					t.Error("joined and too much", a, b, c)
				}
			}
		}
	}
}

func TestViewOkEachCell(t *testing.T) {
	m := oddMemory(21)
	last := lastView(m)
	if !impl.ViewOk(m, last) || !impl.ViewOk(m, make([]int, 24)) {
		t.Error("all and none", last)
	}
	for cell := range 24 {
		for _, n := range []int{math.MinInt, -2, -1, 0, last[cell], last[cell] + 1, last[cell] + 2, 4000, math.MaxInt} {
			v := make([]int, 24)
			v[cell] = n
			if got := impl.ViewOk(m, v); got != (n >= 0 && n <= last[cell]) {
				t.Error(cell, n, got)
			}
		}
	}
	for _, size := range []int{0, 1, 12, 23, 25, 48, 4000} {
		if impl.ViewOk(m, make([]int, size)) {
			t.Error("size", size)
		}
	}
}

// A view goes by the cells that its memory has, be it a right one or not.
func TestViewOkOfOtherMemories(t *testing.T) {
	for _, cells := range []int{1, 2, 23, 24, 25} {
		m := impl.Memory{Cells: make([][]impl.Write, cells)}
		for cell := range cells {
			m.Cells[cell] = make([]impl.Write, cell+1)
		}
		for _, size := range []int{0, cells - 1, cells, cells + 1} {
			if got := impl.ViewOk(m, make([]int, size)); got != (size == cells) {
				t.Error(cells, size, got)
			}
		}
		if !impl.ViewOk(m, lastView(m)) {
			t.Error("last", cells)
		}
		m.Cells[cells-1] = nil
		if impl.ViewOk(m, make([]int, cells)) {
			t.Error("no write", cells)
		}
	}
}

// wrongMemories are near a right one, each wrong in one thing.
func wrongMemories() map[string]impl.Memory {
	out := map[string]impl.Memory{"nothing": {}, "no cells": {Cells: [][]impl.Write{}}, "empty cells": {Cells: make([][]impl.Write, 24)}}
	turned := func(name string, turn func(m *impl.Memory)) {
		m := oddMemory(33)
		turn(&m)
		out[name] = m
	}
	for _, cells := range []int{1, 12, 23} {
		turned("few cells "+string(rune('a'+cells)), func(m *impl.Memory) {
			m.Cells = m.Cells[:cells]
			for _, list := range m.Cells {
				for i := range list {
					list[i].View = list[i].View[:cells]
				}
			}
		})
	}
	turned("few cells, long views", func(m *impl.Memory) { m.Cells = m.Cells[:23] })
	turned("many cells, short views", func(m *impl.Memory) { m.Cells = append(m.Cells, impl.MemoryNew().Cells[0]) })
	turned("many cells", func(m *impl.Memory) {
		m.Cells = append(m.Cells, []impl.Write{{View: make([]int, 24)}})
		for _, list := range m.Cells {
			for i := range list {
				list[i].View = append(list[i].View, 0)
			}
		}
	})
	for _, cell := range []int{0, 9, 23} {
		name := " of " + string(rune('a'+cell))
		turned("no write"+name, func(m *impl.Memory) { m.Cells[cell] = nil })
		turned("too many writes"+name, func(m *impl.Memory) { m.Cells[cell] = slices.Repeat([]impl.Write{{View: make([]int, 24)}}, 4001) })
		for _, last := range []bool{false, true} {
			where := name
			view := func(m *impl.Memory) *[]int {
				if last {
					return &m.Cells[cell][len(m.Cells[cell])-1].View
				}
				return &m.Cells[cell][0].View
			}
			if last {
				where += ", the last"
			}
			turned("no view"+where, func(m *impl.Memory) { *view(m) = nil })
			turned("short view"+where, func(m *impl.Memory) { *view(m) = (*view(m))[:23] })
			turned("long view"+where, func(m *impl.Memory) { *view(m) = append(*view(m), 0) })
			for _, at := range []int{0, 9, 23} {
				there := where + " at " + string(rune('a'+at))
				turned("below 0"+there, func(m *impl.Memory) { (*view(m))[at] = -1 })
				turned("far below 0"+there, func(m *impl.Memory) { (*view(m))[at] = math.MinInt })
				turned("beyond"+there, func(m *impl.Memory) { (*view(m))[at] = len(m.Cells[at]) })
				turned("far beyond"+there, func(m *impl.Memory) { (*view(m))[at] = math.MaxInt })
			}
		}
	}
	return out
}

func TestMemoryOkOrdinary(t *testing.T) {
	for seed := range 20 {
		if m := oddMemory(picker(seed)); !impl.MemoryOk(m) {
			t.Error(seed, m)
		}
	}
	for _, cell := range []int{0, 9, 23} {
		for _, count := range []int{1, 2, 3999, 4000, 4001, 4002, 8000} {
			if got := impl.MemoryOk(writtenTo(cell, count)); got != (count <= 4000) {
				t.Error(cell, count, got)
			}
		}
	}
}

// Every cell with MaxWrites writes, whose Views know the last ones of all.
func TestMemoryOkOfTheGreatest(t *testing.T) {
	m := impl.Memory{Cells: make([][]impl.Write, 24)}
	view := slices.Repeat([]int{3999}, 24)
	for cell := range m.Cells {
		m.Cells[cell] = slices.Repeat([]impl.Write{{V: cell, View: view}}, 4000)
	}
	if !impl.MemoryOk(m) || !impl.ViewOk(m, view) {
		t.Error("the greatest")
	}
	v, then := impl.Load(m, make([]int, 24), 23, 1, true)
	if v != 23 || !slices.Equal(then, view) {
		t.Error(v, then)
	}
	if d, same := impl.Store(m, view, 23, 5, true); !sameMemory(d, m) || !slices.Equal(same, view) {
		t.Error("store", same)
	}
	if d, same, was := impl.Swap(m, view, 0, 5); !sameMemory(d, m) || !slices.Equal(same, view) || was != 0 {
		t.Error("swap", same, was)
	}
	m.Cells[23][3999].View = slices.Concat(view[:23], []int{4000})
	if impl.MemoryOk(m) {
		t.Error("beyond the greatest")
	}
}

// nothingDone asks that no call does anything with a memory or a view that is wrong.
func nothingDone(t *testing.T, what string, m impl.Memory, view []int) {
	t.Helper()
	for _, cell := range []int{0, 9, 23} {
		for _, flag := range []bool{false, true} {
			for _, late := range []int{-1, 0, 2} {
				if v, then := impl.Load(m, view, cell, late, flag); v != 0 || !slices.Equal(then, view) {
					t.Error("load", what, cell, v, then)
				}
			}
			if d, then := impl.Store(m, view, cell, 6, flag); !sameMemory(d, m) || !slices.Equal(then, view) {
				t.Error("store", what, cell, then)
			}
		}
		if d, then, was := impl.Swap(m, view, cell, 6); !sameMemory(d, m) || !slices.Equal(then, view) || was != 0 {
			t.Error("swap", what, cell, then, was)
		}
	}
}

func TestWrongMemories(t *testing.T) {
	right := oddMemory(33)
	for name, m := range wrongMemories() {
		if impl.MemoryOk(m) || memoryRight(m) {
			t.Error("right", name)
		}
		for _, view := range [][]int{nil, make([]int, len(m.Cells)), make([]int, 24), lastView(m), lastView(right)} {
			if got := impl.ViewOk(m, view); got != viewRight(m, view) {
				t.Error("view", name, view, got)
			}
			nothingDone(t, name, m, view)
		}
	}
}

// wrongViews are near the view that has the last write of each cell of m.
func wrongViews(m impl.Memory) [][]int {
	last := lastView(m)
	out := [][]int{nil, {}, {0}, make([]int, 23), make([]int, 25), last[:23], slices.Concat(last, []int{0}), slices.Concat(last, last), make([]int, 5000)}
	for _, cell := range []int{0, 1, 9, 22, 23} {
		for _, n := range []int{-1, math.MinInt, last[cell] + 1, 4000, math.MaxInt} {
			v := slices.Clone(last)
			v[cell] = n
			out = append(out, v)
		}
	}
	return out
}

func TestWrongViews(t *testing.T) {
	for _, m := range []impl.Memory{impl.MemoryNew(), oddMemory(4), oddMemory(5), writtenTo(9, 4000)} {
		for _, view := range wrongViews(m) {
			if impl.ViewOk(m, view) {
				t.Error("right", view)
			}
			nothingDone(t, "view", m, view)
		}
	}
}

// Memories that nobody wrote step by step, each cell, late ones and flags.
func TestMemoriesAsTold(t *testing.T) {
	for seed := range 12 {
		m, next := oddMemory(picker(seed)), picker(1000+seed)
		for cell := -1; cell < 25; cell++ {
			for _, view := range [][]int{oddView(m, &next), oddView(m, &next), lastView(m), make([]int, 24)} {
				for late := -1; late < 6; late++ {
					loads(t, m, view, cell, late, false)
					loads(t, m, view, cell, late, true)
				}
				stores(t, m, view, cell, next.below(99), false)
				stores(t, m, view, cell, next.below(99), true)
				swaps(t, m, view, cell, next.below(99))
			}
		}
	}
}

// A told is one write of a walk: its number, and the writes that whoever gets hold of it knows.
type told struct {
	v     int
	ahead map[[2]int]bool
}

// A walk is four cores on one memory. Beside their views it keeps, as sets of writes, what each has read, written
// or got hold of, so that the views are held against something that is no view.
type walk struct {
	m     impl.Memory
	views [4][]int
	knows [4]map[[2]int]bool
	log   [24][]told
}

func newWalk() *walk {
	w := &walk{m: impl.MemoryNew()}
	for who := range w.views {
		w.views[who], w.knows[who] = make([]int, 24), map[[2]int]bool{}
	}
	for cell := range w.log {
		w.log[cell] = []told{{}}
	}
	return w
}

// oldest is the number of the newest write of a cell that a core knows: it can be told of none ahead of that.
func (w *walk) oldest(who int, cell int) int {
	newest := 0
	for write := range w.knows[who] {
		if write[0] == cell {
			newest = max(newest, write[1])
		}
	}
	return newest
}

func (w *walk) learn(who int, write [2]int, hold bool) {
	w.knows[who][write] = true
	if hold {
		for other := range w.log[write[0]][write[1]].ahead {
			w.knows[who][other] = true
		}
	}
}

func (w *walk) wrote(who int, cell int, v int, letGo bool) {
	write := [2]int{cell, len(w.log[cell])}
	w.knows[who][write] = true
	ahead := map[[2]int]bool{write: true}
	if letGo {
		for other := range w.knows[who] {
			ahead[other] = true
		}
	}
	w.log[cell] = append(w.log[cell], told{v: v, ahead: ahead})
}

// reads asks that what is read was written, as late as asked for, and is no older than what was known.
func (w *walk) reads(t *testing.T, who int, cell int, late int, hold bool) {
	t.Helper()
	n := max(len(w.log[cell])-1-max(late, 0), w.oldest(who, cell))
	v, then := impl.Load(w.m, w.views[who], cell, late, hold)
	if v != w.log[cell][n].v || then[cell] < n || !impl.Knows(then, w.views[who]) || !impl.ViewOk(w.m, then) {
		t.Fatal("reads", who, cell, late, hold, v, then, w.log[cell])
	}
	w.learn(who, [2]int{cell, n}, hold)
	w.views[who] = then
}

func (w *walk) writes(t *testing.T, who int, cell int, v int, letGo bool) {
	t.Helper()
	m, then := impl.Store(w.m, w.views[who], cell, v, letGo)
	if !impl.MemoryOk(m) || !impl.ViewOk(m, then) || !impl.Knows(then, w.views[who]) {
		t.Fatal("writes", who, cell, then)
	}
	w.wrote(who, cell, v, letGo)
	w.m, w.views[who] = m, then
}

func (w *walk) swaps(t *testing.T, who int, cell int, v int) {
	t.Helper()
	m, then, was := impl.Swap(w.m, w.views[who], cell, v)
	last := len(w.log[cell]) - 1
	if was != w.log[cell][last].v || !impl.MemoryOk(m) || !impl.ViewOk(m, then) || !impl.Knows(then, w.views[who]) {
		t.Fatal("swaps", who, cell, was, then)
	}
	w.learn(who, [2]int{cell, last}, true)
	w.wrote(who, cell, v, true)
	w.m, w.views[who] = m, then
}

// look holds the views against the sets: what each core knows of each cell, and what it would be told at worst.
func (w *walk) look(t *testing.T) {
	t.Helper()
	for who, view := range w.views {
		for cell := range w.log {
			n := w.oldest(who, cell)
			if v, _ := impl.Load(w.m, view, cell, math.MaxInt, false); view[cell] != n || v != w.log[cell][n].v {
				t.Fatal("knows", who, cell, view[cell], n)
			}
		}
	}
}

// Promise 6, by walks of four cores over few cells and over all: what is read was written, and is no older than
// what was known; whoever gets hold of what was let go knows what was ahead of it, and nobody knows more.
func TestWalksOfCores(t *testing.T) {
	for seed, cells := range [][]int{{0, 23}, {0, 1, 2}, {20, 21, 22, 23}, {5, 11, 17}, nil} {
		for len(cells) < 24 && seed == 4 {
			cells = append(cells, len(cells))
		}
		w, next := newWalk(), picker(400+seed)
		for turn := range 160 {
			who, cell := next.below(4), cells[next.below(len(cells))]
			switch next.below(6) {
			case 0, 1:
				w.writes(t, who, cell, 1000+turn, next.below(2) == 0)
			case 2:
				w.swaps(t, who, cell, 1000+turn)
			default:
				w.reads(t, who, cell, next.below(6)-1, next.below(2) == 0)
			}
			if turn%10 == 9 {
				w.look(t)
			}
		}
	}
}

// What follows: a view only grows, by whatever memory.
func TestAViewOnlyGrows(t *testing.T) {
	for seed := range 8 {
		m, next := oddMemory(picker(seed)), picker(seed+70)
		view := oddView(m, &next)
		for range 40 {
			before, size := slices.Clone(view), len(m.Cells)
			switch cell := next.below(24); next.below(3) {
			case 0:
				_, view = impl.Load(m, view, cell, next.below(7), next.below(2) == 0)
			case 1:
				m, view = impl.Store(m, view, cell, 3, next.below(2) == 0)
			case 2:
				m, view, _ = impl.Swap(m, view, cell, 4)
			}
			if !impl.Knows(view, before) || !impl.ViewOk(m, view) || !impl.MemoryOk(m) || len(m.Cells) != size {
				t.Fatal(seed, before, view)
			}
		}
	}
}

// spareMemory is m with room behind each of its lists, in which something stands.
func spareMemory(m impl.Memory) impl.Memory {
	spare := impl.Write{V: -9, View: []int{-9}}
	d := impl.Memory{Cells: slices.Concat(m.Cells, [][]impl.Write{{spare}, {spare}})[:len(m.Cells)]}
	for cell, list := range d.Cells {
		d.Cells[cell] = slices.Concat(list, []impl.Write{spare, spare, spare})[:len(list)]
		for i, w := range d.Cells[cell] {
			d.Cells[cell][i].View = spareView(w.View)
		}
	}
	return d
}

func spareView(v []int) []int { return slices.Concat(v, []int{-31, -32, -33})[:len(v)] }

// wholeMemory is a copy of m and of the room behind its lists.
func wholeMemory(m impl.Memory) [][]impl.Write {
	cells := slices.Clone(m.Cells[:cap(m.Cells)])
	for cell, list := range cells {
		cells[cell] = slices.Clone(list[:cap(list)])
		for i, w := range cells[cell] {
			cells[cell][i].View = slices.Clone(w.View[:cap(w.View)])
		}
	}
	return cells
}

// writeOverMemory writes into every list of m, to the end of its room.
func writeOverMemory(m impl.Memory) {
	for cell, list := range m.Cells {
		for i := range list {
			scribble(list[i].View)
		}
		list = list[:cap(list)]
		for i := range list {
			list[i] = impl.Write{V: -77}
		}
		m.Cells[cell] = nil
	}
	cells := m.Cells[:cap(m.Cells)]
	for cell := range cells {
		cells[cell] = []impl.Write{{V: -78}}
	}
}

// overwritten is the number of a list that another one of them reaches, or -1: each is written over to the end of
// its room, from the first on or from the last on.
func overwritten(lists [][]int, back bool) int {
	for i := range lists {
		if back {
			i = len(lists) - 1 - i
		}
		room := lists[i][:cap(lists[i])]
		for j := range room {
			room[j] = i
		}
	}
	for i, list := range lists {
		if slices.ContainsFunc(list, func(v int) bool { return v != i }) {
			return i
		}
	}
	return -1
}

// memoryApart asks that no two lists of an answer share memory, nor the room behind them; m is of no use then.
func memoryApart(t *testing.T, m impl.Memory, more ...[]int) {
	t.Helper()
	lists := more
	for _, list := range m.Cells {
		for _, w := range list {
			lists = append(lists, w.View)
		}
	}
	for _, back := range []bool{false, true} {
		if i := overwritten(lists, back); i != -1 {
			t.Error("views share memory", i, back)
		}
	}
	for _, back := range []bool{false, true} {
		for cell := range m.Cells {
			if back {
				cell = len(m.Cells) - 1 - cell
			}
			list := m.Cells[cell][:cap(m.Cells[cell])]
			for i := range list {
				list[i].V = cell
			}
		}
		for cell, list := range m.Cells {
			if slices.ContainsFunc(list, func(w impl.Write) bool { return w.V != cell }) {
				t.Error("cells share memory", cell, back)
			}
		}
	}
}

// eachMemoryCall calls look with memories, views and cells, right ones and wrong ones, and one that is full.
func eachMemoryCall(look func(m impl.Memory, view []int, cell int, flag bool)) {
	both := func(m impl.Memory, view []int, cell int) {
		look(m, view, cell, false)
		look(m, view, cell, true)
	}
	for turn := range 24 {
		m, next := oddMemory(picker(turn)), picker(turn+50)
		view, cell := oddView(m, &next), turn
		switch turn % 6 {
		case 1:
			cell = []int{-1, 24}[turn/6%2]
		case 2:
			view = wrongViews(m)[turn]
		case 3:
			m.Cells[turn] = m.Cells[turn][:0]
		case 4:
			m.Cells[turn][0].View = append(m.Cells[turn][0].View, 1)
		}
		both(m, view, cell)
	}
	both(writtenTo(9, 4000), viewOf([2]int{9, 50}), 9)
	both(writtenTo(9, 4000), viewOf([2]int{9, 50}), 8)
	both(impl.MemoryNew(), make([]int, 24), 0)
	both(impl.Memory{}, nil, 0)
}

// memoryAnswers are what the functions of chapter 6 tell of one call.
type memoryAnswers struct {
	ok     [3]bool
	nums   [2]int
	mems   [2]impl.Memory
	views  [3][]int
	joined []int
}

func memoryAnswersOf(m impl.Memory, view []int, cell int, flag bool) memoryAnswers {
	var a memoryAnswers
	a.ok = [3]bool{impl.ViewOk(m, view), impl.MemoryOk(m), impl.Knows(view, view)}
	a.nums[0], a.views[0] = impl.Load(m, view, cell, 1, flag)
	a.mems[0], a.views[1] = impl.Store(m, view, cell, 5, flag)
	a.mems[1], a.views[2], a.nums[1] = impl.Swap(m, view, cell, 6)
	a.joined = impl.Join(view, view)
	return a
}

func memoryAnswersWanted(m impl.Memory, view []int, cell int, flag bool) memoryAnswers {
	var a memoryAnswers
	m, view = cloneMemory(m), slices.Clone(view)
	a.ok = [3]bool{viewRight(m, view), memoryRight(m), true}
	a.nums[0], a.views[0] = loadWanted(m, view, cell, 1, flag)
	a.mems[0], a.views[1] = storeWanted(m, view, cell, 5, flag)
	a.mems[1], a.views[2], a.nums[1] = swapWanted(m, view, cell, 6)
	a.joined = view
	return a
}

func sameMemoryAnswers(a memoryAnswers, b memoryAnswers) bool {
	for i := range a.views {
		if !slices.Equal(a.views[i], b.views[i]) {
			return false
		}
	}
	return a.ok == b.ok && a.nums == b.nums && sameMemory(a.mems[0], b.mems[0]) && sameMemory(a.mems[1], b.mems[1]) && slices.Equal(a.joined, b.joined)
}

func writeOverMemoryAnswers(a memoryAnswers) {
	for _, view := range a.views {
		scribble(view)
	}
	scribble(a.joined)
	writeOverMemory(a.mems[0])
	writeOverMemory(a.mems[1])
}

// Promise 18: nothing is written into an argument, nor into the room behind its lists.
func TestChapterSixWritesIntoNoArgument(t *testing.T) {
	eachMemoryCall(func(m impl.Memory, view []int, cell int, flag bool) {
		m, view = spareMemory(m), spareView(view)
		whole, room := wholeMemory(m), slices.Clone(view[:cap(view)])
		if got, want := memoryAnswersOf(m, view, cell, flag), memoryAnswersWanted(m, view, cell, flag); !sameMemoryAnswers(got, want) {
			t.Error("answers", cell, flag, view)
		}
		if !reflect.DeepEqual(whole, wholeMemory(m)) || !slices.Equal(room, view[:cap(view)]) {
			t.Error("an argument was written into", cell, flag, view)
		}
	})
}

// Promise 18: no answer shares memory with an argument or with another answer, and its lists lie apart.
func TestChapterSixAnswersNewMemory(t *testing.T) {
	eachMemoryCall(func(m impl.Memory, view []int, cell int, flag bool) {
		m, view = spareMemory(m), spareView(view)
		whole, want := wholeMemory(m), memoryAnswersWanted(m, view, cell, flag)
		writeOverMemoryAnswers(memoryAnswersOf(m, view, cell, flag))
		if !reflect.DeepEqual(whole, wholeMemory(m)) {
			t.Error("the answer lies in the argument", cell, flag)
		}
		second, third := memoryAnswersOf(m, view, cell, flag), memoryAnswersOf(m, view, cell, flag)
		if !sameMemoryAnswers(second, want) || !sameMemoryAnswers(third, want) {
			t.Error("something was kept", cell, flag)
		}
		writeOverMemory(m)
		scribble(view)
		writeOverMemoryAnswers(third)
		if !sameMemoryAnswers(second, want) {
			t.Error("the argument lies in the answer", cell, flag)
		}
		memoryApart(t, second.mems[0], second.views[1])
		memoryApart(t, second.mems[1], second.views[2])
	})
}

// Promise 18: a new memory is new, and its lists lie apart.
func TestMemoryNewAnswersNewMemory(t *testing.T) {
	first, second := impl.MemoryNew(), impl.MemoryNew()
	want := cloneMemory(second)
	writeOverMemory(first)
	if !sameMemory(second, want) || !sameMemory(impl.MemoryNew(), want) {
		t.Error("shared")
	}
	memoryApart(t, second)
}

// Promise 18: arguments that share memory among themselves are answered as any others, by lists that lie apart.
func TestArgumentsThatShareMemory(t *testing.T) {
	view := make([]int, 24)
	m := impl.Memory{Cells: slices.Repeat([][]impl.Write{{{V: 3, View: view}, {V: 4, View: view}}}, 24)}
	for _, letGo := range []bool{false, true} {
		d, then := stores(t, m, view, 7, 5, letGo)
		if _, same := loads(t, m, view, 7, 0, true); same[7] != 1 || view[7] != 0 {
			t.Error("load", same, view)
		}
		memoryApart(t, d, then)
	}
	d, then, was := swaps(t, m, view, 7, 5)
	memoryApart(t, d, then)
	if was != 4 || !slices.Equal(view, make([]int, 24)) {
		t.Error(was, view)
	}
	both := impl.Join(view, view)
	scribble(both)
	if !slices.Equal(view, make([]int, 24)) {
		t.Error("joined with itself", view)
	}
}

// Promise 18: Join writes into neither, and shares with neither, whichever is the shorter one.
func TestJoinAnswersNewMemory(t *testing.T) {
	for _, a := range someViews() {
		for _, b := range someViews() {
			left, right := spareView(a), spareView(b)
			want := joinWanted(a, b)
			impl.Knows(left, right)
			got := impl.Join(left, right)
			if again := impl.Join(left, right); !slices.Equal(again, want) {
				t.Error(a, b, again)
			} else {
				scribble(again)
			}
			if !slices.Equal(left[:cap(left)], spareView(a)[:cap(left)]) || !slices.Equal(right[:cap(right)], spareView(b)[:cap(right)]) {
				t.Error("written into", a, b)
			}
			scribble(left)
			scribble(right)
			if !slices.Equal(got, want) {
				t.Error("shared", a, b, got)
			}
		}
	}
}

// Promise 18: what is written to one memory twice makes two memories.
func TestMemoriesGoApart(t *testing.T) {
	m, view := stores(t, impl.MemoryNew(), make([]int, 24), 1, 5, true)
	a, mine := stores(t, m, view, 1, 6, true)
	b, theirs := stores(t, m, view, 1, 7, false)
	c, _, was := swaps(t, a, theirs, 1, 8)
	d, _ := stores(t, a, mine, 1, 9, false)
	if len(m.Cells[1]) != 2 || a.Cells[1][2].V != 6 || b.Cells[1][2].V != 7 || was != 6 || c.Cells[1][3].V != 8 || d.Cells[1][3].V != 9 || len(a.Cells[1]) != 3 {
		t.Error(m.Cells[1], a.Cells[1], b.Cells[1], c.Cells[1], d.Cells[1])
	}
}

// Promise 18: long lists are answered.
func TestChapterSixAnswersLongLists(t *testing.T) {
	long := make([]int, 1000000)
	long[999999] = 1
	m := impl.MemoryNew()
	if impl.ViewOk(m, long) || impl.Knows(long, long[:999999]) || !impl.Knows(long, make([]int, 1000000)) || impl.Knows(make([]int, 1000000), long) {
		t.Error("views")
	}
	if both := impl.Join(long, make([]int, 1000000)); len(both) != 1000000 || both[999999] != 1 {
		t.Error("joined", len(both))
	}
	nothingDone(t, "long view", m, long)
	m.Cells[9][0].View = long
	nothingDone(t, "long view of a write", m, make([]int, 24))
	for _, cells := range []int{100000, 24} {
		m := impl.Memory{Cells: make([][]impl.Write, cells)}
		for cell := range m.Cells {
			m.Cells[cell] = make([]impl.Write, 100000/cells)
		}
		if impl.MemoryOk(m) || !impl.ViewOk(m, make([]int, cells)) {
			t.Error("cells", cells)
		}
		nothingDone(t, "many cells or writes", m, make([]int, cells))
	}
}
