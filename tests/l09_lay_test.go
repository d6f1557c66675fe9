package tests

import (
	"math"
	"reflect"
	"slices"
	"testing"

	"loop.example/g00238/impl"
)

// baseWanted is the document's Base once more: the cells are counted one by one, and the caps are asked ahead of that.
func baseWanted(caps []int, n int) int {
	for _, room := range caps {
		if room < 1 || room > 4 {
			return -1
		}
	}
	var owners []int
	for owner, room := range caps {
		owners = append(owners, slices.Repeat([]int{owner}, room+4)...)
	}
	if len(owners) > 24 {
		return -1
	}
	return slices.Index(owners, n)
}

// lastIn is the number of the last write of a cell.
func lastIn(m impl.Memory, cell int) int { return m.Cells[cell][len(m.Cells[cell])-1].V }

// chanInWanted is the document's ChanIn once more: the ring is written out twice, so that nothing goes round in it.
func chanInWanted(m impl.Memory, caps []int, n int) (impl.Chan, bool) {
	base := baseWanted(caps, n)
	if base < 0 || !memoryRight(m) {
		return impl.Chan{}, false
	}
	var numbers []int
	for range 2 {
		for i := range caps[n] {
			numbers = append(numbers, lastIn(m, base+4+i))
		}
	}
	first, count, closed := lastIn(m, base+1), lastIn(m, base+2), lastIn(m, base+3)
	if first < 0 || first > caps[n]-1 || count < 0 || count > caps[n] || closed < 0 || closed > 1 {
		return impl.Chan{}, false
	}
	return impl.Chan{Cap: caps[n], List: numbers[first : first+count], Closed: closed == 1}, true
}

func lockedWanted(m impl.Memory, caps []int, n int) bool {
	base := baseWanted(caps, n)
	return base >= 0 && memoryRight(m) && lastIn(m, base) != 0
}

// tells holds ChanIn and Locked against what is wanted, and answers both.
func tells(t *testing.T, m impl.Memory, caps []int, n int) (impl.Chan, bool, bool) {
	t.Helper()
	got, ok := impl.ChanIn(m, caps, n)
	if want, wanted := chanInWanted(m, caps, n); ok != wanted || !sameChan(got, want) {
		t.Errorf("channel %v of %v: %v %v, not %v %v", n, caps, got, ok, want, wanted)
	}
	locked := impl.Locked(m, caps, n)
	if locked != lockedWanted(m, caps, n) {
		t.Errorf("channel %v of %v: locked %v", n, caps, locked)
	}
	return got, ok, locked
}

// tellsNone asks that there is no channel and no lock.
func tellsNone(t *testing.T, what string, m impl.Memory, caps []int, n int) {
	t.Helper()
	if c, ok := impl.ChanIn(m, caps, n); ok || !sameChan(c, impl.Chan{}) {
		t.Error(what, "channel", caps, n, c, ok)
	}
	if impl.Locked(m, caps, n) {
		t.Error(what, "locked", caps, n)
	}
}

// put writes numbers behind all of cells that stand side by side, into m itself.
func put(m impl.Memory, from int, numbers ...int) {
	for i, v := range numbers {
		cell := from + i
		m.Cells[cell] = append(m.Cells[cell], impl.Write{V: v, View: viewOf([2]int{cell, len(m.Cells[cell])})})
	}
}

// memoryOf is a memory whose last writes, from cell 0 on, are so.
func memoryOf(numbers ...int) impl.Memory {
	m := impl.MemoryNew()
	put(m, 0, numbers...)
	return m
}

// laid is what the cells of c have, whose lock and first place are so; where the ring has no number of c stands one
// that is none of its.
func laid(c impl.Chan, lock int, first int) []int {
	cells := append([]int{lock, first, len(c.List), 0}, slices.Repeat([]int{-55}, c.Cap)...)
	if c.Closed {
		cells[3] = 1
	}
	for i, v := range c.List {
		at := first + i
		for at >= c.Cap {
			at -= c.Cap
		}
		cells[4+at] = v
	}
	return cells
}

// eachCaps goes through all lists of at most that many caps, each of from .. to.
func eachCaps(most int, from int, to int, look func(caps []int)) {
	look(nil)
	lists := [][]int{nil}
	for range most {
		var longer [][]int
		for _, list := range lists {
			for room := from; room <= to; room++ {
				longer = append(longer, slices.Concat(list, []int{room}))
			}
		}
		for _, list := range longer {
			look(list)
		}
		lists = longer
	}
}

// eachLay goes through all caps of which there are channels.
func eachLay(look func(caps []int)) {
	eachCaps(4, 1, 4, func(caps []int) {
		if baseWanted(caps, 0) == 0 {
			look(caps)
		}
	})
}

var ends64 = []int{math.MinInt, math.MinInt + 1, math.MaxInt - 1, math.MaxInt}

func TestBaseRows(t *testing.T) {
	rows := []struct {
		caps []int
		want []int
	}{{[]int{1}, []int{0}}, {[]int{4}, []int{0}}, {[]int{2, 1}, []int{0, 6}}, {[]int{1, 2}, []int{0, 5}}, {[]int{4, 1}, []int{0, 8}}, {[]int{1, 1, 1}, []int{0, 5, 10}},
		{[]int{1, 2, 3}, []int{0, 5, 11}}, {[]int{3, 2, 1}, []int{0, 7, 13}}, {[]int{4, 4, 4}, []int{0, 8, 16}}, {[]int{4, 3, 2}, []int{0, 8, 15}},
		{[]int{1, 1, 1, 1}, []int{0, 5, 10, 15}}, {[]int{2, 2, 2, 2}, []int{0, 6, 12, 18}}, {[]int{4, 1, 1, 2}, []int{0, 8, 13, 18}}}
	for _, row := range rows {
		for n, want := range row.want {
			if got := impl.Base(row.caps, n); got != want {
				t.Error(row.caps, n, got, "not", want)
			}
		}
		for _, n := range slices.Concat([]int{-2, -1, len(row.caps), len(row.caps) + 1, 24}, ends64) {
			if got := impl.Base(row.caps, n); got != -1 {
				t.Error("no such channel", row.caps, n, got)
			}
		}
	}
}

func TestBaseOfNoChannel(t *testing.T) {
	for _, caps := range [][]int{nil, {}, make([]int, 0, 3)} {
		for _, n := range slices.Concat([]int{-1, 0, 1}, ends64) {
			if got := impl.Base(caps, n); got != -1 {
				t.Error(n, got)
			}
			tellsNone(t, "none at all", memoryOf(1, 0, 0, 0), caps, n)
		}
	}
}

// All caps of up to six channels from 0 to 5, so that a wrong one stands at each place, and the cells are few and many.
func TestBaseAsTold(t *testing.T) {
	eachCaps(6, 0, 5, func(caps []int) {
		for n := -1; n <= len(caps); n++ {
			if got, want := impl.Base(caps, n), baseWanted(caps, n); got != want {
				t.Fatal(caps, n, got, "not", want)
			}
		}
	})
}

// One cap that is not right leaves no channel a Base, the right ones ahead of it and behind it neither.
func TestOneWrongCapIsEnough(t *testing.T) {
	m := memoryOf(slices.Repeat([]int{1}, 24)...)
	for _, wrong := range slices.Concat([]int{-4, -1, 0, 5, 6, 20, 24}, ends64) {
		for _, caps := range [][]int{{wrong}, {wrong, 1}, {1, wrong}, {4, wrong}, {wrong, 1, 1}, {1, wrong, 1}, {1, 1, wrong}, {wrong, wrong}, {2, wrong, 4, wrong}, {1, 1, 1, wrong}} {
			for n := -1; n <= len(caps); n++ {
				if got := impl.Base(caps, n); got != -1 {
					t.Error(caps, n, got)
				}
				tellsNone(t, "wrong cap", m, caps, n)
			}
		}
	}
}

// Just Cells cells are accepted, one more is refused: for each channel, the ones that would have theirs too.
func TestBaseOfAllCells(t *testing.T) {
	for _, caps := range [][]int{{4, 4, 4}, {2, 2, 2, 2}, {1, 2, 2, 3}, {1, 1, 3, 3}, {1, 1, 2, 4}, {4, 2, 1, 1}} {
		for n := range caps {
			if got := impl.Base(caps, n); got < 0 || got != baseWanted(caps, n) {
				t.Error("all", caps, n, got)
			}
		}
		last := len(caps) - 1
		if end := impl.Base(caps, last) + caps[last] + 4; end != impl.Cells {
			t.Error("end", caps, end)
		}
	}
	m := memoryOf(slices.Repeat([]int{1}, 24)...)
	for _, caps := range [][]int{{1, 1, 1, 1, 1}, {2, 2, 2, 3}, {3, 2, 2, 2}, {1, 1, 3, 4}, {4, 3, 1, 1}, {4, 4, 4, 1}, {4, 4, 4, 4}, {1, 1, 1, 1, 1, 1}} {
		for n := range caps {
			if got := impl.Base(caps, n); got != -1 {
				t.Error("more", caps, n, got)
			}
			tellsNone(t, "more", m, caps, n)
		}
	}
}

// Promise 9: each cell is of one channel at most, and each channel lies right behind the one ahead, from 0 on.
func TestChannelsLieApart(t *testing.T) {
	eachLay(func(caps []int) {
		var owned [24]int
		end := 0
		for n, room := range caps {
			base := impl.Base(caps, n)
			if base != end {
				t.Error("begins", caps, n, base, end)
			}
			end = base + room + 4
			for cell := base; cell < end; cell++ {
				if cell < 0 || cell >= 24 {
					t.Fatal("no cell", caps, n, cell)
				}
				owned[cell]++
			}
		}
		for cell, count := range owned {
			if (count == 1) != (cell < end) || count > 1 {
				t.Error("cell", caps, cell, count)
			}
		}
	})
}

// tellings are all that the channels of a memory tell.
func tellings(m impl.Memory, caps []int) []any {
	var out []any
	for n := range caps {
		c, ok := impl.ChanIn(m, caps, n)
		out = append(out, []any{c, ok, impl.Locked(m, caps, n)})
	}
	return out
}

// Promise 9: a write to a cell turns what the one channel tells that has it, and no other. The channels are full,
// so that each of their cells tells something.
func TestEachCellIsOfOneChannel(t *testing.T) {
	eachLay(func(caps []int) {
		m := impl.MemoryNew()
		for n, room := range caps {
			put(m, impl.Base(caps, n), laid(impl.Chan{Cap: room, List: []int{11, 12, 13, 14}[:room]}, 0, n%room)...)
		}
		before := tellings(m, caps)
		for cell := range 24 {
			d := cloneMemory(m)
			put(d, cell, 1-lastIn(m, cell))
			after := tellings(d, caps)
			for n, room := range caps {
				base := impl.Base(caps, n)
				own := base <= cell && cell < base+room+4
				if turned := !reflect.DeepEqual(before[n], after[n]); turned != own {
					t.Error("cell", cell, "of", caps, n, before[n], after[n])
				}
			}
		}
	})
}

func TestChanInRows(t *testing.T) {
	rows := []struct {
		cells []int
		caps  []int
		n     int
		want  impl.Chan
	}{{nil, []int{1}, 0, impl.Chan{Cap: 1}}, {nil, []int{4}, 0, impl.Chan{Cap: 4}}, {nil, []int{4, 4, 4}, 2, impl.Chan{Cap: 4}},
		{[]int{0, 0, 1, 0, 7}, []int{1}, 0, impl.Chan{Cap: 1, List: []int{7}}},
		{[]int{0, 0, 0, 1, 7}, []int{1}, 0, impl.Chan{Cap: 1, Closed: true}},
		{[]int{0, 1, 2, 0, 8, 9}, []int{2, 1}, 0, impl.Chan{Cap: 2, List: []int{9, 8}}},
		{[]int{0, 1, 2, 0, 8, 9}, []int{2, 1}, 1, impl.Chan{Cap: 1}},
		{[]int{0, 2, 3, 1, 5, 6, 7, 8}, []int{4}, 0, impl.Chan{Cap: 4, List: []int{7, 8, 5}, Closed: true}},
		{[]int{0, 3, 4, 0, 5, 6, 7, 8}, []int{4}, 0, impl.Chan{Cap: 4, List: []int{8, 5, 6, 7}}},
		{[]int{0, 3, 1, 0, 5, 6, 7, 8}, []int{4}, 0, impl.Chan{Cap: 4, List: []int{8}}},
		{[]int{0, 3, 0, 0, 5, 6, 7, 8}, []int{4}, 0, impl.Chan{Cap: 4}},
		{[]int{0, 0, 0, 0, 3, 9, 2, 3, 1, -4, 0, 4}, []int{1, 3}, 1, impl.Chan{Cap: 3, List: []int{4, -4, 0}, Closed: true}},
		{[]int{1, 9, 9, 9, 9, 0, 1, 1, 0, 4, 5}, []int{1, 2}, 1, impl.Chan{Cap: 2, List: []int{5}}},
		{[]int{1, 0, 1, 0, 6}, []int{1}, 0, impl.Chan{Cap: 1, List: []int{6}}},
		{slices.Concat(make([]int, 16), []int{-1, 1, 3, 1, 2, 4, 6, 8}), []int{4, 4, 4}, 2, impl.Chan{Cap: 4, List: []int{4, 6, 8}, Closed: true}}}
	for _, row := range rows {
		c, ok, _ := tells(t, memoryOf(row.cells...), row.caps, row.n)
		if !ok || !sameChan(c, row.want) || !impl.ChanOk(c) {
			t.Error(row.cells, row.caps, row.n, c, ok, "not", row.want)
		}
	}
}

// All places of the first number, all counts, open and closed, of each channel of all caps, locked and not: what was
// laid is told.
func TestChanInOfAllRings(t *testing.T) {
	numbers := []int{math.MaxInt, -1, math.MinInt, 0}
	eachLay(func(caps []int) {
		for n, room := range caps {
			for row := range room * (room + 1) * 4 {
				first, count, closed, lock := row%room, row/room%(room+1), row/room/(room+1)%2 == 1, row/room/(room+1)/2
				want := impl.Chan{Cap: room, List: numbers[:count], Closed: closed}
				m := impl.MemoryNew()
				put(m, baseWanted(caps, n), laid(want, -lock, first)...)
				c, ok, locked := tells(t, m, caps, n)
				if !ok || !sameChan(c, want) || locked != (lock == 1) {
					t.Error(caps, n, "first", first, c, ok, locked, "not", want)
				}
			}
		}
	})
}

// What is told of the cells that hold first, count and closed, from below to beyond, in each channel: all three at once.
func TestChanInOfWhatIsNone(t *testing.T) {
	odd := slices.Concat([]int{-4, -3, -2, -1, 0, 1, 2, 3, 4, 5, 6, 8, 24, 256, 1 << 32, -1 << 32}, ends64)
	for _, caps := range [][]int{{1}, {2}, {3}, {4}, {1, 4}, {4, 1}, {2, 3, 4}, {4, 4, 4}} {
		for n, room := range caps {
			m := memoryOf(slices.Repeat([]int{1}, 24)...)
			for _, first := range odd {
				for _, count := range odd {
					for _, closed := range odd {
						for i, v := range []int{first, count, closed} {
							m.Cells[baseWanted(caps, n)+1+i][1].V = v
						}
						right := first >= 0 && first < room && count >= 0 && count <= room && (closed == 0 || closed == 1)
						c, ok := impl.ChanIn(m, caps, n)
						if ok != right || ok && (len(c.List) != count || c.Cap != room || c.Closed != (closed == 1)) || !ok && !sameChan(c, impl.Chan{}) {
							t.Fatal(caps, n, first, count, closed, c, ok)
						}
						if !impl.Locked(m, caps, n) {
							t.Fatal("locked", caps, n, first, count, closed)
						}
					}
				}
			}
		}
	}
}

// The edges one by one: what else stands there is right, in a channel that has nothing, and in a full one.
func TestChanInEdges(t *testing.T) {
	for room := 1; room <= impl.MaxCap; room++ {
		for _, full := range []bool{false, true} {
			plain := impl.Chan{Cap: room}
			if full {
				plain.List = []int{5, 6, 7, 8}[:room]
			}
			for part, edges := range map[int]map[int]bool{1: {-1: false, 0: true, room - 1: true, room: false, room + 1: false},
				2: {-1: false, 0: true, room: true, room + 1: false}, 3: {-1: false, 0: true, 1: true, 2: false}} {
				for v, want := range edges {
					cells := laid(plain, 0, 0)
					cells[part] = v
					if _, ok, _ := tells(t, memoryOf(cells...), []int{room}, 0); ok != want {
						t.Error("room", room, "part", part, v, ok)
					}
				}
			}
		}
	}
}

// A channel that is none leaves the others as they are.
func TestOneChannelThatIsNone(t *testing.T) {
	caps := []int{2, 3, 1}
	for wrong := range caps {
		for part := 1; part < 4; part++ {
			m := impl.MemoryNew()
			put(m, baseWanted(caps, wrong)+part, 9)
			for n := range caps {
				if _, ok, _ := tells(t, m, caps, n); ok != (n != wrong) {
					t.Error(wrong, part, n, ok)
				}
			}
		}
	}
}

// Where a cell has several writes the last one counts, whatever was ahead of it.
func TestTheLastWriteCounts(t *testing.T) {
	caps := []int{2, 3}
	m := impl.MemoryNew()
	put(m, 6, -1, 7, 9, 2, 1, 1, 1)
	if _, ok, locked := tells(t, m, caps, 1); ok || !locked {
		t.Error("none", ok, locked)
	}
	put(m, 6, 0, 2, 2, 1, 40, 50, 60)
	if c, ok, locked := tells(t, m, caps, 1); !ok || locked || !sameChan(c, impl.Chan{Cap: 3, List: []int{60, 40}, Closed: true}) {
		t.Error("some", c, ok, locked)
	}
	put(m, 8, 3)
	if c, ok, _ := tells(t, m, caps, 1); !ok || !slices.Equal(c.List, []int{60, 40, 50}) {
		t.Error("three", c, ok)
	}
	put(m, 10, 41)
	if c, ok, _ := tells(t, m, caps, 1); !ok || !slices.Equal(c.List, []int{60, 41, 50}) {
		t.Error("another one", c, ok)
	}
	put(m, 7, 3)
	if _, ok, _ := tells(t, m, caps, 1); ok {
		t.Error("none again")
	}
	if c, ok, locked := tells(t, m, caps, 0); !ok || locked || !sameChan(c, impl.Chan{Cap: 2}) {
		t.Error("the other one", c, ok, locked)
	}
}

// A cell with one write alone is told by it, though it be not 0.
func TestFirstWritesThatAreNotNought(t *testing.T) {
	m := impl.MemoryNew()
	for cell, v := range []int{5, 1, 2, 1, 30, 20} {
		m.Cells[cell][0].V = v
	}
	if c, ok, locked := tells(t, m, []int{2}, 0); !ok || !locked || !sameChan(c, impl.Chan{Cap: 2, List: []int{20, 30}, Closed: true}) {
		t.Error(c, ok, locked)
	}
}

func TestLockedRows(t *testing.T) {
	for _, caps := range [][]int{{1}, {4}, {2, 1}, {4, 4, 4}, {1, 2, 3}, {2, 2, 2, 2}} {
		for n := range caps {
			for _, v := range slices.Concat([]int{0, 1, -1, 2, 7, 256, 1 << 32, -1 << 32, 1 << 62}, ends64) {
				m := impl.MemoryNew()
				put(m, baseWanted(caps, n), v)
				for other := range caps {
					if _, ok, locked := tells(t, m, caps, other); !ok || locked != (other == n && v != 0) {
						t.Error(caps, n, v, other, ok, locked)
					}
				}
				put(m, baseWanted(caps, n), 0)
				if _, _, locked := tells(t, m, caps, n); locked {
					t.Error("let go", caps, n, v)
				}
			}
		}
	}
}

// Locked goes by the lock alone: not by the other cells of the channel, though they tell none.
func TestLockedOfWhatIsNone(t *testing.T) {
	for lock := -1; lock < 3; lock++ {
		m := memoryOf(lock, 9, 9, 9, 9, lock, -1, -1, -1, -1)
		for n := range 2 {
			if _, ok, locked := tells(t, m, []int{1, 1}, n); ok || locked != (lock != 0) {
				t.Error(lock, n, ok, locked)
			}
		}
	}
}

// Memories that nobody wrote step by step, cell by cell from numbers that are often right.
func TestChannelsOfOddMemories(t *testing.T) {
	found := 0
	for seed := range 60 {
		m, next := oddMemory(picker(seed)), picker(300+seed)
		for _, list := range m.Cells {
			list[len(list)-1].V = next.below(3)
		}
		eachLay(func(caps []int) {
			if next.below(8) > 0 {
				return
			}
			for n := -1; n <= len(caps); n++ {
				if _, ok, _ := tells(t, m, caps, n); ok {
					found++
				}
			}
		})
	}
	if found < 500 {
		t.Error("channels", found)
	}
}

// A lane is a channel in memory that is kept by hand, and beside it the one of chapter 3.
type lane struct {
	first int
	c     impl.Chan
}

// turn sends, takes or closes, by writes to the cells from base on alone.
func (l *lane) turn(m impl.Memory, base int, doing int, v int) impl.Memory {
	view := make([]int, 24)
	write := func(cell int, v int) { m, view = impl.Store(m, view, base+cell, v, false) }
	count, code := len(l.c.List), impl.ChFault
	switch doing {
	case 0:
		if l.c, code = impl.ChanSend(l.c, v); code == impl.ChDone {
			write(4+(l.first+count)%l.c.Cap, v)
			write(2, count+1)
		}
	case 1:
		if l.c, _, code = impl.ChanTake(l.c); code == impl.ChDone {
			l.first = (l.first + 1) % l.c.Cap
			write(1, l.first)
			write(2, count-1)
		}
	case 2:
		if l.c, code = impl.ChanClose(l.c); code == impl.ChDone {
			write(3, 1)
		}
	}
	return m
}

// Promise 9: channels that go on side by side in one memory, round and round, and at last are closed: each is told as
// chapter 3 has it after each turn of any of them.
func TestChannelsGoOnSideBySide(t *testing.T) {
	for _, caps := range [][]int{{1}, {4}, {1, 4}, {3, 2}, {1, 2, 3}, {4, 4, 4}, {2, 2, 2, 2}} {
		next, m := picker(len(caps)), impl.MemoryNew()
		lanes := make([]lane, len(caps))
		for n, room := range caps {
			lanes[n].c.Cap = room
		}
		for turn := range 150 {
			n, doing := next.below(len(caps)), next.below(2)
			if turn > 140 {
				doing = next.below(3)
			}
			m = lanes[n].turn(m, impl.Base(caps, n), doing, turn-70)
			for n := range caps {
				c, ok := impl.ChanIn(m, caps, n)
				if !ok || !sameChan(c, lanes[n].c) || impl.Locked(m, caps, n) {
					t.Fatal(caps, n, turn, c, ok, "not", lanes[n].c)
				}
			}
		}
	}
}

// Promise 18: a memory that is not right tells no channel and no lock, wherever it is wrong.
func TestNoChannelInWrongMemories(t *testing.T) {
	for name, m := range wrongMemories() {
		for _, list := range m.Cells {
			for i := range list {
				list[i].V = 1
			}
		}
		for _, caps := range [][]int{{1}, {4}, {2, 1}, {4, 4, 4}} {
			for n := range caps {
				tellsNone(t, name, m, caps, n)
			}
			tellsNone(t, name, m, caps, len(caps))
		}
	}
	m := memoryOf(slices.Repeat([]int{1}, 24)...)
	if _, ok, locked := tells(t, m, []int{4, 4, 4}, 2); !ok || !locked {
		t.Error("the same, right")
	}
}

// Promise 18: there is no such channel, of a memory in which each cell that there is tells something.
func TestNoSuchChannel(t *testing.T) {
	for _, v := range []int{0, 1} {
		m := memoryOf(slices.Repeat([]int{v}, 24)...)
		eachLay(func(caps []int) {
			for _, n := range slices.Concat([]int{-24, -2, -1, len(caps), len(caps) + 1, 3 + len(caps), 24}, ends64) {
				tellsNone(t, "no such channel", m, caps, n)
			}
			// where all is 1, the place of the first number is beyond a room of 1
			for n, room := range caps {
				if _, ok, locked := tells(t, m, caps, n); ok != (v < room) || locked != (v == 1) {
					t.Error(caps, n, ok, locked)
				}
			}
		})
	}
}

// A memory of as many writes as there may be, and of one more.
func TestChannelsOfTheGreatestMemory(t *testing.T) {
	view := slices.Repeat([]int{3999}, 24)
	m := impl.Memory{Cells: make([][]impl.Write, 24)}
	for cell := range m.Cells {
		m.Cells[cell] = slices.Repeat([]impl.Write{{V: -3, View: view}}, 4000)
		m.Cells[cell][3999].V = 1
	}
	for n := range 3 {
		c, ok := impl.ChanIn(m, []int{4, 4, 4}, n)
		if !ok || !sameChan(c, impl.Chan{Cap: 4, List: []int{1}, Closed: true}) || !impl.Locked(m, []int{4, 4, 4}, n) {
			t.Error(n, c, ok)
		}
	}
	for _, cell := range []int{0, 7, 23} {
		d := impl.Memory{Cells: slices.Clone(m.Cells)}
		d.Cells[cell] = slices.Repeat([]impl.Write{{V: 1, View: view}}, 4001)
		tellsNone(t, "beyond the greatest", d, []int{4, 4}, 0)
	}
}

// Promise 18: long caps, right and wrong ones, are answered.
func TestLongCaps(t *testing.T) {
	m := memoryOf(slices.Repeat([]int{1}, 24)...)
	for _, room := range slices.Concat([]int{0, 1, 4, 5}, ends64) {
		caps := slices.Repeat([]int{room}, 1000000)
		for _, n := range []int{0, 1, 999999, 1000000} {
			if got := impl.Base(caps, n); got != -1 {
				t.Error(room, n, got)
			}
			tellsNone(t, "long", m, caps, n)
		}
	}
}

// layAnswers are what the functions of chapter 9 tell of one call.
type layAnswers struct {
	base       int
	c          impl.Chan
	ok, locked bool
}

func layAnswersOf(m impl.Memory, caps []int, n int) layAnswers {
	c, ok := impl.ChanIn(m, caps, n)
	return layAnswers{impl.Base(caps, n), c, ok, impl.Locked(m, caps, n)}
}

func layAnswersWanted(m impl.Memory, caps []int, n int) layAnswers {
	c, ok := chanInWanted(m, caps, n)
	return layAnswers{baseWanted(caps, n), impl.Chan{Cap: c.Cap, List: slices.Clone(c.List), Closed: c.Closed}, ok, lockedWanted(m, caps, n)}
}

func sameLayAnswers(a layAnswers, b layAnswers) bool {
	return a.base == b.base && sameChan(a.c, b.c) && a.ok == b.ok && a.locked == b.locked
}

// eachLayCall calls look with memories, caps and channels, right ones and wrong ones, with room behind each list.
func eachLayCall(look func(m impl.Memory, caps []int, n int)) {
	for turn := range 40 {
		m, next := oddMemory(picker(turn)), picker(turn+700)
		for _, list := range m.Cells {
			list[len(list)-1].V = next.below(2)
		}
		switch turn % 8 {
		case 5:
			m.Cells[turn%24] = m.Cells[turn%24][:0]
		case 6:
			m.Cells[turn%24][0].View = append(m.Cells[turn%24][0].View, 1)
		case 7:
			m.Cells = m.Cells[:23]
		}
		for _, caps := range [][]int{nil, {1}, {4}, {2, 3}, {4, 4, 4}, {2, 2, 2, 2}, {2, 0}, {5, 1}, {4, 4, 4, 4}, {1, 1, 1, 1, 1}} {
			for n := -1; n <= len(caps); n++ {
				look(spareMemory(m), slices.Concat(caps, []int{1, 2, 1})[:len(caps)], n)
			}
		}
	}
	look(impl.Memory{}, nil, 0)
	look(impl.Memory{}, []int{1}, 0)
}

// Promise 18: nothing is written into an argument, nor into the room behind its lists, nor read there.
func TestChapterNineWritesIntoNoArgument(t *testing.T) {
	eachLayCall(func(m impl.Memory, caps []int, n int) {
		whole, room := wholeMemory(m), slices.Clone(caps[:cap(caps)])
		if got, want := layAnswersOf(m, caps, n), layAnswersWanted(m, caps, n); !sameLayAnswers(got, want) {
			t.Error("answers", caps, n, got, "not", want)
		}
		if !reflect.DeepEqual(whole, wholeMemory(m)) || !slices.Equal(room, caps[:cap(caps)]) {
			t.Error("an argument was written into", caps, n)
		}
	})
}

// Promise 18: no answer shares memory with an argument or with another answer, and nothing is kept.
func TestChapterNineAnswersNewMemory(t *testing.T) {
	eachLayCall(func(m impl.Memory, caps []int, n int) {
		whole, room, want := wholeMemory(m), slices.Clone(caps[:cap(caps)]), layAnswersWanted(m, caps, n)
		first, second := layAnswersOf(m, caps, n), layAnswersOf(m, caps, n)
		scribble(first.c.List)
		if !reflect.DeepEqual(whole, wholeMemory(m)) || !slices.Equal(room, caps[:cap(caps)]) {
			t.Error("the answer lies in the argument", caps, n)
		}
		if third := layAnswersOf(m, caps, n); !sameLayAnswers(second, want) || !sameLayAnswers(third, want) {
			t.Error("something was kept", caps, n)
		}
		writeOverMemory(m)
		scribble(caps)
		if !sameLayAnswers(second, want) {
			t.Error("the argument lies in the answer", caps, n)
		}
	})
}

// Promise 18: the answer hangs on this call alone, not on one of other caps or of another memory ahead of it.
func TestChapterNineKeepsNothing(t *testing.T) {
	small, large := memoryOf(1, 0, 1, 0, 3), memoryOf(0, 1, 2, 1, 4, 5)
	for range 3 {
		if c, ok, locked := tells(t, small, []int{1}, 0); !ok || !locked || !slices.Equal(c.List, []int{3}) {
			t.Error("small", c, ok, locked)
		}
		tellsNone(t, "none", small, []int{0}, 0)
		tellsNone(t, "wrong", impl.Memory{}, []int{1}, 0)
		if c, ok, locked := tells(t, large, []int{2}, 0); !ok || locked || !slices.Equal(c.List, []int{5, 4}) {
			t.Error("large", c, ok, locked)
		}
	}
}
