package tests

import (
	"math"
	"slices"
	"testing"

	"loop.example/g00238/impl"
)

// sameChan holds channels against each other; an empty list and nil are the same.
func sameChan(c impl.Chan, d impl.Chan) bool {
	return c.Cap == d.Cap && c.Closed == d.Closed && slices.Equal(c.List, d.List)
}

// chanLists are lists of 0 to 6 numbers, all of them different, with the least and the greatest int.
func chanLists() [][]int {
	numbers := []int{7, math.MinInt, -1, math.MaxInt, 0, 1000000001}
	lists := [][]int{nil}
	for count := range len(numbers) + 1 {
		lists = append(lists, numbers[:count], numbers[len(numbers)-count:])
	}
	return lists
}

// eachChan goes through channels, right and wrong ones, open and closed.
func eachChan(look func(c impl.Chan)) {
	for _, room := range []int{math.MinInt, -4, -1, 0, 1, 2, 3, 4, 5, 6, 7, math.MaxInt} {
		for _, list := range chanLists() {
			look(impl.Chan{Cap: room, List: slices.Clone(list)})
			look(impl.Chan{Cap: room, List: slices.Clone(list), Closed: true})
		}
	}
}

// chanRight is the document's ChanOk once more, by numbers.
func chanRight(c impl.Chan) bool {
	switch c.Cap {
	case 1, 2, 3, 4:
		return len(c.List) < c.Cap+1
	}
	return false
}

// sendWanted, takeWanted and closeWanted are the document's chapter 3 once more.
func sendWanted(c impl.Chan, v int) (impl.Chan, int) {
	if c.Closed || !chanRight(c) {
		return c, 2
	}
	if len(c.List) == c.Cap {
		return c, 1
	}
	return impl.Chan{Cap: c.Cap, List: slices.Concat(c.List, []int{v})}, 0
}

func takeWanted(c impl.Chan) (impl.Chan, int, int) {
	if !chanRight(c) {
		return c, 0, 2
	}
	if len(c.List) == 0 && c.Closed {
		return c, 0, 3
	}
	if len(c.List) == 0 {
		return c, 0, 1
	}
	return impl.Chan{Cap: c.Cap, List: c.List[1:], Closed: c.Closed}, c.List[0], 0
}

func closeWanted(c impl.Chan) (impl.Chan, int) {
	if c.Closed || !chanRight(c) {
		return c, 2
	}
	return impl.Chan{Cap: c.Cap, List: c.List, Closed: true}, 0
}

func TestNumbersOfChapterThree(t *testing.T) {
	got := []int{impl.ChDone, impl.ChWait, impl.ChFault, impl.ChOver}
	if !slices.Equal(got, []int{0, 1, 2, 3}) {
		t.Error("codes", got)
	}
}

func TestChanOkLimits(t *testing.T) {
	for room := -2; room <= 7; room++ {
		for count := range 9 {
			for _, closed := range []bool{false, true} {
				c := impl.Chan{Cap: room, List: make([]int, count), Closed: closed}
				if impl.ChanOk(c) != (room >= 1 && room <= 4 && count <= room) {
					t.Error(c)
				}
			}
		}
	}
	for _, c := range []impl.Chan{{}, {Closed: true}, {Cap: math.MinInt}, {Cap: math.MaxInt}, {Cap: math.MaxInt, List: []int{1}}} {
		if impl.ChanOk(c) {
			t.Error(c)
		}
	}
}

func TestChansAsTold(t *testing.T) {
	eachChan(func(c impl.Chan) {
		if got := impl.ChanOk(c); got != chanRight(c) {
			t.Error("ok", c, got)
		}
		for _, v := range []int{math.MinInt, -1, 0, 1, 7, math.MaxInt} {
			got, code := impl.ChanSend(c, v)
			if want, wanted := sendWanted(c, v); code != wanted || !sameChan(got, want) {
				t.Error("send", c, v, got, code)
			}
		}
		got, v, code := impl.ChanTake(c)
		if want, first, wanted := takeWanted(c); code != wanted || v != first || !sameChan(got, want) {
			t.Error("take", c, got, v, code)
		}
		shut, code := impl.ChanClose(c)
		if want, wanted := closeWanted(c); code != wanted || !sameChan(shut, want) {
			t.Error("close", c, shut, code)
		}
	})
}

func sendAll(t *testing.T, c impl.Chan, list ...int) impl.Chan {
	t.Helper()
	for _, v := range list {
		d, code := impl.ChanSend(c, v)
		if code != impl.ChDone {
			t.Fatal("sent", c, v, code)
		}
		c = d
	}
	return c
}

func takeAll(t *testing.T, c impl.Chan, list ...int) impl.Chan {
	t.Helper()
	for _, want := range list {
		d, v, code := impl.ChanTake(c)
		if code != impl.ChDone || v != want {
			t.Fatal("taken", c, v, code, "not", want)
		}
		c = d
	}
	return c
}

// Promise 3: a channel of each room is filled and emptied, again and again.
func TestNumbersComeOutAsTheyWentIn(t *testing.T) {
	numbers := []int{math.MinInt, 3, math.MaxInt, 3, 0, -1, 8, 5, 5, -9, 1000000001, 2}
	for room := 1; room <= impl.MaxCap; room++ {
		c := impl.Chan{Cap: room}
		for from := 0; from+room <= len(numbers); from++ {
			batch := numbers[from : from+room]
			c = sendAll(t, c, batch...)
			if d, code := impl.ChanSend(c, 77); code != impl.ChWait || !sameChan(d, c) || !slices.Equal(c.List, batch) {
				t.Error("full", room, c, d, code)
			}
			c = takeAll(t, c, batch...)
			if d, v, code := impl.ChanTake(c); code != impl.ChWait || v != 0 || !sameChan(d, impl.Chan{Cap: room}) {
				t.Error("empty", room, d, v, code)
			}
		}
	}
}

// Promise 3: more than there is room for, one sent behind one taken, with each count standing in it.
func TestMoreThanThereIsRoomFor(t *testing.T) {
	for room := 1; room <= impl.MaxCap; room++ {
		for held := range room {
			c := impl.Chan{Cap: room}
			for v := range held {
				c = sendAll(t, c, v)
			}
			for v := held; v < held+50; v++ {
				c = sendAll(t, c, v)
				if len(c.List) != held+1 || !impl.ChanOk(c) {
					t.Error("held", room, held, c)
				}
				c = takeAll(t, c, v-held)
			}
		}
	}
}

// Promise 3: whatever the order of sends, takes and a close, against a row that is kept beside it.
func TestChanRowsOfDoings(t *testing.T) {
	const doings = 9
	rows := 1
	for range doings {
		rows *= 3
	}
	for room := 1; room <= impl.MaxCap; room++ {
		for row := range rows {
			c, want := impl.Chan{Cap: room}, impl.Chan{Cap: room}
			left := row
			for turn := range doings {
				var v, first, code, wanted int
				switch left % 3 {
				case 0:
					c, code = impl.ChanSend(c, turn+1)
					want, wanted = sendWanted(want, turn+1)
				case 1:
					c, v, code = impl.ChanTake(c)
					want, first, wanted = takeWanted(want)
				case 2:
					c, code = impl.ChanClose(c)
					want, wanted = closeWanted(want)
				}
				left /= 3
				if code != wanted || v != first || !sameChan(c, want) || !impl.ChanOk(c) {
					t.Fatal(room, row, turn, c, code, v, "not", want, wanted, first)
				}
			}
		}
	}
}

func TestChanFullAndRoomForOne(t *testing.T) {
	for room := 1; room <= impl.MaxCap; room++ {
		almost := impl.Chan{Cap: room, List: []int{4, 5, 6, 7}[:room-1]}
		full, code := impl.ChanSend(almost, math.MinInt)
		if code != impl.ChDone || len(full.List) != room || full.List[room-1] != math.MinInt || full.Closed {
			t.Error("room for one", room, full, code)
		}
		if d, code := impl.ChanSend(full, math.MaxInt); code != impl.ChWait || !sameChan(d, full) {
			t.Error("full", room, d, code)
		}
		shut := impl.Chan{Cap: room, List: full.List, Closed: true}
		if d, code := impl.ChanSend(shut, 1); code != impl.ChFault || !sameChan(d, shut) {
			t.Error("full and closed", room, d, code)
		}
	}
}

func TestChanClosedIsTakenEmpty(t *testing.T) {
	for room := 1; room <= impl.MaxCap; room++ {
		for count := range room + 1 {
			list := []int{math.MaxInt, 0, math.MinInt, 9}[:count]
			c, code := impl.ChanClose(impl.Chan{Cap: room, List: list})
			if code != impl.ChDone || !c.Closed || c.Cap != room || !slices.Equal(c.List, list) {
				t.Error("close", room, count, c, code)
			}
			if d, code := impl.ChanClose(c); code != impl.ChFault || !sameChan(d, c) {
				t.Error("closed twice", d, code)
			}
			if d, code := impl.ChanSend(c, 5); code != impl.ChFault || !sameChan(d, c) {
				t.Error("sent to a closed one", d, code)
			}
			c = takeAll(t, c, list...)
			over := impl.Chan{Cap: room, Closed: true}
			for range 2 {
				d, v, code := impl.ChanTake(c)
				if code != impl.ChOver || v != 0 || !sameChan(d, over) {
					t.Error("over", d, v, code)
				}
			}
			if d, code := impl.ChanClose(c); code != impl.ChFault || !sameChan(d, over) {
				t.Error("closed once more", d, code)
			}
		}
	}
}

// Promise 18: what is no channel is a fault and stays as it was, closed, empty and long ones too.
func TestChanFaults(t *testing.T) {
	wrong := []impl.Chan{{}, {Closed: true}, {Cap: -1}, {Cap: -1, Closed: true}, {Cap: 5}, {Cap: 5, Closed: true},
		{Cap: 0, List: []int{1}}, {Cap: 0, List: []int{1}, Closed: true}, {Cap: 1, List: []int{1, 2}}, {Cap: 1, List: []int{1, 2}, Closed: true},
		{Cap: 4, List: []int{1, 2, 3, 4, 5}}, {Cap: 4, List: []int{1, 2, 3, 4, 5}, Closed: true}, {Cap: 5, List: []int{1}, Closed: true},
		{Cap: math.MinInt, List: []int{1}}, {Cap: math.MaxInt, List: []int{1}, Closed: true}, {Cap: math.MinInt, Closed: true},
		{Cap: 4, List: make([]int, 100000)}, {Cap: 100000, List: make([]int, 100000), Closed: true}}
	for _, c := range wrong {
		if impl.ChanOk(c) {
			t.Error("ok", c.Cap, len(c.List))
		}
		if d, code := impl.ChanSend(c, 3); code != impl.ChFault || !sameChan(c, d) {
			t.Error("send", c.Cap, len(c.List), d.Cap, len(d.List), code)
		}
		if d, v, code := impl.ChanTake(c); code != impl.ChFault || v != 0 || !sameChan(c, d) {
			t.Error("take", c.Cap, len(c.List), d.Cap, len(d.List), v, code)
		}
		if d, code := impl.ChanClose(c); code != impl.ChFault || !sameChan(c, d) {
			t.Error("close", c.Cap, len(c.List), d.Cap, len(d.List), code)
		}
	}
}

// chanDoings are the functions that answer a channel.
func chanDoings() map[string]func(c impl.Chan) impl.Chan {
	return map[string]func(c impl.Chan) impl.Chan{
		"send":  func(c impl.Chan) impl.Chan { d, _ := impl.ChanSend(c, 41); return d },
		"take":  func(c impl.Chan) impl.Chan { d, _, _ := impl.ChanTake(c); return d },
		"close": func(c impl.Chan) impl.Chan { d, _ := impl.ChanClose(c); return d },
	}
}

// spareChan is a channel with something in the spare room behind its list.
func spareChan(c impl.Chan) impl.Chan {
	c.List = slices.Concat(c.List, []int{-31, -32, -33})[:len(c.List)]
	return c
}

// Promise 18: nothing is written into an argument, nor behind it, nor read there.
func TestChapterThreeWritesIntoNoArgument(t *testing.T) {
	for name, do := range chanDoings() {
		eachChan(func(c impl.Chan) {
			spare := spareChan(c)
			whole := slices.Clone(spare.List[:cap(spare.List)])
			got := do(spare)
			if !slices.Equal(whole, spare.List[:cap(spare.List)]) {
				t.Error(name, "written into", c)
			}
			if impl.ChanOk(spare) != impl.ChanOk(c) || !sameChan(got, do(c)) {
				t.Error(name, "read behind the list", c)
			}
		})
	}
}

// Promise 18: an answer is new memory, and nothing is kept between calls.
func TestChapterThreeAnswersNewMemory(t *testing.T) {
	for name, do := range chanDoings() {
		eachChan(func(c impl.Chan) {
			spare := spareChan(c)
			whole := slices.Clone(spare.List[:cap(spare.List)])
			first, second := do(spare), do(spare)
			want := slices.Clone(second.List)
			scribble(first.List)
			if !slices.Equal(whole, spare.List[:cap(spare.List)]) {
				t.Error(name, "the answer lies in the argument", c)
			}
			if !slices.Equal(want, second.List) {
				t.Error(name, "two answers share memory", c)
			}
			scribble(spare.List)
			if !slices.Equal(want, second.List) {
				t.Error(name, "the argument lies in the answer", c)
			}
			if again := do(c); !slices.Equal(want, again.List) {
				t.Error(name, "something was kept", c)
			}
		})
	}
}

// Promise 18: what is sent behind one channel twice makes two channels.
func TestChanAnswersGoApart(t *testing.T) {
	for room := 2; room <= impl.MaxCap; room++ {
		c := sendAll(t, impl.Chan{Cap: room}, 1)
		a, b := sendAll(t, c, 2), sendAll(t, c, 3)
		takeAll(t, a, 1, 2)
		takeAll(t, b, 1, 3)
		takeAll(t, c, 1)
	}
}
