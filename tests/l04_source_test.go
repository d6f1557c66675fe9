package tests

import (
	"math"
	"reflect"
	"slices"
	"testing"

	"loop.example/g00238/impl"
)

func sameThread(a impl.Thread, b impl.Thread) bool {
	return a.At == b.At && a.State == b.State && slices.Equal(a.Regs, b.Regs)
}

// sameSource holds sources against each other; an empty list and nil are the same.
func sameSource(a impl.Source, b impl.Source) bool {
	return slices.EqualFunc(a.Threads, b.Threads, sameThread) && slices.EqualFunc(a.Chans, b.Chans, sameChan) && slices.Equal(a.Trace, b.Trace)
}

// zeroSource: beside a false or a PkBad there is nothing.
func zeroSource(s impl.Source) bool {
	return s.Threads == nil && s.Chans == nil && s.Trace == nil
}

func cloneSource(s impl.Source) impl.Source {
	d := impl.Source{Threads: slices.Clone(s.Threads), Chans: slices.Clone(s.Chans), Trace: slices.Clone(s.Trace)}
	for i := range d.Threads {
		d.Threads[i].Regs = slices.Clone(d.Threads[i].Regs)
	}
	for i := range d.Chans {
		d.Chans[i].List = slices.Clone(d.Chans[i].List)
	}
	return d
}

// sourceRight is the document's SourceOk once more, by numbers.
func sourceRight(p impl.Prog, s impl.Source) bool {
	right := impl.ProgOk(p) && len(s.Threads) == len(p.Bodies) && len(s.Chans) == len(p.Caps) && len(s.Trace) < 4001
	if !right {
		return false
	}
	for i, th := range s.Threads {
		right = right && len(th.Regs) == 4 && th.State > -1 && th.State < 3 && th.At > -1 && th.At < len(p.Bodies[i])
	}
	for i, c := range s.Chans {
		right = right && chanRight(c) && c.Cap == p.Caps[i]
	}
	for _, note := range s.Trace {
		right = right && note.Who > -1 && note.Who < len(s.Threads)
	}
	return right
}

// plainWanted is what a place of no channel does to the registers, and where it goes on.
func plainWanted(x impl.Ins, regs []int, at int) ([]int, int) {
	out, a, b := slices.Clone(regs), regs[x.A], regs[x.B]
	switch x.Op {
	case 1:
		out[x.R] = x.N
	case 2:
		out[x.R] = int(uint64(a) + uint64(b))
	case 3:
		out[x.R] = int(uint64(a) - uint64(b))
	case 4:
		out[x.R] = map[bool]int{true: 1}[a < b]
	case 11:
		return out, x.N
	case 12:
		if a == 0 {
			return out, x.N
		}
	}
	return out, at + 1
}

// chanPlaceWanted is what a place of a channel does: to it, to the registers, and the channel's code,
// of which 1 is that it waits and 2 that it is a fault.
func chanPlaceWanted(x impl.Ins, c impl.Chan, regs []int) (impl.Chan, []int, int) {
	out := slices.Clone(regs)
	code, v := 0, 0
	switch x.Op {
	case 5, 7:
		c, code = sendWanted(c, regs[x.A])
	case 6, 8:
		c, v, code = takeWanted(c)
	case 9:
		c, code = closeWanted(c)
	}
	switch {
	case x.Op == 7 && code != 2:
		out[x.R] = 1 - code
		code = 0
	case x.Op == 6 && code != 1:
		out[x.R], out[x.B] = v, map[int]int{0: 1, 3: 0}[code]
		code = 0
	case x.Op == 8:
		out[x.R], out[x.B] = v, map[int]int{0: 1, 1: 0, 3: 2}[code]
		code = 0
	}
	return c, out, code
}

// stepWanted is the document's SourceStep once more.
func stepWanted(p impl.Prog, s impl.Source, who int) (impl.Source, int) {
	if !sourceRight(p, s) {
		return impl.Source{}, 1
	}
	if who < 0 || who >= len(p.Bodies) {
		return s, 2
	}
	th := s.Threads[who]
	x := p.Bodies[who][th.At]
	if th.State != 0 || x.Op == 10 && len(s.Trace) == 4000 {
		return s, 3
	}
	d := cloneSource(s)
	next, code := th.At+1, 0
	switch x.Op {
	case 5, 6, 7, 8, 9:
		d.Chans[x.N], th.Regs, code = chanPlaceWanted(x, d.Chans[x.N], th.Regs)
	case 10:
		d.Trace = append(d.Trace, impl.Note{Who: who, V: th.Regs[x.A]})
	case 13:
		th.State, next = 1, th.At
	default:
		th.Regs, next = plainWanted(x, th.Regs, th.At)
	}
	switch code {
	case 1:
		return s, 4
	case 2:
		th.State, next = 2, th.At
	}
	th.At = next
	d.Threads[who] = th
	return d, 0
}

// steps holds one step against what is wanted, and answers it.
func steps(t *testing.T, p impl.Prog, s impl.Source, who int) (impl.Source, int) {
	t.Helper()
	got, code := impl.SourceStep(p, s, who)
	if want, wanted := stepWanted(p, s, who); code != wanted || !sameSource(got, want) {
		t.Errorf("%v of %v: %v %v, not %v %v", who, s, got, code, want, wanted)
	}
	return got, code
}

// turnsLittle asks of one step for promise 4: its own thread alone, the registers that its place sets
// alone, one channel at most, one note at most.
func turnsLittle(t *testing.T, p impl.Prog, s impl.Source, who int) {
	t.Helper()
	d, code := impl.SourceStep(p, s, who)
	if code != impl.PkDone {
		if code == impl.PkBad && !zeroSource(d) || code != impl.PkBad && !sameSource(s, d) {
			t.Errorf("%v of %v: %v beside %v", who, s, d, code)
		}
		return
	}
	x := p.Bodies[who][s.Threads[who].At]
	if len(d.Threads) != len(s.Threads) || len(d.Chans) != len(s.Chans) {
		t.Fatal("threads and channels", who, s, d)
	}
	for i := range s.Threads {
		if i != who && !sameThread(s.Threads[i], d.Threads[i]) {
			t.Error("another thread", who, s, d)
		}
	}
	for r := range 4 {
		if s.Threads[who].Regs[r] != d.Threads[who].Regs[r] && !slices.Contains(impl.Sets(x), r) {
			t.Error("another register", x, s.Threads[who], d.Threads[who])
		}
	}
	for n := range s.Chans {
		named := x.Op >= impl.SrSend && x.Op <= impl.SrClose && x.N == n
		if !named && !sameChan(s.Chans[n], d.Chans[n]) {
			t.Error("another channel", x, s.Chans, d.Chans)
		}
	}
	notes := len(s.Trace)
	if x.Op == impl.SrPrint {
		notes++
	}
	if len(d.Trace) != notes || !slices.Equal(d.Trace[:len(s.Trace)], s.Trace) {
		t.Error("notes", x, s.Trace, d.Trace)
	}
	if !impl.SourceOk(p, d) {
		t.Error("not SourceOk", x, d)
	}
}

// eachPlace goes through right places of each kind, for a body of so many places and three channels.
func eachPlace(places int, look func(x impl.Ins)) {
	for _, k := range insKinds() {
		ns := []int{-1000000000, -1, 0, 1, 2, 3, places - 1, 1000000000}
		slices.Sort(ns)
		for _, n := range slices.Compact(ns) {
			for regs := range 64 {
				x := impl.Ins{Op: k.op, R: regs % 4, A: regs / 4 % 4, B: regs / 16, N: n}
				if insWanted(x, places, 3) {
					look(x)
				}
			}
		}
	}
}

// placeProg has a place at one thread's at, and ends around it; the channels have room for 2, 1 and 4.
func placeProg(x impl.Ins, who int, at int, places int) impl.Prog {
	p := impl.Prog{Caps: []int{2, 1, 4}, Bodies: [][]impl.Ins{endsOf(places), endsOf(2), endsOf(places)}}
	p.Bodies[who] = endsOf(places)
	p.Bodies[who][at] = x
	return p
}

// placeSource has its threads at one place, with registers that differ, and channels of so many numbers
// each (or of as many as there is room for), closed by the bits of shut.
func placeSource(p impl.Prog, at int, regs []int, fill int, shut int) impl.Source {
	s := impl.Source{Trace: []impl.Note{{Who: 2, V: 9}, {Who: 0, V: math.MinInt}}}
	for who, body := range p.Bodies {
		own := slices.Concat(regs[who:], regs[:who])
		s.Threads = append(s.Threads, impl.Thread{At: min(at, len(body)-1), Regs: own})
	}
	for n, room := range p.Caps {
		list := []int{n + 50, math.MaxInt, 0, -n - 3}[:min(fill, room)]
		s.Chans = append(s.Chans, impl.Chan{Cap: room, List: slices.Clone(list), Closed: shut>>n&1 == 1})
	}
	return s
}

// eachStep goes through programs and sources in which each kind of place is to be done.
func eachStep(look func(p impl.Prog, s impl.Source, who int)) {
	regs := [][]int{{0, 0, 0, 0}, {1, 2, 3, 4}, {math.MinInt, math.MaxInt, -1, 1}, {0, -7, 0, 7}, {math.MaxInt, math.MaxInt, math.MinInt, math.MinInt}}
	turn := 0
	eachPlace(5, func(x impl.Ins) {
		fills, shuts := 1, 1
		if x.Op >= impl.SrSend && x.Op <= impl.SrClose {
			fills, shuts = 5, 8
		}
		for _, list := range regs {
			for fill := range fills {
				for shut := range shuts {
					turn++
					who, at := turn%2*2, turn%4
					if x.Op == impl.SrEnd || x.Op == impl.SrJump {
						at = turn % 5
					}
					p := placeProg(x, who, at, 5)
					look(p, placeSource(p, at, list, fill, shut), who)
				}
			}
		}
	})
}

func TestNumbersOfChapterFour(t *testing.T) {
	got := []int{impl.StRun, impl.StEnd, impl.StFault, impl.PkDone, impl.PkBad, impl.PkNone, impl.PkOver, impl.PkWait, impl.MaxTrace}
	if !slices.Equal(got, []int{0, 1, 2, 0, 1, 2, 3, 4, 4000}) {
		t.Error("numbers", got)
	}
}

func TestSourceNewAsTold(t *testing.T) {
	eachProg(func(p impl.Prog) {
		s, ok := impl.SourceNew(p)
		if !ok || !impl.SourceOk(p, s) || len(s.Threads) != len(p.Bodies) || len(s.Chans) != len(p.Caps) || len(s.Trace) != 0 {
			t.Fatal(p, s, ok)
		}
		for _, th := range s.Threads {
			if th.At != 0 || th.State != 0 || !slices.Equal(th.Regs, []int{0, 0, 0, 0}) {
				t.Error("thread", p, th)
			}
		}
		for n, c := range s.Chans {
			if c.Cap != p.Caps[n] || len(c.List) != 0 || c.Closed {
				t.Error("channel", p, c)
			}
		}
	})
}

// wrongProgs are programs that are not ProgOk.
func wrongProgs() []impl.Prog {
	one := [][]impl.Ins{endsOf(1)}
	return []impl.Prog{{}, {Caps: []int{1}}, {Caps: []int{0}, Bodies: one}, {Caps: []int{5}, Bodies: one}, {Caps: []int{1, 1, 1, 1}, Bodies: one},
		{Bodies: [][]impl.Ins{nil}}, {Bodies: [][]impl.Ins{endsOf(1), nil}}, {Bodies: slices.Repeat(one, 5)}, {Bodies: [][]impl.Ins{endsOf(25)}},
		{Bodies: [][]impl.Ins{{{Op: impl.SrPrint}}}}, {Bodies: [][]impl.Ins{{{Op: impl.SrZero}}}}, {Bodies: [][]impl.Ins{{{Op: impl.SrClose}, {Op: impl.SrEnd}}}},
		{Bodies: [][]impl.Ins{{{}, {Op: impl.SrEnd}}}}, {Bodies: [][]impl.Ins{{{Op: 14}, {Op: impl.SrEnd}}}}, {Bodies: [][]impl.Ins{{{Op: -1}, {Op: impl.SrEnd}}}},
		{Bodies: [][]impl.Ins{{{Op: impl.SrJump, N: 1}}}}, {Bodies: [][]impl.Ins{{{Op: impl.SrAdd, A: 4}, {Op: impl.SrEnd}}}},
		{Caps: []int{1}, Bodies: [][]impl.Ins{{{Op: impl.SrTake, R: 1, B: 1}, {Op: impl.SrEnd}}}},
		{Bodies: [][]impl.Ins{{{Op: impl.SrSet, N: 1000000001}, {Op: impl.SrEnd}}}}, {Caps: make([]int, 100000), Bodies: make([][]impl.Ins, 100000)}}
}

// loose is a source that fits a program in all but that the program is none.
func loose(p impl.Prog) impl.Source {
	var s impl.Source
	for range p.Bodies {
		s.Threads = append(s.Threads, impl.Thread{Regs: make([]int, 4)})
	}
	for _, room := range p.Caps {
		s.Chans = append(s.Chans, impl.Chan{Cap: room})
	}
	return s
}

// bad asks that a source is none of a program, whoever is to step.
func bad(t *testing.T, what string, p impl.Prog, s impl.Source) {
	t.Helper()
	if impl.SourceOk(p, s) {
		t.Error(what, "is SourceOk")
	}
	for _, who := range []int{0, 1, 2, 3, -1, 4, math.MinInt, math.MaxInt} {
		if d, code := impl.SourceStep(p, s, who); code != impl.PkBad || !zeroSource(d) {
			t.Error(what, who, code)
		}
	}
}

func TestSourcesOfNoProgram(t *testing.T) {
	for i, p := range wrongProgs() {
		if s, ok := impl.SourceNew(p); ok || !zeroSource(s) {
			t.Error("new", i, s, ok)
		}
		bad(t, "no program", p, loose(p))
		bad(t, "no program, no source", p, impl.Source{})
	}
}

// workProg has two channels and three threads; its bodies have 5, 4 and 2 places.
func workProg() (impl.Prog, impl.Source) {
	p := impl.Prog{Caps: []int{2, 3}, Bodies: [][]impl.Ins{
		{{Op: impl.SrSet, R: 1, N: 6}, {Op: impl.SrSend, A: 1}, {Op: impl.SrPrint, A: 1}, {Op: impl.SrClose}, {Op: impl.SrEnd}},
		{{Op: impl.SrTake, R: 2, B: 3}, {Op: impl.SrZero, A: 3, N: 3}, {Op: impl.SrJump}, {Op: impl.SrEnd}},
		{{Op: impl.SrPrint}, {Op: impl.SrEnd}}}}
	s := impl.Source{Threads: []impl.Thread{{At: 4, Regs: []int{0, 6, 0, 0}, State: 1}, {At: 3, Regs: []int{math.MinInt, 1, 2, math.MaxInt}}, {At: 0, Regs: []int{4, 3, 2, 1}}},
		Chans: []impl.Chan{{Cap: 2, List: []int{3, 4}, Closed: true}, {Cap: 3, List: []int{math.MinInt}}}, Trace: []impl.Note{{Who: 0, V: 6}, {Who: 2, V: math.MinInt}}}
	return p, s
}

func TestSourceOkOrdinary(t *testing.T) {
	p, s := workProg()
	if !impl.SourceOk(p, s) {
		t.Fatal("a source at work")
	}
	for who, body := range p.Bodies {
		for at := range body {
			for state := range 3 {
				d := cloneSource(s)
				d.Threads[who].At, d.Threads[who].State = at, state
				if !impl.SourceOk(p, d) {
					t.Error("any state at any place", who, at, state)
				}
			}
		}
	}
}

func TestSourceOkThreads(t *testing.T) {
	p, s := workProg()
	for who, body := range p.Bodies {
		for _, at := range []int{math.MinInt, -1, len(body), len(body) + 1, math.MaxInt} {
			d := cloneSource(s)
			d.Threads[who].At = at
			bad(t, "at", p, d)
		}
		for _, state := range []int{math.MinInt, -1, 3, 4, math.MaxInt} {
			d := cloneSource(s)
			d.Threads[who].State = state
			bad(t, "state", p, d)
		}
		for _, count := range []int{0, 1, 3, 5, 8, 100000} {
			d := cloneSource(s)
			d.Threads[who].Regs = make([]int, count)
			bad(t, "registers", p, d)
		}
		d := cloneSource(s)
		d.Threads = slices.Delete(d.Threads, who, who+1)
		bad(t, "too few threads", p, d)
		d = cloneSource(s)
		d.Threads = slices.Insert(d.Threads, who, impl.Thread{Regs: make([]int, 4)})
		bad(t, "too many threads", p, d)
	}
	d := cloneSource(s)
	d.Threads = nil
	bad(t, "no threads", p, d)
	d.Threads = make([]impl.Thread, 100000)
	bad(t, "many threads", p, d)
}

func TestSourceOkChans(t *testing.T) {
	p, s := workProg()
	for n := range p.Caps {
		for _, c := range []impl.Chan{{}, {Cap: 1}, {Cap: 4}, {Cap: 5}, {Cap: -1}, {Cap: math.MinInt}, {Cap: math.MaxInt}, {Cap: p.Caps[1-n]},
			{Cap: p.Caps[n], List: make([]int, p.Caps[n]+1)}, {Cap: p.Caps[n], List: make([]int, 100000), Closed: true}, {Cap: 4, List: make([]int, 4)}} {
			d := cloneSource(s)
			d.Chans[n] = c
			bad(t, "channel", p, d)
		}
		d := cloneSource(s)
		d.Chans = slices.Delete(d.Chans, n, n+1)
		bad(t, "too few channels", p, d)
		d = cloneSource(s)
		d.Chans = slices.Insert(d.Chans, n+1, impl.Chan{Cap: p.Caps[n]})
		bad(t, "too many channels", p, d)
		for count := range p.Caps[n] + 1 {
			for _, closed := range []bool{false, true} {
				d = cloneSource(s)
				d.Chans[n] = impl.Chan{Cap: p.Caps[n], List: make([]int, count), Closed: closed}
				if !impl.SourceOk(p, d) {
					t.Error("refused", d.Chans)
				}
			}
		}
	}
	q := impl.Prog{Bodies: [][]impl.Ins{endsOf(1)}}
	bad(t, "channels of a program without", q, impl.Source{Threads: []impl.Thread{{Regs: make([]int, 4)}}, Chans: []impl.Chan{{Cap: 1}}})
}

func TestSourceOkTrace(t *testing.T) {
	p, s := workProg()
	for _, who := range []int{math.MinInt, -1, 3, 4, math.MaxInt} {
		for at := range 3 {
			d := cloneSource(s)
			d.Trace = slices.Insert(d.Trace, at, impl.Note{Who: who, V: 1})
			bad(t, "a note of nobody", p, d)
		}
	}
	for _, count := range []int{0, 1, 3999, 4000, 4001, 4002, 100000} {
		d := cloneSource(s)
		d.Trace = slices.Repeat([]impl.Note{{Who: 2, V: math.MaxInt}}, count)
		if impl.SourceOk(p, d) != (count <= 4000) {
			t.Error("notes", count)
		}
		if count > 4000 {
			bad(t, "too many notes", p, d)
			continue
		}
		if count > 0 {
			d.Trace[count-1].Who = 3
			bad(t, "the last note is of nobody", p, d)
		}
	}
}

// A step of each kind, with what becomes of it written out. The thread has the registers 5, -2, 0 and 9.
func TestStepOfEachKind(t *testing.T) {
	shut := impl.Chan{Cap: 2, Closed: true}
	none := impl.Chan{Cap: 2}
	some := impl.Chan{Cap: 2, List: []int{70}}
	full := impl.Chan{Cap: 2, List: []int{70, 71}}
	rows := []struct {
		name   string
		x      impl.Ins
		before impl.Chan
		after  impl.Chan
		th     impl.Thread
		code   int
	}{
		{"set", impl.Ins{Op: 1, R: 2, N: -8}, none, none, impl.Thread{At: 2, Regs: []int{5, -2, -8, 9}}, 0},
		{"add", impl.Ins{Op: 2, R: 2, A: 0, B: 3}, none, none, impl.Thread{At: 2, Regs: []int{5, -2, 14, 9}}, 0},
		{"sub", impl.Ins{Op: 3, R: 0, A: 0, B: 3}, none, none, impl.Thread{At: 2, Regs: []int{-4, -2, 0, 9}}, 0},
		{"less", impl.Ins{Op: 4, R: 3, A: 1, B: 3}, none, none, impl.Thread{At: 2, Regs: []int{5, -2, 0, 1}}, 0},
		{"not less", impl.Ins{Op: 4, R: 3, A: 3, B: 1}, none, none, impl.Thread{At: 2, Regs: []int{5, -2, 0, 0}}, 0},
		{"not less than itself", impl.Ins{Op: 4, R: 3, A: 3, B: 3}, none, none, impl.Thread{At: 2, Regs: []int{5, -2, 0, 0}}, 0},
		{"send", impl.Ins{Op: 5, A: 1}, some, impl.Chan{Cap: 2, List: []int{70, -2}}, impl.Thread{At: 2, Regs: []int{5, -2, 0, 9}}, 0},
		{"send to a full one", impl.Ins{Op: 5, A: 1}, full, full, impl.Thread{At: 1, Regs: []int{5, -2, 0, 9}}, 4},
		{"send to a closed one", impl.Ins{Op: 5, A: 1}, shut, shut, impl.Thread{At: 1, Regs: []int{5, -2, 0, 9}, State: 2}, 0},
		{"take", impl.Ins{Op: 6, R: 3, B: 2}, full, impl.Chan{Cap: 2, List: []int{71}}, impl.Thread{At: 2, Regs: []int{5, -2, 1, 70}}, 0},
		{"take of one that has none", impl.Ins{Op: 6, R: 3, B: 2}, none, none, impl.Thread{At: 1, Regs: []int{5, -2, 0, 9}}, 4},
		{"take of one that is closed", impl.Ins{Op: 6, R: 3, B: 0}, shut, shut, impl.Thread{At: 2, Regs: []int{0, -2, 0, 0}}, 0},
		{"trysend", impl.Ins{Op: 7, R: 1, A: 1}, some, impl.Chan{Cap: 2, List: []int{70, -2}}, impl.Thread{At: 2, Regs: []int{5, 1, 0, 9}}, 0},
		{"trysend to a full one", impl.Ins{Op: 7, R: 1, A: 3}, full, full, impl.Thread{At: 2, Regs: []int{5, 0, 0, 9}}, 0},
		{"trysend to a closed one", impl.Ins{Op: 7, R: 1, A: 3}, shut, shut, impl.Thread{At: 1, Regs: []int{5, -2, 0, 9}, State: 2}, 0},
		{"trytake", impl.Ins{Op: 8, R: 0, B: 1}, some, none, impl.Thread{At: 2, Regs: []int{70, 1, 0, 9}}, 0},
		{"trytake of one that has none", impl.Ins{Op: 8, R: 0, B: 1}, none, none, impl.Thread{At: 2, Regs: []int{0, 0, 0, 9}}, 0},
		{"trytake of one that is closed", impl.Ins{Op: 8, R: 0, B: 1}, shut, shut, impl.Thread{At: 2, Regs: []int{0, 2, 0, 9}}, 0},
		{"close", impl.Ins{Op: 9}, some, impl.Chan{Cap: 2, List: []int{70}, Closed: true}, impl.Thread{At: 2, Regs: []int{5, -2, 0, 9}}, 0},
		{"close of a closed one", impl.Ins{Op: 9}, shut, shut, impl.Thread{At: 1, Regs: []int{5, -2, 0, 9}, State: 2}, 0},
		{"print", impl.Ins{Op: 10, A: 3}, none, none, impl.Thread{At: 2, Regs: []int{5, -2, 0, 9}}, 0},
		{"jump", impl.Ins{Op: 11, N: 0}, none, none, impl.Thread{At: 0, Regs: []int{5, -2, 0, 9}}, 0},
		{"jump to itself", impl.Ins{Op: 11, N: 1}, none, none, impl.Thread{At: 1, Regs: []int{5, -2, 0, 9}}, 0},
		{"zero", impl.Ins{Op: 12, A: 2, N: 3}, none, none, impl.Thread{At: 3, Regs: []int{5, -2, 0, 9}}, 0},
		{"not zero", impl.Ins{Op: 12, A: 1, N: 3}, none, none, impl.Thread{At: 2, Regs: []int{5, -2, 0, 9}}, 0},
		{"end", impl.Ins{Op: 13}, none, none, impl.Thread{At: 1, Regs: []int{5, -2, 0, 9}, State: 1}, 0},
	}
	other := impl.Thread{At: 0, Regs: []int{11, 12, 13, 14}}
	for _, row := range rows {
		body := endsOf(4)
		body[1] = row.x
		p := impl.Prog{Caps: []int{2}, Bodies: [][]impl.Ins{endsOf(1), body}}
		s := impl.Source{Threads: []impl.Thread{other, {At: 1, Regs: []int{5, -2, 0, 9}}}, Chans: []impl.Chan{row.before}, Trace: []impl.Note{{Who: 0, V: 3}}}
		want := impl.Source{Threads: []impl.Thread{other, row.th}, Chans: []impl.Chan{row.after}, Trace: []impl.Note{{Who: 0, V: 3}}}
		if row.name == "print" {
			want.Trace = []impl.Note{{Who: 0, V: 3}, {Who: 1, V: 9}}
		}
		if d, code := impl.SourceStep(p, s, 1); code != row.code || !sameSource(d, want) {
			t.Errorf("%s: %v %v, not %v %v", row.name, d, code, want, row.code)
		}
	}
}

func TestSumsWrap(t *testing.T) {
	lo, hi := math.MinInt, math.MaxInt
	for _, row := range [][4]int{{hi, 1, lo, hi - 1}, {lo, -1, hi, lo + 1}, {lo, lo, 0, 0}, {hi, hi, -2, 0}, {0, lo, lo, lo}, {lo, 1, lo + 1, hi}, {-1, lo, hi, hi}, {hi, lo, -1, -1}, {hi, -1, hi - 1, lo}} {
		for at, op := range []int{impl.SrAdd, impl.SrSub} {
			p := impl.Prog{Bodies: [][]impl.Ins{{{Op: op, R: 2, A: 0, B: 1}, {Op: impl.SrEnd}}}}
			s := impl.Source{Threads: []impl.Thread{{Regs: []int{row[0], row[1], 77, 78}}}}
			d, code := impl.SourceStep(p, s, 0)
			if code != impl.PkDone || !slices.Equal(d.Threads[0].Regs, []int{row[0], row[1], row[2+at], 78}) {
				t.Error(op, row, d, code)
			}
		}
		p := impl.Prog{Bodies: [][]impl.Ins{{{Op: impl.SrLess, R: 2, A: 0, B: 1}, {Op: impl.SrEnd}}}}
		d, code := impl.SourceStep(p, impl.Source{Threads: []impl.Thread{{Regs: []int{row[0], row[1], 77, 78}}}}, 0)
		if code != impl.PkDone || (d.Threads[0].Regs[2] == 1) != (row[0] < row[1]) || d.Threads[0].Regs[2] > 1 {
			t.Error("less", row, d, code)
		}
	}
}

func TestStepsAsTold(t *testing.T) {
	count := map[int]int{}
	eachStep(func(p impl.Prog, s impl.Source, who int) {
		_, code := steps(t, p, s, who)
		count[code]++
	})
	if count[impl.PkDone] < 1000 || count[impl.PkWait] < 100 || len(count) != 2 {
		t.Error("codes", count)
	}
}

// Promise 4, of single steps of each kind.
func TestStepTurnsItsOwnThread(t *testing.T) {
	eachStep(func(p impl.Prog, s impl.Source, who int) {
		for i := range s.Threads {
			turnsLittle(t, p, s, i)
		}
		turnsLittle(t, p, s, -1)
		turnsLittle(t, p, s, 3)
	})
}

// What follows: who waits changes nothing, however often, and goes on when another has done its part.
func TestWhoWaitsChangesNothing(t *testing.T) {
	p := impl.Prog{Caps: []int{1}, Bodies: [][]impl.Ins{
		{{Op: impl.SrSet, R: 0, N: 5}, {Op: impl.SrSend, A: 0}, {Op: impl.SrSend, A: 0}, {Op: impl.SrEnd}},
		{{Op: impl.SrTake, R: 0, B: 1}, {Op: impl.SrTake, R: 2, B: 3}, {Op: impl.SrTake, R: 2, B: 3}, {Op: impl.SrEnd}}}}
	s, _ := impl.SourceNew(p)
	waits := func(who int) {
		t.Helper()
		for range 3 {
			if d, code := impl.SourceStep(p, s, who); code != impl.PkWait || !sameSource(s, d) {
				t.Fatal(who, code, d)
			}
		}
	}
	goes := func(who int) {
		t.Helper()
		d, code := impl.SourceStep(p, s, who)
		if code != impl.PkDone {
			t.Fatal(who, code, d)
		}
		s = d
	}
	waits(1)
	goes(0)
	waits(1)
	goes(0)
	waits(0)
	goes(1)
	waits(1)
	goes(0)
	goes(1)
	waits(1)
	goes(0)
	waits(1)
	want := impl.Source{Threads: []impl.Thread{{At: 3, Regs: []int{5, 0, 0, 0}, State: 1}, {At: 2, Regs: []int{5, 1, 5, 1}}}, Chans: []impl.Chan{{Cap: 1}}}
	if !sameSource(s, want) {
		t.Error(s)
	}
}

func TestThreadsThatAreNone(t *testing.T) {
	p, s := workProg()
	over := cloneSource(s)
	for i := range over.Threads {
		over.Threads[i].State = 1 + i%2
	}
	over.Trace = slices.Repeat([]impl.Note{{Who: 1, V: 1}}, 4000)
	for _, who := range []int{math.MinInt, -4, -1, 3, 4, 5, math.MaxInt} {
		for _, from := range []impl.Source{s, over} {
			if d, code := impl.SourceStep(p, from, who); code != impl.PkNone || !sameSource(d, from) {
				t.Error(who, code)
			}
		}
	}
}

func TestThreadsThatDoNotRun(t *testing.T) {
	eachStep(func(p impl.Prog, s impl.Source, who int) {
		for state := 1; state <= 2; state++ {
			d := cloneSource(s)
			d.Threads[who].State = state
			if e, code := impl.SourceStep(p, d, who); code != impl.PkOver || !sameSource(d, e) {
				t.Error(state, p.Bodies[who], code, e)
			}
		}
	})
}

// A last place has none behind it: it is an end, or jumps.
func TestLastPlaces(t *testing.T) {
	for places := 1; places <= impl.MaxIns; places++ {
		last := places - 1
		body := endsOf(places)
		p := impl.Prog{Bodies: [][]impl.Ins{body}}
		s := impl.Source{Threads: []impl.Thread{{At: last, Regs: []int{1, 2, 3, 4}}}}
		d, code := impl.SourceStep(p, s, 0)
		if want := (impl.Thread{At: last, Regs: []int{1, 2, 3, 4}, State: 1}); code != impl.PkDone || !sameThread(d.Threads[0], want) {
			t.Error("end", places, d, code)
		}
		if e, code := impl.SourceStep(p, d, 0); code != impl.PkOver || !sameSource(d, e) {
			t.Error("ended", places, e, code)
		}
		for to := range places {
			body[last] = impl.Ins{Op: impl.SrJump, N: to}
			d, code = impl.SourceStep(p, s, 0)
			if want := (impl.Thread{At: to, Regs: []int{1, 2, 3, 4}}); code != impl.PkDone || !sameThread(d.Threads[0], want) {
				t.Error("jump", places, to, d, code)
			}
		}
		if places == 1 {
			continue
		}
		body[last] = impl.Ins{Op: impl.SrEnd}
		body[last-1] = impl.Ins{Op: impl.SrZero, A: 0, N: 0}
		s.Threads[0].At = last - 1
		d, code = impl.SourceStep(p, s, 0)
		if code != impl.PkDone || d.Threads[0].At != last || d.Threads[0].State != 0 {
			t.Error("one ahead of the last", places, d, code)
		}
	}
}

// A fault stays where it is: the thread runs no more, its registers and the channel are as they were.
func TestFaultsStay(t *testing.T) {
	for _, x := range []impl.Ins{{Op: impl.SrSend, A: 1}, {Op: impl.SrTrySend, R: 2, A: 1}, {Op: impl.SrClose}} {
		for count := range 3 {
			p := impl.Prog{Caps: []int{2}, Bodies: [][]impl.Ins{{x, {Op: impl.SrEnd}}, {{Op: impl.SrTryTake, R: 0, B: 1}, {Op: impl.SrEnd}}}}
			s := impl.Source{Threads: []impl.Thread{{Regs: []int{4, 5, 6, 7}}, {Regs: []int{8, 8, 8, 8}}}, Chans: []impl.Chan{{Cap: 2, List: []int{1, 2}[:count], Closed: true}}}
			d, code := impl.SourceStep(p, s, 0)
			want := cloneSource(s)
			want.Threads[0].State = 2
			if code != impl.PkDone || !sameSource(d, want) {
				t.Error("fault", x, count, d, code)
			}
			if e, code := impl.SourceStep(p, d, 0); code != impl.PkOver || !sameSource(d, e) {
				t.Error("faulted", x, count, e, code)
			}
			if _, code := steps(t, p, d, 1); code != impl.PkDone {
				t.Error("the others go on", x, count, code)
			}
		}
	}
}

func TestTraceIsFull(t *testing.T) {
	notes := make([]impl.Note, 4000)
	for i := range notes {
		notes[i] = impl.Note{Who: i % 3, V: i * i}
	}
	for _, count := range []int{0, 1, 3998, 3999, 4000} {
		eachPlace(3, func(x impl.Ins) {
			if x.R+x.A+x.B > 1 || x.N != 0 {
				return
			}
			p := placeProg(x, 2, 1, 3)
			s := placeSource(p, 1, []int{0, 3, 4, 5}, 1, 0)
			s.Trace = notes[:count]
			d, code := steps(t, p, s, 2)
			switch {
			case x.Op == impl.SrPrint && count == 4000:
				if code != impl.PkOver || !sameSource(s, d) {
					t.Error("full", x, code)
				}
			case x.Op == impl.SrPrint:
				if code != impl.PkDone || len(d.Trace) != count+1 || d.Trace[count] != (impl.Note{Who: 2, V: s.Threads[2].Regs[x.A]}) {
					t.Error("room", x, code)
				}
			case code == impl.PkOver || len(d.Trace) != count:
				t.Error("no print", x, code)
			}
		})
	}
	p, s := workProg()
	s.Trace = notes
	s.Threads[2].State = 1
	if d, code := impl.SourceStep(p, s, 2); code != impl.PkOver || !sameSource(s, d) {
		t.Error("full and ended", code)
	}
}

// What is printed is told in its order, by whom.
func TestWhoPrintedWhat(t *testing.T) {
	var p impl.Prog
	for who := range 4 {
		p.Bodies = append(p.Bodies, []impl.Ins{{Op: impl.SrSet, R: who, N: 10 * who}, {Op: impl.SrPrint, A: who}, {Op: impl.SrPrint, A: (who + 1) % 4}, {Op: impl.SrEnd}})
	}
	s, _ := impl.SourceNew(p)
	for _, who := range []int{3, 2, 1, 0, 2, 3, 3, 0, 1, 1, 2, 0, 0} {
		s, _ = steps(t, p, s, who)
	}
	want := []impl.Note{{Who: 2, V: 20}, {Who: 3, V: 30}, {Who: 3, V: 0}, {Who: 0, V: 0}, {Who: 1, V: 10}, {Who: 1, V: 0}, {Who: 2, V: 0}, {Who: 0, V: 0}}
	if !slices.Equal(s.Trace, want) || s.Threads[0].State != 1 || s.Threads[3].State != 0 {
		t.Error(s)
	}
}

// Promise 4, along runs: all orders of two threads that hand each other numbers.
func TestAllOrdersOfTwo(t *testing.T) {
	p, _ := sampleProg()
	const picks = 11
	ends := map[int]int{}
	for order := range 1 << picks {
		s, _ := impl.SourceNew(p)
		for turn := range picks {
			who := order >> turn & 1
			turnsLittle(t, p, s, who)
			d, code := steps(t, p, s, who)
			s = d
			ends[code]++
		}
	}
	if ends[impl.PkDone] == 0 || ends[impl.PkWait] == 0 || ends[impl.PkOver] == 0 {
		t.Error("codes", ends)
	}
}

// Promise 4, along runs of programs of all counts, with each kind of place.
func TestRunsOfSteps(t *testing.T) {
	next := uint64(7)
	codes := map[int]int{}
	eachProg(func(p impl.Prog) {
		s, _ := impl.SourceNew(p)
		for range 60 {
			next = next*6364136223846793005 + 1442695040888963407
			who := int(next>>40) % len(p.Bodies)
			turnsLittle(t, p, s, who)
			d, code := steps(t, p, s, who)
			s = d
			codes[code]++
		}
	})
	if codes[impl.PkDone] == 0 || codes[impl.PkWait] == 0 || codes[impl.PkOver] == 0 || codes[impl.PkBad] != 0 {
		t.Error("codes", codes)
	}
}

// spareSource has something in the spare room behind each of its lists.
func spareSource(s impl.Source) impl.Source {
	d := impl.Source{Threads: slices.Concat(s.Threads, []impl.Thread{{At: -9, Regs: []int{-9}, State: -9}})[:len(s.Threads)],
		Chans: slices.Concat(s.Chans, []impl.Chan{{Cap: -9, List: []int{-9}}})[:len(s.Chans)],
		Trace: slices.Concat(s.Trace, []impl.Note{{Who: -9, V: -9}, {Who: -8, V: -8}})[:len(s.Trace)]}
	for i, th := range d.Threads {
		d.Threads[i].Regs = slices.Concat(th.Regs, []int{-21, -22})[:len(th.Regs)]
	}
	for i, c := range d.Chans {
		d.Chans[i] = spareChan(c)
	}
	return d
}

// wholeSource copies all that the lists of a source hold, spare room and all.
func wholeSource(s impl.Source) []any {
	threads, chans := slices.Clone(s.Threads[:cap(s.Threads)]), slices.Clone(s.Chans[:cap(s.Chans)])
	for i, th := range threads {
		threads[i].Regs = slices.Clone(th.Regs[:cap(th.Regs)])
	}
	for i, c := range chans {
		chans[i].List = slices.Clone(c.List[:cap(c.List)])
	}
	return []any{threads, chans, slices.Clone(s.Trace[:cap(s.Trace)])}
}

// innerLists are the lists of numbers within a source.
func innerLists(s impl.Source) [][]int {
	var out [][]int
	for _, th := range s.Threads {
		out = append(out, th.Regs)
	}
	for _, c := range s.Chans {
		out = append(out, c.List)
	}
	return out
}

// writeOverSource writes over all lists of a source, and over the spare room behind them.
func writeOverSource(s impl.Source) {
	for _, list := range innerLists(s) {
		scribble(list)
	}
	threads, chans, trace := s.Threads[:cap(s.Threads)], s.Chans[:cap(s.Chans)], s.Trace[:cap(s.Trace)]
	for i := range threads {
		threads[i] = impl.Thread{At: -77, State: -77}
	}
	for i := range chans {
		chans[i] = impl.Chan{Cap: -77, Closed: true}
	}
	for i := range trace {
		trace[i] = impl.Note{Who: -77, V: -77}
	}
}

// listsLieApart asks that no two lists of an answer share memory: each is written over, one behind the other.
func listsLieApart(t *testing.T, s impl.Source) {
	t.Helper()
	lists := innerLists(s)
	var before [][]int
	for _, list := range lists {
		before = append(before, slices.Clone(list))
	}
	for i := range lists {
		scribble(lists[i])
		for j := i + 1; j < len(lists); j++ {
			if !slices.Equal(before[j], lists[j]) {
				t.Error("lists share memory", i, j)
			}
		}
	}
}

// eachCall calls look with sources at each kind of step, right ones and wrong ones.
func eachCall(look func(p impl.Prog, s impl.Source, who int)) {
	turn := 0
	eachStep(func(p impl.Prog, s impl.Source, who int) {
		turn++
		switch turn % 8 {
		case 0:
			who = 3
		case 1:
			s.Threads[who].State = 1
		case 2:
			s.Threads[1].At = 2
		case 3:
			s.Chans[0].Cap = 1
		}
		look(p, s, who)
	})
}

// Promise 18: nothing is written into an argument, nor behind it, nor read there.
func TestChapterFourWritesIntoNoArgument(t *testing.T) {
	eachCall(func(p impl.Prog, s impl.Source, who int) {
		spare := spareSource(s)
		before, prog := wholeSource(spare), wholeProg(p)
		got, code := impl.SourceStep(p, spare, who)
		right := impl.SourceOk(p, spare)
		impl.SourceNew(p)
		if !reflect.DeepEqual(before, wholeSource(spare)) || !reflect.DeepEqual(prog, wholeProg(p)) {
			t.Error("written into", p, s, who)
		}
		if want, wanted := stepWanted(p, s, who); code != wanted || !sameSource(got, want) || right != sourceRight(p, s) {
			t.Error("read behind the list", p, s, who, got, code)
		}
	})
	unwritten(t, func(p impl.Prog, right bool) {
		s, ok := impl.SourceNew(p)
		if ok != right || impl.SourceOk(p, s) != right {
			t.Error("new", p, ok)
		}
		d, code := impl.SourceStep(p, s, 0)
		if (code == impl.PkDone) != right || zeroSource(d) == right {
			t.Error("step", p, d, code)
		}
	})
}

// Promise 18: an answer is new memory, and nothing is kept between calls.
func TestChapterFourAnswersNewMemory(t *testing.T) {
	eachCall(func(p impl.Prog, s impl.Source, who int) {
		spare := spareSource(s)
		before, prog := wholeSource(spare), wholeProg(p)
		first, code := impl.SourceStep(p, spare, who)
		second, _ := impl.SourceStep(p, spare, who)
		want := cloneSource(first)
		writeOverSource(first)
		if !reflect.DeepEqual(before, wholeSource(spare)) || !reflect.DeepEqual(prog, wholeProg(p)) {
			t.Error("the answer lies in the argument", p, s, who, code)
		}
		if !sameSource(second, want) {
			t.Error("two answers share memory", p, s, who, code)
		}
		writeOverSource(spare)
		if !sameSource(second, want) {
			t.Error("the argument lies in the answer", p, s, who, code)
		}
		listsLieApart(t, second)
		if again, _ := impl.SourceStep(p, s, who); !sameSource(again, want) {
			t.Error("something was kept", p, s, who, code)
		}
	})
}

// Promise 18: a new source is new memory, and its lists lie apart.
func TestSourceNewAnswersNewMemory(t *testing.T) {
	eachProg(func(p impl.Prog) {
		prog := wholeProg(p)
		first, _ := impl.SourceNew(p)
		second, _ := impl.SourceNew(p)
		want := cloneSource(second)
		writeOverSource(first)
		if !reflect.DeepEqual(prog, wholeProg(p)) || !sameSource(second, want) {
			t.Error("shared", p)
		}
		listsLieApart(t, second)
		if third, ok := impl.SourceNew(p); !ok || !sameSource(third, want) {
			t.Error("something was kept", p)
		}
	})
}

// Promise 18: what is stepped from one source twice makes two sources.
func TestSourcesGoApart(t *testing.T) {
	p := impl.Prog{Caps: []int{4}, Bodies: [][]impl.Ins{
		{{Op: impl.SrPrint}, {Op: impl.SrSend}, {Op: impl.SrJump}}, {{Op: impl.SrSet, N: 8}, {Op: impl.SrPrint}, {Op: impl.SrSend}, {Op: impl.SrEnd}}}}
	s, _ := impl.SourceNew(p)
	for _, who := range []int{1, 0, 0, 0} {
		s, _ = steps(t, p, s, who)
	}
	a, _ := steps(t, p, s, 0)
	b, _ := steps(t, p, s, 1)
	c, _ := steps(t, p, a, 1)
	if len(s.Trace) != 1 || a.Trace[1] != (impl.Note{}) || b.Trace[1] != (impl.Note{Who: 1, V: 8}) || len(c.Trace) != 3 || c.Trace[1] != (impl.Note{}) {
		t.Error(s.Trace, a.Trace, b.Trace, c.Trace)
	}
	d, _ := steps(t, p, a, 0)
	e, _ := steps(t, p, b, 1)
	if !slices.Equal(d.Chans[0].List, []int{0, 0}) || !slices.Equal(e.Chans[0].List, []int{0, 8}) || !slices.Equal(s.Chans[0].List, []int{0}) {
		t.Error(d.Chans, e.Chans, s.Chans)
	}
}
