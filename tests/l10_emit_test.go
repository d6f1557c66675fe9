package tests

import (
	"math"
	"slices"
	"strconv"
	"strings"
	"testing"

	"loop.example/g00238/impl"
)

// stepOrder says in which order the listings below have the fields of each kind of step.
func stepOrder() map[string]string {
	return map[string]string{"set": "RN", "add": "RAB", "sub": "RAB", "less": "RAB", "load": "RNA", "store": "NAB", "let": "NAB",
		"swap": "RNB", "print": "A", "jump": "N", "zero": "AN", "end": "", "fault": ""}
}

// The document's listings once more, step by step, with each jump's step written out: f is the step from, b where the
// channel begins, c its room, s the first step of the place N; R, A, B and N are the place's own.
const (
	lockLines  = "set 7 1|swap 6 b 7|zero 6 f+4|jump f|"
	sendLines  = lockLines + "load 4 b+3 -1|zero 4 f+9|set 7 0|let b -1 7|fault|load 5 b+2 -1|set 7 c|less 6 5 7|zero 6 f+26|load 4 b+1 -1|add 4 4 5|less 6 4 7|zero 6 f+18|jump f+19|sub 4 4 7|store b+4 4 A|set 7 1|add 5 5 7|store b+2 -1 5|set 7 0|let b -1 7|jump f+29|set 7 0|let b -1 7|jump f"
	tryLines   = lockLines + "load 4 b+3 -1|zero 4 f+9|set 7 0|let b -1 7|fault|load 5 b+2 -1|set 7 c|less 6 5 7|zero 6 f+27|load 4 b+1 -1|add 4 4 5|less 6 4 7|zero 6 f+18|jump f+19|sub 4 4 7|store b+4 4 A|set 7 1|add 5 5 7|store b+2 -1 5|set 7 0|let b -1 7|set R 1|jump f+31|set 7 0|let b -1 7|set R 0|jump f+31"
	takeLines  = lockLines + "load 5 b+2 -1|zero 5 f+22|load 4 b+1 -1|load R b+4 4|set 7 1|add 4 4 7|sub 5 5 7|set 7 c|less 6 4 7|zero 6 f+15|jump f+16|set 4 0|store b+1 -1 4|store b+2 -1 5|set 7 0|let b -1 7|set B 1|jump f+30|load 4 b+3 -1|set 7 0|let b -1 7|zero 4 f+29|set R 0|set B 0|jump f+30|jump f"
	triedLines = lockLines + "load 5 b+2 -1|zero 5 f+22|load 4 b+1 -1|load R b+4 4|set 7 1|add 4 4 7|sub 5 5 7|set 7 c|less 6 4 7|zero 6 f+15|jump f+16|set 4 0|store b+1 -1 4|store b+2 -1 5|set 7 0|let b -1 7|set B 1|jump f+32|load 4 b+3 -1|set 7 0|let b -1 7|zero 4 f+29|set R 0|set B 2|jump f+32|set R 0|set B 0|jump f+32"
	closeLines = lockLines + "load 4 b+3 -1|zero 4 f+9|set 7 0|let b -1 7|fault|set 7 1|store b+3 -1 7|set 7 0|let b -1 7"
)

// emitLines are the listings by their ops.
func emitLines() []string {
	return []string{"", "set R N", "add R A B", "sub R A B", "less R A B", sendLines, takeLines, tryLines, triedLines, closeLines, "print A", "jump s", "zero A s", "end"}
}

// sizesWanted are the document's numbers by their ops.
func sizesWanted() []int { return []int{0, 1, 1, 1, 1, 29, 30, 31, 32, 13, 1, 1, 1, 1} }

func isChanOp(op int) bool { return op >= 5 && op <= 9 }

// sumOf is what a word of a listing counts for: a number, a letter, or one of both.
func sumOf(word string, letters map[string]int) int {
	sum := 0
	for _, part := range strings.Split(word, "+") {
		if v, ok := letters[part]; ok {
			sum += v
		} else if v, err := strconv.Atoi(part); err == nil {
			sum += v
		} else {
			panic("a listing with " + part)
		}
	}
	return sum
}

func stepOfLine(line string, letters map[string]int) impl.Step {
	words := strings.Split(line, " ")
	s := impl.Step{}
	for _, k := range stepKinds() {
		if k.name == words[0] {
			s.Op = k.op
		}
	}
	for i, f := range []byte(stepOrder()[words[0]]) {
		s = stepWith(s, f, sumOf(words[i+1], letters))
	}
	return s
}

// emitWanted is the document's Emit once more.
func emitWanted(caps []int, x impl.Ins, from int, starts []int) []impl.Step {
	if !insWanted(x, len(starts), len(caps)) {
		return nil
	}
	letters := map[string]int{"f": from, "R": x.R, "A": x.A, "B": x.B, "N": x.N}
	if isChanOp(x.Op) {
		letters["b"], letters["c"] = baseWanted(caps, x.N), caps[x.N]
		if letters["b"] < 0 {
			return nil
		}
	}
	if x.Op == 11 || x.Op == 12 {
		letters["s"] = starts[x.N]
	}
	var list []impl.Step
	for _, line := range strings.Split(emitLines()[x.Op], "|") {
		list = append(list, stepOfLine(line, letters))
	}
	return list
}

// emits holds Emit against what is wanted, and answers it.
func emits(t *testing.T, caps []int, x impl.Ins, from int, starts []int) []impl.Step {
	t.Helper()
	got := impl.Emit(caps, x, from, starts)
	if want := emitWanted(caps, x, from, starts); !slices.Equal(got, want) {
		t.Errorf("%v from %v by %v, with %v starts: %v, not %v", x, from, caps, len(starts), got, want)
	}
	return got
}

// emitsNothing asks that there is no code.
func emitsNothing(t *testing.T, what string, caps []int, x impl.Ins, from int, starts []int) {
	t.Helper()
	if got := impl.Emit(caps, x, from, starts); len(got) != 0 {
		t.Error(what, caps, x, from, len(starts), got)
	}
}

// eachKindOf goes through right places of each kind, for so many places and channels: all registers and all N that are
// near to an edge.
func eachKindOf(places int, chans int, look func(x impl.Ins)) {
	for _, k := range insKinds() {
		ns := []int{-1000000000, -1, 0, 1, 2, places / 2, places - 1, 1000000000}
		slices.Sort(ns)
		for _, n := range slices.Compact(ns) {
			for regs := range 64 {
				x := impl.Ins{Op: k.op, R: regs % 4, A: regs / 4 % 4, B: regs / 16, N: n}
				if insWanted(x, places, chans) {
					look(x)
				}
			}
		}
	}
}

// someStarts are starts of one place and of many, ascending and not, small ones and those at both ends of 64 bits.
func someStarts() [][]int {
	return [][]int{{0}, {7}, {0, 30, 31}, {31, 30, 0}, {5, 5, 5, 5}, {-1, -800, 3}, slices.Concat(ends64, []int{0}), slices.Repeat([]int{12}, 24), {0, 1, 2, 3, 799, 800, 801}}
}

func someFroms() []int {
	return slices.Concat([]int{0, 1, 2, 4, 29, 30, 31, 100, 768, 799, 800, 801, 1000000, -1, -4, -30}, ends64)
}

func TestEmitSizeRows(t *testing.T) {
	for op, want := range sizesWanted() {
		if got := impl.EmitSize(impl.Ins{Op: op}); got != want {
			t.Error("op", op, got, "not", want)
		}
	}
	for _, op := range slices.Concat([]int{-13, -5, -1, 0, 14, 15, 26, 256 + 5, 1<<32 + 5}, ends64) {
		if got := impl.EmitSize(impl.Ins{Op: op, R: 1, A: 1, B: 2}); got != 0 {
			t.Error("no op", op, got)
		}
	}
}

// The size hangs on the Op alone, though the place be wrong in all else.
func TestEmitSizeOfWrongPlaces(t *testing.T) {
	sizes := sizesWanted()
	eachIns(func(x impl.Ins) {
		want := 0
		if x.Op >= 0 && x.Op <= 13 {
			want = sizes[x.Op]
		}
		if got := impl.EmitSize(x); got != want {
			t.Fatal(x, got, "not", want)
		}
	})
}

// Each kind of place with all registers, by some caps, from several steps, with several starts.
func TestEmitAsTold(t *testing.T) {
	froms, starts := someFroms(), someStarts()
	turn := 0
	for _, caps := range [][]int{nil, {1}, {4}, {2, 3}, {4, 1}, {1, 2, 3}, {4, 4, 4}} {
		for _, list := range starts {
			eachKindOf(len(list), len(caps), func(x impl.Ins) {
				turn++
				got := emits(t, caps, x, froms[turn%len(froms)], list)
				if len(got) != impl.EmitSize(x) || len(got) == 0 {
					t.Fatal("size", x, len(got))
				}
			})
		}
	}
}

// Each channel of all caps that there are: from each step, the first and the last one of all the cells among them.
func TestEmitOfEachChannel(t *testing.T) {
	eachCaps(3, 1, 4, func(caps []int) {
		for n := range caps {
			for turn, from := range someFroms() {
				for op := 5; op <= 9; op++ {
					x := insKinds()[op-1].plain()
					x.N = n
					got := emits(t, caps, x, from, someStarts()[turn%9])
					if len(got) != impl.EmitSize(x) {
						t.Fatal("size", caps, x, len(got))
					}
				}
			}
		}
	})
}

// No starts at all: what does not jump is emitted, what jumps has no place to go to.
func TestEmitWithoutStarts(t *testing.T) {
	for _, starts := range [][]int{nil, {}, make([]int, 0, 4)} {
		for _, k := range insKinds() {
			got := emits(t, []int{2}, k.plain(), 3, starts)
			if want := k.n == "place"; want != (len(got) == 0) {
				t.Error(k.name, got)
			}
		}
	}
}

// The code of one-step places, written out.
func TestEmitRows(t *testing.T) {
	starts := []int{0, 40, 90}
	rows := []struct {
		x    impl.Ins
		want impl.Step
	}{{impl.Ins{Op: impl.SrSet, R: 3, N: -1000000000}, impl.Step{Op: impl.MaSet, R: 3, N: -1000000000}},
		{impl.Ins{Op: impl.SrSet, N: 1000000000}, impl.Step{Op: impl.MaSet, N: 1000000000}},
		{impl.Ins{Op: impl.SrAdd, R: 1, A: 2, B: 3}, impl.Step{Op: impl.MaAdd, R: 1, A: 2, B: 3}},
		{impl.Ins{Op: impl.SrSub, R: 1, A: 2, B: 3}, impl.Step{Op: impl.MaSub, R: 1, A: 2, B: 3}},
		{impl.Ins{Op: impl.SrLess, R: 3, A: 1, B: 0}, impl.Step{Op: impl.MaLess, R: 3, A: 1, B: 0}},
		{impl.Ins{Op: impl.SrPrint, A: 2}, impl.Step{Op: impl.MaPrint, A: 2}},
		{impl.Ins{Op: impl.SrJump}, impl.Step{Op: impl.MaJump}},
		{impl.Ins{Op: impl.SrJump, N: 2}, impl.Step{Op: impl.MaJump, N: 90}},
		{impl.Ins{Op: impl.SrZero, A: 3}, impl.Step{Op: impl.MaZero, A: 3}},
		{impl.Ins{Op: impl.SrZero, A: 1, N: 2}, impl.Step{Op: impl.MaZero, A: 1, N: 90}},
		{impl.Ins{Op: impl.SrEnd}, impl.Step{Op: impl.MaEnd}}}
	for _, row := range rows {
		for _, caps := range [][]int{nil, {1}, {4, 4, 4}} {
			if got := impl.Emit(caps, row.x, 77, starts); !slices.Equal(got, []impl.Step{row.want}) {
				t.Error(row.x, got)
			}
		}
	}
}

// The code of a close and the ends of the others, written out: the channel begins at cell 5 and has room for 2.
func TestEmitOfChannelsRows(t *testing.T) {
	caps, starts := []int{1, 2}, []int{0}
	shut := []impl.Step{{Op: impl.MaSet, R: 7, N: 1}, {Op: impl.MaSwap, R: 6, B: 7, N: 5}, {Op: impl.MaZero, A: 6, N: 14}, {Op: impl.MaJump, N: 10},
		{Op: impl.MaLoad, R: 4, A: -1, N: 8}, {Op: impl.MaZero, A: 4, N: 19}, {Op: impl.MaSet, R: 7}, {Op: impl.MaLet, A: -1, B: 7, N: 5}, {Op: impl.MaFault},
		{Op: impl.MaSet, R: 7, N: 1}, {Op: impl.MaStore, A: -1, B: 7, N: 8}, {Op: impl.MaSet, R: 7}, {Op: impl.MaLet, A: -1, B: 7, N: 5}}
	if got := impl.Emit(caps, impl.Ins{Op: impl.SrClose, N: 1}, 10, starts); !slices.Equal(got, shut) {
		t.Error("close", got)
	}
	letGo := []impl.Step{{Op: impl.MaSet, R: 7}, {Op: impl.MaLet, A: -1, B: 7, N: 5}}
	rows := []struct {
		x    impl.Ins
		from int
		want []impl.Step
	}{{impl.Ins{Op: impl.SrSend, A: 3, N: 1}, 25, []impl.Step{{Op: impl.MaJump, N: 39}, letGo[0], letGo[1], {Op: impl.MaJump, N: 10}}},
		{impl.Ins{Op: impl.SrSend, A: 3, N: 1}, 18, []impl.Step{{Op: impl.MaSub, R: 4, A: 4, B: 7}, {Op: impl.MaStore, A: 4, B: 3, N: 9}}},
		{impl.Ins{Op: impl.SrTrySend, R: 2, A: 3, N: 1}, 25, []impl.Step{{Op: impl.MaSet, R: 2, N: 1}, {Op: impl.MaJump, N: 41}, letGo[0], letGo[1], {Op: impl.MaSet, R: 2}, {Op: impl.MaJump, N: 41}}},
		{impl.Ins{Op: impl.SrTake, R: 1, B: 2, N: 1}, 20, []impl.Step{{Op: impl.MaSet, R: 2, N: 1}, {Op: impl.MaJump, N: 40}, {Op: impl.MaLoad, R: 4, A: -1, N: 8}, letGo[0], letGo[1],
			{Op: impl.MaZero, A: 4, N: 39}, {Op: impl.MaSet, R: 1}, {Op: impl.MaSet, R: 2}, {Op: impl.MaJump, N: 40}, {Op: impl.MaJump, N: 10}}},
		{impl.Ins{Op: impl.SrTryTake, R: 1, B: 2, N: 1}, 20, []impl.Step{{Op: impl.MaSet, R: 2, N: 1}, {Op: impl.MaJump, N: 42}, {Op: impl.MaLoad, R: 4, A: -1, N: 8}, letGo[0], letGo[1],
			{Op: impl.MaZero, A: 4, N: 39}, {Op: impl.MaSet, R: 1}, {Op: impl.MaSet, R: 2, N: 2}, {Op: impl.MaJump, N: 42}, {Op: impl.MaSet, R: 1}, {Op: impl.MaSet, R: 2}, {Op: impl.MaJump, N: 42}}}}
	for _, row := range rows {
		got := impl.Emit(caps, row.x, 10, starts)
		if len(got) < row.from+len(row.want) || !slices.Equal(got[row.from:row.from+len(row.want)], row.want) {
			t.Error(row.x, row.from, got)
		}
	}
}

// Promise 10: the code is as long as it is told, each step is right, and each jump goes to one of its steps, to the step
// behind it, or to a first step.
func TestJumpsGoWithinOrToFirstSteps(t *testing.T) {
	firsts := []int{0, 29, 60, 100, 101}
	for _, caps := range [][]int{nil, {1}, {4}, {2, 3}, {1, 2, 3}, {4, 4, 4}} {
		for _, from := range []int{0, 1, 29, 100, 101, 768, 5000} {
			eachKindOf(len(firsts), len(caps), func(x impl.Ins) {
				list := impl.Emit(caps, x, from, firsts)
				if len(list) != impl.EmitSize(x) {
					t.Fatal("size", x, len(list))
				}
				for i, s := range list {
					if !impl.StepOk(s, max(from, 101)+len(list)+1) {
						t.Fatal("step", x, i, s)
					}
					if s.Op != impl.MaJump && s.Op != impl.MaZero {
						continue
					}
					within := s.N >= from && s.N <= from+len(list)
					if place := x.Op == impl.SrJump || x.Op == impl.SrZero; place && s.N != firsts[x.N] || !place && !within {
						t.Fatal("jump", x, i, s)
					}
				}
			})
		}
	}
}

// Promise 10: the code moves with the step from: all of its jumps go as much further, and nothing else does.
func TestCodeMovesWithFrom(t *testing.T) {
	starts := []int{3, 60, 9}
	for _, caps := range [][]int{{1}, {3, 2}, {4, 4, 4}} {
		eachKindOf(len(starts), len(caps), func(x impl.Ins) {
			near := impl.Emit(caps, x, 0, starts)
			for _, by := range []int{1, 40, 799, math.MaxInt, math.MinInt} {
				far := impl.Emit(caps, x, by, starts)
				for i, s := range near {
					if isChanOp(x.Op) && (s.Op == impl.MaJump || s.Op == impl.MaZero) {
						s.N += by
					}
					if i >= len(far) || far[i] != s {
						t.Fatal(x, by, i, far)
					}
				}
			}
		})
	}
}

// Promise 10: the code of a channel goes to no other one, to no register of the program but those that the place names,
// and takes none but those.
func TestCodeKeepsToItsChannelAndRegisters(t *testing.T) {
	eachCaps(3, 1, 4, func(caps []int) {
		eachKindOf(1, len(caps), func(x impl.Ins) {
			if !isChanOp(x.Op) {
				return
			}
			base, room := impl.Base(caps, x.N), caps[x.N]
			for i, s := range impl.Emit(caps, x, 8, []int{8}) {
				k := stepKinds()[s.Op-1]
				if k.n == "cell" && (s.N < base || s.N > base+4) {
					t.Fatal("cell", caps, x, i, s)
				}
				if k.n == "cell" && (s.N == base+4) != (s.A == 4 && s.Op != impl.MaSwap) {
					t.Fatal("ring", caps, x, i, s)
				}
				if k.name == "set" && s.N > 2 && s.N != room {
					t.Fatal("room", caps, x, i, s)
				}
				if k.names('R') && s.R < 4 && !slices.Contains(impl.Sets(x), s.R) {
					t.Fatal("sets", caps, x, i, s)
				}
				for _, f := range []byte("AB") {
					if v := stepField(s, f); k.names(f) && v >= 0 && v < 4 && !slices.Contains(impl.Reads(x), v) {
						t.Fatal("takes", caps, x, i, s)
					}
				}
			}
		})
	})
}

// A wayfarer goes all ways through the code of a channel's place, whatever is read, and counts how it came out.
type wayfarer struct {
	list  []impl.Step
	from  int
	base  int
	outs  map[string]int
	wrong []string
}

func (w *wayfarer) complain(what string, i int) {
	w.wrong = append(w.wrong, what+" at "+strconv.Itoa(i))
}

// out: whoever leaves has let go, or never held the lock.
func (w *wayfarer) out(how string, i int, held bool) {
	w.outs[how]++
	if held {
		w.complain("out by "+how+" with the lock", i)
	}
}

// to goes on at a step that a jump names.
func (w *wayfarer) to(step int, i int, held bool) {
	if step == w.from {
		w.out("again", i, held)
		return
	}
	if step <= w.from+i {
		w.complain("back", i)
		return
	}
	w.walk(step-w.from, held)
}

func (w *wayfarer) walk(i int, held bool) {
	if i >= len(w.list) {
		w.out("next", i, held)
		return
	}
	s := w.list[i]
	switch s.Op {
	case impl.MaLoad, impl.MaStore:
		if !held || s.N == w.base {
			w.complain("a cell without the lock", i)
		}
	case impl.MaSwap:
		if held || s.N != w.base {
			w.complain("a lock", i)
		}
	case impl.MaLet:
		if !held || s.N != w.base || w.list[i-1] != (impl.Step{Op: impl.MaSet, R: s.B}) {
			w.complain("let go", i)
		}
		held = false
	case impl.MaJump:
		w.to(s.N, i, held)
		return
	case impl.MaZero:
		w.to(s.N, i, held || w.list[i-1].Op == impl.MaSwap)
	case impl.MaFault:
		w.out("fault", i, held)
		return
	}
	w.walk(i+1, held)
}

// The lock is let go on every way out, once, behind all that is read and written of the channel: that is so whatever
// stands in the cells. Each place comes out where the document says, and nowhere else.
func TestTheLockIsLetGoOnEveryWay(t *testing.T) {
	// ways by which it comes out: "again" is for a lock that is held, and for who waits; sent and taken have two ways
	// each, as the ring goes round or not
	wanted := map[int]map[string]int{
		impl.SrSend:    {"again": 2, "next": 2, "fault": 1},
		impl.SrTrySend: {"again": 1, "next": 3, "fault": 1},
		impl.SrTake:    {"again": 2, "next": 3},
		impl.SrTryTake: {"again": 1, "next": 4},
		impl.SrClose:   {"again": 1, "next": 1, "fault": 1}}
	for _, caps := range [][]int{{1}, {4}, {3, 2}, {4, 4, 4}} {
		eachKindOf(1, len(caps), func(x impl.Ins) {
			if !isChanOp(x.Op) {
				return
			}
			for _, from := range []int{0, 1, 700} {
				w := &wayfarer{list: impl.Emit(caps, x, from, []int{0}), from: from, base: impl.Base(caps, x.N), outs: map[string]int{}}
				w.walk(0, false)
				if len(w.wrong) != 0 {
					t.Fatal(caps, x, from, w.wrong)
				}
				for _, how := range []string{"again", "next", "fault"} {
					if w.outs[how] != wanted[x.Op][how] {
						t.Fatal(caps, x, from, w.outs)
					}
				}
			}
		})
	}
}

// startsOf are the first steps of a body's places by EmitSize.
func startsOf(body []impl.Ins) []int {
	starts, at := make([]int, len(body)), 0
	for i, x := range body {
		starts[i] = at
		at += impl.EmitSize(x)
	}
	return starts
}

// codesOf are the codes of a program, its places one behind the other.
func codesOf(p impl.Prog) [][]impl.Step {
	var codes [][]impl.Step
	for _, body := range p.Bodies {
		var code []impl.Step
		starts := startsOf(body)
		for i, x := range body {
			code = append(code, impl.Emit(p.Caps, x, starts[i], starts)...)
		}
		codes = append(codes, code)
	}
	return codes
}

// machineOf is a machine in which all stands as in the source: each core at its place's first step, channels with their
// first numbers at some place of the ring, their cells written several times, and the locks let go by who knew all.
func machineOf(p impl.Prog, s impl.Source, turn int) impl.Machine {
	m := impl.Machine{Codes: codesOf(p), Mem: impl.MemoryNew(), Trace: slices.Clone(s.Trace)}
	for n, c := range s.Chans {
		base := impl.Base(p.Caps, n)
		put(m.Mem, base, slices.Repeat([]int{9}, c.Cap+4)...)
		put(m.Mem, base+1, slices.Repeat([]int{-2}, c.Cap+3)...)
		put(m.Mem, base, laid(c, 0, turn%c.Cap)...)
	}
	for n := range s.Chans {
		list := m.Mem.Cells[impl.Base(p.Caps, n)]
		list[len(list)-1].View = lastView(m.Mem)
	}
	for who, th := range s.Threads {
		regs := slices.Concat(th.Regs, []int{turn, -1, math.MaxInt, 3})
		m.Cores = append(m.Cores, impl.Core{At: startsOf(p.Bodies[who])[th.At], Regs: regs, View: make([]int, 24), State: th.State})
	}
	return m
}

// goOn has a core do its place: from a first step on to the next one, or until it does not run; late is how late each
// answer may be.
func goOn(t *testing.T, p impl.Prog, m impl.Machine, who int, late int) impl.Machine {
	t.Helper()
	starts := startsOf(p.Bodies[who])
	for range 40 {
		d, code := impl.CoreStep(m, impl.Pick{Who: who, Late: late})
		if code != impl.PkDone {
			t.Fatal("code", code, m.Cores[who])
		}
		m = d
		if m.Cores[who].State != impl.StRun || slices.Contains(starts, m.Cores[who].At) {
			return m
		}
	}
	t.Fatal("no end of a place", p.Bodies[who], m.Cores[who])
	return m
}

// asThreads asks that a machine stands where the source does: cores at first steps of the threads' places with their
// registers, channels in memory that are not locked, notes.
func asThreads(t *testing.T, p impl.Prog, m impl.Machine, s impl.Source) {
	t.Helper()
	if !slices.Equal(m.Trace, s.Trace) {
		t.Fatal("notes", p, m.Trace, s.Trace)
	}
	for who, th := range s.Threads {
		c := m.Cores[who]
		if c.State != th.State || !slices.Equal(c.Regs[:4], th.Regs) {
			t.Fatal("core", p, who, c, th)
		}
		if c.State == impl.StRun && c.At != startsOf(p.Bodies[who])[th.At] {
			t.Fatal("place", p, who, c.At, th)
		}
	}
	for n, want := range s.Chans {
		c, ok := impl.ChanIn(m.Mem, p.Caps, n)
		if !ok || !sameChan(c, want) || impl.Locked(m.Mem, p.Caps, n) {
			t.Fatal("channel", p, n, c, ok, "not", want)
		}
	}
}

// The code of each place, run on a core, does what the place does in chapter 4: to the registers, to the channels as
// chapter 9 lays them, to what is printed; who waits is where it was, and the lock is let go. Late answers change
// nothing, as the lock was let go by who knew all.
func TestCodeDoesWhatThePlaceDoes(t *testing.T) {
	turn, codes := 0, map[[2]int]int{}
	eachStep(func(p impl.Prog, s impl.Source, who int) {
		turn++
		x := p.Bodies[who][s.Threads[who].At]
		if isChanOp(x.Op) && turn%11 != 0 {
			return
		}
		want, code := impl.SourceStep(p, s, who)
		codes[[2]int{x.Op, code}]++
		m := goOn(t, p, machineOf(p, s, turn), who, []int{0, 1, 2, 99, -1}[turn%5])
		asThreads(t, p, m, want)
	})
	for op := 1; op <= 13; op++ {
		if codes[[2]int{op, impl.PkDone}] == 0 || (op == 5 || op == 6) != (codes[[2]int{op, impl.PkWait}] > 0) {
			t.Error("op", op, codes)
		}
	}
}

// All rings of each room: at each place of the first number, with each count, open and closed, each place of a channel
// does what it does in chapter 4, in the first and in the last channel of all.
func TestCodeOnAllRings(t *testing.T) {
	for room := 1; room <= impl.MaxCap; room++ {
		for _, caps := range [][]int{{room}, {room, 1}, {4, room}, {4, 4, room}} {
			n := len(caps) - 1
			if len(caps) == 2 && caps[1] == 1 {
				n = 0
			}
			for op := 5; op <= 9; op++ {
				for row := range room * (room + 1) * 2 {
					x := insKinds()[op-1].plain()
					x.N = n
					p := impl.Prog{Caps: caps, Bodies: [][]impl.Ins{{{Op: impl.SrSet}, x, {Op: impl.SrEnd}}}}
					s, _ := impl.SourceNew(p)
					s.Threads[0].At, s.Threads[0].Regs = 1, []int{40, 41, 42, 43}
					s.Chans[n].List, s.Chans[n].Closed = []int{70, 71, 72, 73}[:row/room%(room+1)], row/room/(room+1) == 1
					want, _ := impl.SourceStep(p, s, 0)
					for late := range 3 {
						asThreads(t, p, goOn(t, p, machineOf(p, s, row%room), 0, late), want)
					}
				}
			}
		}
	}
}

// Where another one has the lock, a core tries again and again: nothing of the channel nor of the registers is turned,
// and the lock is held as before.
func TestCodeWaitsForTheLock(t *testing.T) {
	for op := 5; op <= 9; op++ {
		for _, lock := range []int{1, 2, -1, math.MinInt} {
			x := insKinds()[op-1].plain()
			p := impl.Prog{Caps: []int{2}, Bodies: [][]impl.Ins{{x, {Op: impl.SrEnd}}}}
			s, _ := impl.SourceNew(p)
			s.Threads[0].Regs, s.Chans[0].List = []int{40, 41, 42, 43}, []int{8}
			m := machineOf(p, s, 1)
			put(m.Mem, 0, lock)
			for range 3 {
				m = goOn(t, p, m, 0, 0)
				c, ok := impl.ChanIn(m.Mem, p.Caps, 0)
				if !ok || !sameChan(c, s.Chans[0]) || !impl.Locked(m.Mem, p.Caps, 0) || m.Cores[0].At != 0 || !slices.Equal(m.Cores[0].Regs[:4], s.Threads[0].Regs) {
					t.Fatal(x, lock, c, ok, m.Cores[0])
				}
			}
			put(m.Mem, 0, 0)
			want, _ := impl.SourceStep(p, s, 0)
			asThreads(t, p, goOn(t, p, m, 0, 0), want)
		}
	}
}

// What is let go is let go behind all: whoever gets hold of the lock knows the last write of each cell of the channel.
func TestWhoeverGetsHoldKnowsTheChannel(t *testing.T) {
	for op := 5; op <= 9; op++ {
		for fill := range 3 {
			for _, closed := range []bool{false, true} {
				x := insKinds()[op-1].plain()
				x.N = 1
				p := impl.Prog{Caps: []int{1, 2}, Bodies: [][]impl.Ins{{x, {Op: impl.SrEnd}}}}
				s, _ := impl.SourceNew(p)
				s.Chans[1].List, s.Chans[1].Closed = []int{8, 9}[:fill], closed
				m := goOn(t, p, machineOf(p, s, fill), 0, 5)
				_, view := impl.Load(m.Mem, make([]int, 24), 5, 0, true)
				if last := lastView(m.Mem); !slices.Equal(view[5:11], last[5:11]) {
					t.Error(x, fill, closed, view, last)
				}
			}
		}
	}
}

// handers are bodies that send 1 to most (and from more on), and such that take and print, by waiting and by trying.
func handers(most int, more int, trying bool, closing bool) ([]impl.Ins, []impl.Ins) {
	send := []impl.Ins{{Op: impl.SrSet, R: 0, N: more}, {Op: impl.SrSet, R: 1, N: 1}, {Op: impl.SrSet, R: 2, N: more + most}, {Op: impl.SrAdd, R: 0, A: 0, B: 1},
		{Op: impl.SrSend, A: 0}, {Op: impl.SrSet, R: 3, N: 1}, {Op: impl.SrZero, A: 3, N: 4}, {Op: impl.SrLess, R: 3, A: 0, B: 2}, {Op: impl.SrZero, A: 3, N: 10}, {Op: impl.SrJump, N: 3},
		{Op: impl.SrSet, R: 3}, {Op: impl.SrEnd}}
	take := []impl.Ins{{Op: impl.SrTake, R: 0, B: 1}, {Op: impl.SrZero, A: 1, N: 4}, {Op: impl.SrPrint, A: 0}, {Op: impl.SrJump}, {Op: impl.SrEnd}}
	if trying {
		send[4], send[5] = impl.Ins{Op: impl.SrTrySend, R: 3, A: 0}, impl.Ins{Op: impl.SrZero, A: 3, N: 4}
		take = []impl.Ins{{Op: impl.SrTryTake, R: 0, B: 1}, {Op: impl.SrZero, A: 1}, {Op: impl.SrSet, R: 2, N: 1}, {Op: impl.SrSub, R: 2, A: 1, B: 2}, {Op: impl.SrZero, A: 2, N: 6},
			{Op: impl.SrEnd}, {Op: impl.SrPrint, A: 0}, {Op: impl.SrJump}}
	}
	if closing {
		send[10] = impl.Ins{Op: impl.SrClose}
	}
	return send, take
}

// handOver has the cores of a program go on by picks of all kinds until so many numbers are printed.
func handOver(t *testing.T, p impl.Prog, seed int, notes int) impl.Machine {
	t.Helper()
	m, ok := impl.MachineNew(codesOf(p))
	if !ok {
		t.Fatal("no machine", p)
	}
	next := picker(seed)
	for range 40 {
		m, _ = impl.MachineRun(m, oddPicks(len(p.Bodies), 400, &next))
		if len(m.Trace) >= notes && m.Cores[0].State != impl.StRun {
			break
		}
	}
	return m
}

// Numbers are handed over on the weak memory by two cores, whoever is let go on and however late the answers are: in
// order, none lost and none twice.
func TestCodeHandsNumbersOver(t *testing.T) {
	for room := 1; room <= 4; room++ {
		for seed := range 6 {
			send, take := handers(9, 0, seed%2 == 1, true)
			p := impl.Prog{Caps: []int{room}, Bodies: [][]impl.Ins{send, take}}
			m := handOver(t, p, seed, 9)
			var want []impl.Note
			for v := 1; v <= 9; v++ {
				want = append(want, impl.Note{Who: 1, V: v})
			}
			if !slices.Equal(m.Trace, want) {
				t.Error(room, seed, m.Trace)
			}
		}
	}
}

// Two that send and two that take: each number is printed once, those of one core in order by whoever took them.
func TestCodeHandsNumbersOverAmongFour(t *testing.T) {
	for seed := range 8 {
		first, take := handers(6, 0, seed%2 == 1, false)
		second, _ := handers(6, 100, seed%2 == 1, false)
		p := impl.Prog{Caps: []int{1 + seed%4}, Bodies: [][]impl.Ins{first, second, take, take}}
		m := handOver(t, p, seed+50, 12)
		var got []int
		last := map[[2]int]int{}
		for _, note := range m.Trace {
			got = append(got, note.V)
			key := [2]int{note.Who, note.V / 100}
			if note.V <= last[key] {
				t.Error("order", seed, m.Trace)
			}
			last[key] = note.V
		}
		slices.Sort(got)
		if !slices.Equal(got, []int{1, 2, 3, 4, 5, 6, 101, 102, 103, 104, 105, 106}) {
			t.Error(seed, m.Trace)
		}
	}
}

// Promise 18: places of each kind and of none, right and wrong in each way.
func TestEmitOfWrongPlaces(t *testing.T) {
	rows := []struct{ caps, starts []int }{{nil, nil}, {[]int{1}, []int{4}}, {[]int{2, 3, 1}, slices.Repeat([]int{6}, 24)}, {[]int{1, 1, 1, 1}, []int{0, 1}}}
	for _, row := range rows {
		right := 0
		eachIns(func(x impl.Ins) {
			got := impl.Emit(row.caps, x, 50, row.starts)
			if ok := insWanted(x, len(row.starts), len(row.caps)); !ok && len(got) != 0 || ok && len(got) != impl.EmitSize(x) {
				t.Fatal(x, row.caps, len(row.starts), got)
			} else if ok {
				right++
			}
		})
		if (right == 0) != (len(row.caps) > 3) {
			t.Error(row.caps, right)
		}
	}
}

// A place that is wrong in one way alone.
func TestEmitOfPlacesWrongInOneWay(t *testing.T) {
	caps, starts := []int{2, 3}, []int{0, 9, 31}
	for _, k := range insKinds() {
		if len(emits(t, caps, k.plain(), 9, starts)) == 0 {
			t.Error("right", k.name)
		}
		for _, f := range []byte("RABN") {
			wrong := slices.Concat([]int{-1, 4, 5, 7}, ends64)
			switch {
			case !k.names(f):
				wrong = append(wrong, 1, 2, 3)
			case f == 'N' && k.n == "number":
				wrong = slices.Concat([]int{-1000000001, 1000000001}, ends64)
			case f == 'N' && k.n == "channel":
				wrong = append(wrong, 2, 3)
			case f == 'N' && k.n == "place":
				wrong = append(wrong, 3)
			}
			for _, v := range wrong {
				emitsNothing(t, k.name, caps, with(k.plain(), f, v), 9, starts)
			}
		}
		if k.sets == "RB" {
			for r := range 4 {
				emitsNothing(t, "one register", caps, with(with(k.plain(), 'R', r), 'B', r), 9, starts)
			}
		}
	}
	for _, op := range slices.Concat([]int{-1, 0, 14, 15, 1<<32 + 1}, ends64) {
		emitsNothing(t, "no op", caps, impl.Ins{Op: op}, 9, starts)
	}
}

// Caps of which one is wrong: a place of a channel has no code, though its own channel be right; one of none has.
func TestEmitOfWrongCaps(t *testing.T) {
	for _, wrong := range slices.Concat([]int{-4, -1, 0, 5, 6, 20, 24}, ends64) {
		for _, caps := range [][]int{{wrong}, {wrong, 1}, {1, wrong}, {wrong, 1, 1}, {1, wrong, 1}, {1, 1, wrong}, {wrong, wrong, wrong}} {
			for _, k := range insKinds() {
				for n := range caps {
					x := k.plain()
					x.N = 0
					if k.n != "" {
						x.N = n
					}
					got := emits(t, caps, x, 5, []int{0, 5, 9})
					if want := sizesWanted()[k.op]; k.n == "channel" && len(got) != 0 || k.n != "channel" && len(got) != want {
						t.Error(k.name, caps, n, got)
					}
				}
			}
		}
	}
}

// More channels than there may be have no code of any place, whether they have cells or not.
func TestEmitOfTooManyChannels(t *testing.T) {
	for _, caps := range [][]int{{1, 1, 1, 1}, {2, 2, 2, 2}, {4, 4, 4, 4}, {1, 1, 1, 1, 1}, {4, 4, 4, 1}, slices.Repeat([]int{1}, 1000000), slices.Repeat([]int{0}, 4), slices.Repeat([]int{math.MaxInt}, 1000000)} {
		for _, k := range insKinds() {
			emitsNothing(t, k.name, caps, k.plain(), 0, []int{0, 1})
		}
	}
	for _, k := range insKinds() {
		if got := emits(t, []int{4, 4, 4}, k.plain(), 0, []int{0, 1}); len(got) == 0 {
			t.Error("all cells", k.name)
		}
	}
}

// Promise 18: as many starts as one will; a jump may go to the last of them, and to none behind it.
func TestEmitOfManyStarts(t *testing.T) {
	starts := make([]int, 1000000)
	starts[999999] = -5
	for _, op := range []int{impl.SrJump, impl.SrZero} {
		for n, want := range map[int]int{0: 0, 24: 0, 999998: 0, 999999: -5} {
			if got := impl.Emit(nil, impl.Ins{Op: op, N: n}, 3, starts); len(got) != 1 || got[0].N != want {
				t.Error(op, n, got)
			}
		}
		emitsNothing(t, "behind the last", nil, impl.Ins{Op: op, N: 1000000}, 3, starts)
	}
	for _, v := range ends64 {
		if got := impl.Emit([]int{1}, impl.Ins{Op: impl.SrZero, A: 2, N: 1}, v, []int{0, v}); !slices.Equal(got, []impl.Step{{Op: impl.MaZero, A: 2, N: v}}) {
			t.Error(v, got)
		}
	}
}

// eachEmitCall calls look with right and wrong places, caps and starts, with room behind each list.
func eachEmitCall(look func(caps []int, x impl.Ins, from int, starts []int)) {
	turn := 0
	froms, starts := someFroms(), someStarts()
	for _, caps := range [][]int{nil, {1}, {4}, {2, 3}, {4, 4, 4}, {2, 0}, {5, 1}, {4, 4, 4, 4}} {
		for _, k := range insKinds() {
			for n := -1; n < 4; n++ {
				turn++
				x := k.plain()
				if k.names('N') {
					x.N = n
				}
				list := starts[turn%len(starts)]
				look(slices.Concat(caps, []int{1, 2, 1})[:len(caps)], x, froms[turn%len(froms)], slices.Concat(list, []int{31, 32, 33})[:len(list)])
			}
		}
	}
	look(nil, impl.Ins{}, 0, nil)
}

// Promise 18: nothing is written into an argument, nor into the room behind its lists, nor read there.
func TestChapterTenWritesIntoNoArgument(t *testing.T) {
	eachEmitCall(func(caps []int, x impl.Ins, from int, starts []int) {
		rooms, places := slices.Clone(caps[:cap(caps)]), slices.Clone(starts[:cap(starts)])
		emits(t, caps, x, from, starts)
		impl.EmitSize(x)
		if !slices.Equal(rooms, caps[:cap(caps)]) || !slices.Equal(places, starts[:cap(starts)]) {
			t.Error("an argument was written into", caps, x)
		}
	})
}

// Promise 18: no answer shares memory with an argument or with another answer, and nothing is kept.
func TestChapterTenAnswersNewMemory(t *testing.T) {
	eachEmitCall(func(caps []int, x impl.Ins, from int, starts []int) {
		want := emitWanted(caps, x, from, starts)
		first, second := impl.Emit(caps, x, from, starts), impl.Emit(caps, x, from, starts)
		fill(first, impl.Step{Op: -77, R: -77, A: -77, B: -77, N: -77})
		if third := impl.Emit(caps, x, from, starts); !slices.Equal(second, want) || !slices.Equal(third, want) {
			t.Error("something was kept", caps, x)
		}
		scribble(caps)
		scribble(starts)
		if !slices.Equal(second, want) {
			t.Error("the argument lies in the answer", caps, x)
		}
	})
}
