package tests

import (
	"fmt"
	"math"
	"reflect"
	"runtime"
	"slices"
	"sync"
	"testing"
	"time"

	"loop.example/g00238/impl"
)

// launchWanted is the document's Launch once more, by numbers.
func launchWanted(p impl.Prog) (impl.Machine, bool) {
	codes, ok := compileWanted(p)
	if !ok {
		return impl.Machine{}, false
	}
	m := impl.Machine{Codes: codes}
	for range codes {
		m.Cores = append(m.Cores, impl.Core{Regs: make([]int, 8), View: make([]int, 24)})
	}
	for range 24 {
		m.Mem.Cells = append(m.Mem.Cells, []impl.Write{{View: make([]int, 24)}})
	}
	return m, true
}

// isByItself says whether the place to which a step belongs has no other one; owners are those of a body's steps.
func isByItself(owners []int, at int) bool {
	return (at == 0 || owners[at-1] != owners[at]) && (at+1 == len(owners) || owners[at+1] != owners[at])
}

// commitsWanted is the document's Commits once more, by numbers.
func commitsWanted(p impl.Prog, before impl.Machine, after impl.Machine, who int) bool {
	if who < 0 || who >= len(before.Cores) || who >= len(before.Codes) || who >= len(after.Cores) {
		return false
	}
	at, owners := before.Cores[who].At, ownersWanted(p, who)
	if at < 0 || at >= len(owners) || at >= len(before.Codes[who]) {
		return false
	}
	s, regs := before.Codes[who][at], after.Cores[who].Regs
	return isByItself(owners, at) || s.Op == 8 && s.R >= 0 && s.R < len(regs) && regs[s.R] == 0
}

// witnessWanted is the document's Witness once more.
func witnessWanted(p impl.Prog, picks []impl.Pick) ([]int, impl.Machine, bool) {
	m, ok := launchWanted(p)
	if !ok || len(picks) > 4000 {
		return nil, impl.Machine{}, false
	}
	var order []int
	for _, x := range picks {
		d, code := coreStepWanted(m, x)
		if code == 0 && commitsWanted(p, m, d, x.Who) {
			order = append(order, x.Who)
		}
		m = d
	}
	return order, m, true
}

// launches holds Launch against what is wanted, and answers it.
func launches(t *testing.T, p impl.Prog) (impl.Machine, bool) {
	t.Helper()
	got, ok := impl.Launch(p)
	if want, right := launchWanted(p); ok != right || !sameMachine(got, want) {
		t.Errorf("%v: %v %v, not %v %v", brief(p), got.Cores, ok, want.Cores, right)
	}
	return got, ok
}

// commits holds Commits against what is wanted, and answers it.
func commits(t *testing.T, p impl.Prog, before impl.Machine, after impl.Machine, who int) bool {
	t.Helper()
	got := impl.Commits(p, before, after, who)
	if want := commitsWanted(p, before, after, who); got != want {
		t.Errorf("core %v of %v: %v, not %v; %v %v", who, brief(p), got, want, brief(before.Cores), brief(after.Cores))
	}
	return got
}

// witnesses holds Witness against what is wanted, and answers it.
func witnesses(t *testing.T, p impl.Prog, picks []impl.Pick) ([]int, impl.Machine, bool) {
	t.Helper()
	order, m, ok := impl.Witness(p, picks)
	if want, d, right := witnessWanted(p, picks); ok != right || !slices.Equal(order, want) || !sameMachine(m, d) {
		t.Errorf("%v picks of %v: %v %v %v, not %v %v %v", len(picks), brief(p), order, m.Cores, ok, want, d.Cores, right)
	}
	return order, m, ok
}

// noWitness asks that a program has no machine, that no step of one does a place of it, and that it has no witness.
func noWitness(t *testing.T, what string, p impl.Prog) {
	t.Helper()
	if m, ok := impl.Launch(p); ok || !zeroMachine(m) {
		t.Error(what, "launch", ok)
	}
	for _, pair := range somePairs() {
		for _, who := range slices.Concat([]int{-1, 0, 1, 2, 3, 4}, ends64) {
			if impl.Commits(p, pair[0], pair[1], who) {
				t.Error(what, "commits", who)
			}
		}
	}
	for _, picks := range [][]impl.Pick{nil, {{}}, {{Who: 1, Late: 2}, {}, {Who: -1}}, make([]impl.Pick, 4001)} {
		if order, m, ok := impl.Witness(p, picks); ok || len(order) != 0 || !zeroMachine(m) {
			t.Error(what, "witness", len(picks), order, ok)
		}
	}
}

// pairProg has four bodies of a place by itself, one of a channel, and an end.
func pairProg() impl.Prog {
	return impl.Prog{Caps: []int{2}, Bodies: slices.Repeat([][]impl.Ins{{{Op: impl.SrPrint}, {Op: impl.SrClose}, {Op: impl.SrEnd}}}, 4)}
}

// somePairs are machines of pairProg before and after a step of core 0: that of a place by itself, and that of a lock.
func somePairs() [][2]impl.Machine {
	m, _ := launchWanted(pairProg())
	n, _ := coreStepWanted(m, impl.Pick{})
	u, _ := coreStepWanted(n, impl.Pick{})
	v, _ := coreStepWanted(u, impl.Pick{})
	return [][2]impl.Machine{{m, n}, {u, v}, {m, m}, {v, v}, {}}
}

// stepPicks are so many picks of one core, no answer late.
func stepPicks(who int, count int) []impl.Pick { return slices.Repeat([]impl.Pick{{Who: who}}, count) }

// walkOn has steps by picks, one behind the other, and answers the machine, and at which steps of their codes those were
// that did a place.
func walkOn(t *testing.T, p impl.Prog, m impl.Machine, picks []impl.Pick) (impl.Machine, []int) {
	t.Helper()
	var at []int
	for _, x := range picks {
		d, code := impl.CoreStep(m, x)
		if commits(t, p, m, d, x.Who) && code == impl.PkDone {
			at = append(at, m.Cores[x.Who].At)
		}
		m = d
	}
	return m, at
}

// A plainMachine is the cores of a program on a memory that is not weak: a cell is one number, and what was is forgotten.
type plainMachine struct {
	codes  [][]impl.Step
	owners [][]int
	cores  []impl.Core
	cells  [24]int
	trace  []impl.Note
}

func newPlainMachine(p impl.Prog) *plainMachine {
	m := &plainMachine{}
	m.codes, _ = compileWanted(p)
	for body := range p.Bodies {
		m.owners = append(m.owners, ownersWanted(p, body))
		m.cores = append(m.cores, impl.Core{Regs: make([]int, 8)})
	}
	return m
}

// step answers whether the step did a place.
func (m *plainMachine) step(who int) bool {
	if who < 0 || who >= len(m.cores) || m.cores[who].State != 0 {
		return false
	}
	c := &m.cores[who]
	at, s := c.At, m.codes[who][c.At]
	cell := s.N
	if s.Op >= 5 && s.Op <= 7 && s.A >= 0 {
		cell += c.Regs[s.A]
	}
	did := isByItself(m.owners[who], at)
	c.At++
	switch s.Op {
	case 1:
		c.Regs[s.R] = s.N
	case 2:
		c.Regs[s.R] = c.Regs[s.A] + c.Regs[s.B]
	case 3:
		c.Regs[s.R] = c.Regs[s.A] - c.Regs[s.B]
	case 4:
		c.Regs[s.R] = map[bool]int{true: 1}[c.Regs[s.A] < c.Regs[s.B]]
	case 5:
		c.Regs[s.R] = m.cells[cell]
	case 6, 7:
		m.cells[cell] = c.Regs[s.B]
	case 8:
		did = m.cells[cell] == 0
		c.Regs[s.R], m.cells[cell] = m.cells[cell], c.Regs[s.B]
	case 9:
		m.trace = append(m.trace, impl.Note{Who: who, V: c.Regs[s.A]})
	case 10:
		c.At = s.N
	case 11:
		if c.Regs[s.A] == 0 {
			c.At = s.N
		}
	case 12, 13:
		c.At, c.State = at, s.Op-11
	}
	return did
}

// run answers who did a place, in order.
func (m *plainMachine) run(picks []impl.Pick) []int {
	var order []int
	for _, x := range picks {
		if m.step(x.Who) {
			order = append(order, x.Who)
		}
	}
	return order
}

// faultProg: core 0 closes twice, core 1 sends to what is closed, core 2 tries to, core 3 tries to take for ever.
func faultProg() impl.Prog {
	return impl.Prog{Caps: []int{1, 2}, Bodies: [][]impl.Ins{
		{{Op: impl.SrClose, N: 1}, {Op: impl.SrPrint}, {Op: impl.SrClose, N: 1}, {Op: impl.SrEnd}},
		{{Op: impl.SrSet, R: 1, N: 4}, {Op: impl.SrSend, A: 1, N: 1}, {Op: impl.SrPrint, A: 1}, {Op: impl.SrJump, N: 1}},
		{{Op: impl.SrTrySend, R: 2, A: 1, N: 1}, {Op: impl.SrPrint, A: 2}, {Op: impl.SrJump}},
		{{Op: impl.SrTryTake, R: 1, B: 3, N: 1}, {Op: impl.SrPrint, A: 3}, {Op: impl.SrJump}}}}
}

// witnessProgs hand numbers over, wait, try, fault, end and go round, by one core and by more.
func witnessProgs() []impl.Prog {
	s, _ := sampleProg()
	w, _ := workProg()
	mixed, _ := mixedProg()
	send, take := handers(5, 0, false, true)
	trySend, tryTake := handers(5, 0, true, true)
	second, _ := handers(4, 100, false, false)
	return []impl.Prog{s, w, mixed, lineProg(), kindsProg(), pairProg(), faultProg(), {Bodies: [][]impl.Ins{{{Op: impl.SrJump}}}},
		{Caps: []int{1}, Bodies: [][]impl.Ins{send, take}}, {Caps: []int{2}, Bodies: [][]impl.Ins{trySend, tryTake}},
		{Caps: []int{3}, Bodies: [][]impl.Ins{send, second, take, tryTake}}, {Caps: []int{1, 4}, Bodies: [][]impl.Ins{take}}}
}

// pickRows are rows of picks: by one core, by turns, by turns of several steps, and at random, late answers among them.
func pickRows(cores int, count int, seed int) map[string][]impl.Pick {
	next := picker(seed)
	rows := map[string][]impl.Pick{"at random": oddPicks(cores, count, &next)}
	for who := range cores {
		rows[fmt.Sprint("core ", who)] = slices.Repeat([]impl.Pick{{Who: who, Late: seed % 3}}, count)
	}
	for _, run := range []int{1, 2, 7, 40} {
		list := make([]impl.Pick, count)
		for i := range list {
			list[i] = impl.Pick{Who: i / run % cores, Late: i * seed % 4}
		}
		rows[fmt.Sprint("by turns of ", run)] = list
	}
	return rows
}

func TestLaunchAsTold(t *testing.T) {
	eachCodedProg(func(p impl.Prog) {
		got, ok := launches(t, p)
		codes, _ := impl.Compile(p)
		want, right := impl.MachineNew(codes)
		if !ok || !right || !sameMachine(got, want) || !impl.MachineOk(got) || len(got.Cores) != len(p.Bodies) {
			t.Fatal("launch", p, ok, right)
		}
	})
}

func TestLaunchRows(t *testing.T) {
	p := impl.Prog{Caps: []int{1}, Bodies: [][]impl.Ins{{{Op: impl.SrPrint, A: 2}, {Op: impl.SrEnd}}, {{Op: impl.SrJump}}}}
	m, ok := launches(t, p)
	if !ok || !sameCodes(m.Codes, [][]impl.Step{{{Op: impl.MaPrint, A: 2}, {Op: impl.MaEnd}}, {{Op: impl.MaJump}}}) || len(m.Cores) != 2 || len(m.Trace) != 0 || !sameMemory(m.Mem, impl.MemoryNew()) {
		t.Error(m, ok)
	}
	for who, c := range m.Cores {
		if c.At != 0 || c.State != impl.StRun || !slices.Equal(c.Regs, make([]int, 8)) || !slices.Equal(c.View, make([]int, 24)) {
			t.Error(who, c)
		}
	}
}

// Promise 12, of each kind of place: from its first step on until it is through just one step does it, the only one or
// the swap; whatever the channel has, however it lies in its ring, and late answers among them.
func TestOneStepDoesAPlace(t *testing.T) {
	for _, k := range insKinds() {
		for room := 1; room <= 4; room++ {
			for row := range room * (room + 1) * 2 {
				p := impl.Prog{Caps: []int{3, room}, Bodies: [][]impl.Ins{{{Op: impl.SrSet}, k.plain(), {Op: impl.SrEnd}}}}
				if k.n == "channel" {
					p.Bodies[0][1].N = 1
				}
				s, _ := impl.SourceNew(p)
				s.Threads[0].At, s.Threads[0].Regs = 1, []int{40, 0, 42, 43}
				s.Chans[1].List, s.Chans[1].Closed = []int{70, 71, 72, 73}[:row/room%(room+1)], row/room/(room+1) == 1
				m := machineOf(p, s, row%room)
				want := []int{1}
				if isChanOp(k.op) {
					want = []int{2}
				}
				var at []int
				for step := 0; step < 40 && (step == 0 || !slices.Contains(impl.Starts(p, 0), m.Cores[0].At)); step++ {
					var did []int
					m, did = walkOn(t, p, m, []impl.Pick{{Late: row % 3}})
					at = append(at, did...)
					if m.Cores[0].State != impl.StRun {
						break
					}
				}
				if !slices.Equal(at, want) {
					t.Fatal(k.name, room, row, at, "not", want)
				}
			}
		}
	}
}

// The steps of a place of a channel, written out: the lock alone does it, and the next place is done by its one step.
func TestStepsThatDoPlaces(t *testing.T) {
	p := impl.Prog{Caps: []int{1}, Bodies: [][]impl.Ins{{{Op: impl.SrSet, R: 1, N: 6}, {Op: impl.SrSend, A: 1}, {Op: impl.SrTake, R: 2, B: 3}, {Op: impl.SrPrint, A: 2},
		{Op: impl.SrClose}, {Op: impl.SrTryTake, R: 1, B: 2}, {Op: impl.SrLess, R: 0, A: 1, B: 2}, {Op: impl.SrZero, A: 0, N: 8}, {Op: impl.SrJump, N: 10}, {Op: impl.SrEnd}, {Op: impl.SrTrySend, R: 3, A: 1}, {Op: impl.SrEnd}}}}
	m, _ := launches(t, p)
	m, at := walkOn(t, p, m, stepPicks(0, 300))
	if want := []int{0, 2, 31, 60, 62, 75, 106, 107, 108, 111}; !slices.Equal(at, want) {
		t.Error(at, "not", want)
	}
	if m.Cores[0].State != impl.StFault || !slices.Equal(m.Trace, []impl.Note{{V: 6}}) {
		t.Error(m.Cores[0], m.Trace)
	}
}

// Each step of each code, with what stands in the swap's register behind it: what stands in the others, and what stood
// there before it, is not asked.
func TestCommitsOfEachStep(t *testing.T) {
	steps := map[bool]int{}
	for _, p := range witnessProgs() {
		from, _ := impl.Launch(p)
		for who, code := range from.Codes {
			owners := ownersWanted(p, who)
			for at, s := range code {
				for _, read := range []int{0, 1, -1, 2, math.MinInt, math.MaxInt, 1 << 32} {
					for _, others := range []int{0, 1} {
						before, after := cloneMachine(from), cloneMachine(from)
						before.Cores[who].At, before.Cores[who].Regs = at, slices.Repeat([]int{1 - others}, 8)
						after.Cores[who].At, after.Cores[who].Regs = min(at+1, len(code)-1), slices.Repeat([]int{others}, 8)
						after.Cores[who].Regs[6] = read
						want := isByItself(owners, at) || s == impl.Step{Op: impl.MaSwap, R: 6, B: 7, N: s.N} && read == 0
						if commits(t, p, before, after, who) != want {
							t.Fatal(who, at, s, read, others, p)
						}
						steps[want]++
					}
				}
			}
		}
	}
	if steps[true] < 500 || steps[false] < 5000 {
		t.Error("too few steps", steps)
	}
}

// Promise 12, by the locks: a step of a run does a place just if a channel is locked by it that was not, or the place to
// which it belongs has no other step.
func TestWhatLocksDoesAPlace(t *testing.T) {
	locks, alone, held := 0, 0, 0
	for i, p := range witnessProgs() {
		next := picker(i + 30)
		m, _ := impl.Launch(p)
		for _, x := range oddPicks(len(p.Bodies), 500, &next) {
			d, code := impl.CoreStep(m, x)
			if code != impl.PkDone {
				continue
			}
			locked := false
			for n := range p.Caps {
				locked = locked || !impl.Locked(m.Mem, p.Caps, n) && impl.Locked(d.Mem, p.Caps, n)
			}
			at := m.Cores[x.Who].At
			place, _ := impl.PlaceOf(p, x.Who, at)
			one := impl.EmitSize(p.Bodies[x.Who][place]) == 1
			if got := impl.Commits(p, m, d, x.Who); got != (locked || one) {
				t.Fatal(i, x, at, got, locked, one)
			}
			if locked {
				locks++
			} else if m.Codes[x.Who][at].Op == impl.MaSwap {
				held++
			}
			if one {
				alone++
			}
			m = d
		}
	}
	if locks < 50 || alone < 200 || held < 50 {
		t.Error("too few", locks, alone, held)
	}
}

// A lock that is not got does nothing, again and again, whatever number it was held with; then it is got.
func TestCommitsOfALockThatIsNotGot(t *testing.T) {
	for op := 5; op <= 9; op++ {
		for _, lock := range []int{1, 2, -1, math.MinInt, 1 << 32} {
			p := impl.Prog{Caps: []int{2}, Bodies: [][]impl.Ins{{insKinds()[op-1].plain(), {Op: impl.SrEnd}}}}
			m, _ := impl.Launch(p)
			put(m.Mem, 0, lock)
			m, at := walkOn(t, p, m, stepPicks(0, 40))
			if len(at) != 0 || m.Cores[0].At != 0 || !impl.Locked(m.Mem, p.Caps, 0) {
				t.Error("held", op, lock, at, m.Cores[0])
			}
			put(m.Mem, 0, 0)
			if m, at = walkOn(t, p, m, stepPicks(0, 3)); !slices.Equal(at, []int{1}) || m.Cores[0].At != 4 {
				t.Error("let go", op, lock, at, m.Cores[0])
			}
		}
	}
}

// Commits of a step that was refused, of a core that has ended and of one that faulted goes by where the core stood: that
// nothing was done is said by the code.
func TestCommitsOfWhatWasNotDone(t *testing.T) {
	p := pairProg()
	m, _ := impl.Launch(p)
	for state := range 3 {
		for at, want := range map[int]bool{0: true, 1: false, 3: false, 13: false, 14: true} {
			d := cloneMachine(m)
			d.Cores[2].At, d.Cores[2].State = at, state
			if commits(t, p, d, d, 2) != want {
				t.Error(state, at, want)
			}
		}
	}
	full := cloneMachine(m)
	full.Trace = slices.Repeat([]impl.Note{{Who: 1, V: 3}}, 4000)
	if d, code := impl.CoreStep(full, impl.Pick{Who: 1}); code != impl.PkOver || !commits(t, p, full, d, 1) {
		t.Error("no room of notes", code)
	}
	held := cloneMachine(m)
	held.Cores[3].At, held.Cores[3].Regs[6], held.Mem = 2, 5, writtenTo(0, 4000)
	if d, code := impl.CoreStep(held, impl.Pick{Who: 3}); code != impl.PkOver || commits(t, p, held, d, 3) {
		t.Error("no room of writes", code)
	}
}

// Witnesses written out: one core behind the other, and by turns.
func TestWitnessRows(t *testing.T) {
	p := impl.Prog{Caps: []int{1}, Bodies: [][]impl.Ins{
		{{Op: impl.SrSet, R: 0, N: 5}, {Op: impl.SrSend, A: 0}, {Op: impl.SrEnd}},
		{{Op: impl.SrTake, R: 0, B: 1}, {Op: impl.SrPrint, A: 0}, {Op: impl.SrEnd}}}}
	rows := []struct {
		what  string
		picks []impl.Pick
		order []int
		notes []impl.Note
	}{
		{"nobody", nil, nil, nil},
		{"the first place", stepPicks(0, 1), []int{0}, nil},
		{"ahead of the lock", stepPicks(0, 2), []int{0}, nil},
		{"the lock", stepPicks(0, 3), []int{0, 0}, nil},
		{"under the lock", stepPicks(0, 9), []int{0, 0}, nil},
		{"one that sends", stepPicks(0, 40), []int{0, 0, 0}, nil},
		{"one behind the other", slices.Concat(stepPicks(0, 40), stepPicks(1, 40)), []int{0, 0, 0, 1, 1, 1}, []impl.Note{{Who: 1, V: 5}}},
		{"who waits tries twice", slices.Concat(stepPicks(1, 20), stepPicks(0, 40), stepPicks(1, 40)), []int{1, 1, 0, 0, 0, 1, 1, 1}, []impl.Note{{Who: 1, V: 5}}},
		{"the lock is got last", slices.Concat(stepPicks(1, 1), stepPicks(0, 3), stepPicks(1, 9), stepPicks(0, 1)), []int{0, 0}, nil},
		{"who is none", slices.Concat(stepPicks(2, 3), stepPicks(-1, 3), stepPicks(0, 1)), []int{0}, nil},
	}
	for _, row := range rows {
		order, m, ok := witnesses(t, p, row.picks)
		if !ok || !slices.Equal(order, row.order) || !slices.Equal(m.Trace, row.notes) {
			t.Error(row.what, order, m.Trace, ok)
		}
	}
}

// Rows of picks by one core, by turns and at random, held against the document's Witness step by step.
func TestWitnessAsTold(t *testing.T) {
	places := 0
	for i, p := range witnessProgs() {
		for what, picks := range pickRows(len(p.Bodies), 150+i*5, i) {
			order, m, ok := witnesses(t, p, picks)
			run, _ := impl.Launch(p)
			run, _ = impl.MachineRun(run, picks)
			if !ok || !sameMachine(m, run) || !impl.MachineOk(m) {
				t.Error(i, what, ok, m.Cores, run.Cores)
			}
			places += len(order)
		}
	}
	if places < 1000 {
		t.Error("too few places", places)
	}
}

// The witness of all programs of each count of channels, bodies and places, against a memory that is not weak, and the
// machine then against MachineRun.
func TestWitnessOfManyProgs(t *testing.T) {
	turn, who := 0, map[int]int{}
	look := func(p impl.Prog) {
		turn++
		next := picker(turn)
		picks := oddPicks(len(p.Bodies), 200+turn%100, &next)
		order, m, ok := impl.Witness(p, picks)
		plain := newPlainMachine(p)
		if want := plain.run(picks); !ok || !slices.Equal(order, want) || !slices.Equal(m.Trace, plain.trace) {
			t.Fatal(p, order, want, ok)
		}
		run, _ := impl.Launch(p)
		if run, _ = impl.MachineRun(run, picks); !sameMachine(m, run) {
			t.Fatal("machine", p, m.Cores, run.Cores)
		}
		for _, one := range order {
			who[one]++
		}
	}
	eachCodedProg(look)
	for core := range 4 {
		if who[core] < 200 {
			t.Error("too few places", core, who)
		}
	}
}

// The witness of a row's part is the first part of the row's, and the rest is what the rest of the picks does from there.
func TestWitnessOfParts(t *testing.T) {
	for i, p := range witnessProgs() {
		next := picker(i + 7)
		picks := oddPicks(len(p.Bodies), 260, &next)
		whole, last, _ := impl.Witness(p, picks)
		for _, cut := range []int{0, 1, 2, 3, 40, 41, 130, 258, 259, 260} {
			part, m, ok := impl.Witness(p, picks[:cut])
			if !ok || len(part) > len(whole) || !slices.Equal(part, whole[:len(part)]) {
				t.Fatal("part", i, cut, part, whole, ok)
			}
			for _, x := range picks[cut:] {
				d, code := impl.CoreStep(m, x)
				if code == impl.PkDone && impl.Commits(p, m, d, x.Who) {
					part = append(part, x.Who)
				}
				m = d
			}
			if !slices.Equal(part, whole) || !sameMachine(m, last) {
				t.Fatal("rest", i, cut, part, whole)
			}
		}
	}
}

// Late answers turn nothing of a witness: neither who nor what is printed.
func TestWitnessWithLateAnswers(t *testing.T) {
	for i, p := range witnessProgs() {
		next := picker(i + 90)
		picks := oddPicks(len(p.Bodies), 700, &next)
		order, m, _ := impl.Witness(p, picks)
		for _, late := range slices.Concat([]int{0, 1, 2, 50, -1}, ends64) {
			same := slices.Clone(picks)
			for k := range same {
				same[k].Late = late
			}
			if other, d, ok := impl.Witness(p, same); !ok || !slices.Equal(order, other) || !slices.Equal(m.Trace, d.Trace) {
				t.Error(i, late, ok, other, order)
			}
		}
	}
}

// What follows: a program run by the witness prints what the machine printed, and each of its steps is done or waits.
func TestProgramsRunByTheWitness(t *testing.T) {
	notes, waits := 0, 0
	look := func(p impl.Prog, picks []impl.Pick) {
		order, m, ok := impl.Witness(p, picks)
		s, _ := impl.SourceNew(p)
		s, codes := impl.SourceRun(p, s, order)
		if !ok || len(codes) != len(order) || !slices.Equal(s.Trace, m.Trace) {
			t.Fatalf("%v: %v, not %v", brief(p), m.Trace, s.Trace)
		}
		for i, code := range codes {
			if code == impl.PkWait {
				waits++
			} else if code != impl.PkDone {
				t.Fatalf("%v: code %v at %v of %v", brief(p), code, i, order)
			}
		}
		notes += len(m.Trace)
	}
	for i, p := range witnessProgs() {
		for _, count := range []int{300, 1500, 4000} {
			for _, picks := range pickRows(len(p.Bodies), count, i+count) {
				look(p, picks)
			}
		}
	}
	turn := 0
	eachCodedProg(func(p impl.Prog) {
		turn++
		next := picker(turn + 400)
		look(p, oddPicks(len(p.Bodies), 100+turn%900, &next))
	})
	if notes < 2000 || waits < 2000 {
		t.Error("too few", notes, waits)
	}
}

// The order in which it was done: whoever does a place, the thread of the program that was run so far stands there.
func TestThreadsStandAtWhatIsDone(t *testing.T) {
	places := 0
	for i, p := range witnessProgs() {
		next := picker(i + 500)
		m, _ := impl.Launch(p)
		s, _ := impl.SourceNew(p)
		for _, x := range oddPicks(len(p.Bodies), 600, &next) {
			d, code := impl.CoreStep(m, x)
			if code == impl.PkDone && impl.Commits(p, m, d, x.Who) {
				place, _ := impl.PlaceOf(p, x.Who, m.Cores[x.Who].At)
				if th := s.Threads[x.Who]; th.At != place || th.State != impl.StRun {
					t.Fatal(i, x, place, th)
				}
				s, _ = impl.SourceStep(p, s, x.Who)
				places++
			}
			m = d
		}
	}
	if places < 500 {
		t.Error("too few places", places)
	}
}

// No picks, MaxPicks and one more.
func TestWitnessLimits(t *testing.T) {
	for i, p := range witnessProgs() {
		fresh, _ := impl.Launch(p)
		for _, none := range [][]impl.Pick{nil, {}} {
			if order, m, ok := impl.Witness(p, none); !ok || len(order) != 0 || !sameMachine(m, fresh) {
				t.Error("none", i, order, ok)
			}
		}
		next := picker(i + 70)
		picks := oddPicks(len(p.Bodies), 4001, &next)
		for _, count := range []int{3999, 4000} {
			order, m, ok := impl.Witness(p, picks[:count])
			plain := newPlainMachine(p)
			run, _ := impl.MachineRun(fresh, picks[:count])
			if want := plain.run(picks[:count]); !ok || !slices.Equal(order, want) || !slices.Equal(m.Trace, plain.trace) || !sameMachine(m, run) {
				t.Error("most", i, count, ok, len(order), len(want))
			}
		}
		for _, many := range [][]impl.Pick{picks, make([]impl.Pick, 4001), stepPicks(-1, 4001), make([]impl.Pick, 8000), make([]impl.Pick, 1000000)} {
			if order, m, ok := impl.Witness(p, many); ok || len(order) != 0 || !zeroMachine(m) {
				t.Error("too many", i, len(many), order, ok)
			}
		}
	}
}

// Each of MaxPicks picks does a place, where all are by themselves: so long may a witness be.
func TestTheLongestWitness(t *testing.T) {
	p := impl.Prog{Bodies: slices.Repeat([][]impl.Ins{{{Op: impl.SrPrint}, {Op: impl.SrJump}}}, 4)}
	for _, run := range []int{1, 3, 1000, 4000} {
		picks, want, notes := make([]impl.Pick, 4000), make([]int, 4000), []impl.Note(nil)
		steps := make([]int, 4)
		for i := range picks {
			who := i / run % 4
			picks[i].Who, want[i] = who, who
			if steps[who]%2 == 0 {
				notes = append(notes, impl.Note{Who: who})
			}
			steps[who]++
		}
		order, m, ok := impl.Witness(p, picks)
		if !ok || !slices.Equal(order, want) || !slices.Equal(m.Trace, notes) {
			t.Error(run, len(order), len(m.Trace), len(notes), ok)
		}
	}
}

// Picks of cores that there are not, on both sides and at both ends of 64 bits, turn nothing, wherever they stand.
func TestPicksOfNoCore(t *testing.T) {
	for count := 1; count <= impl.MaxBodies; count++ {
		p := impl.Prog{Caps: []int{1}, Bodies: pairProg().Bodies[:count]}
		next := picker(count)
		var picks, mixed []impl.Pick
		nobody := slices.Concat([]int{-1, -2, -count, count, count + 1, 4, 256, 1 << 32, 1<<32 + 1}, ends64)
		for i := range 200 {
			x := impl.Pick{Who: next.below(count), Late: next.below(3)}
			picks = append(picks, x)
			mixed = append(mixed, impl.Pick{Who: nobody[i%len(nobody)], Late: i % 3}, x, impl.Pick{Who: nobody[i*7%len(nobody)], Late: ends64[i%4]})
		}
		order, m, _ := witnesses(t, p, picks)
		if other, d, ok := impl.Witness(p, mixed); !ok || !slices.Equal(order, other) || !sameMachine(m, d) {
			t.Error(count, ok, order, other)
		}
		fresh, _ := impl.Launch(p)
		for _, who := range nobody {
			if who >= 0 && who < count {
				continue
			}
			order, m, ok := impl.Witness(p, []impl.Pick{{Who: who, Late: who}, {Who: who}})
			if !ok || len(order) != 0 || !sameMachine(m, fresh) {
				t.Error(count, who, order, ok)
			}
		}
	}
}

// The first and the last core, one below and one beyond, of one core and of as many as there may be.
func TestCoresAtTheEdge(t *testing.T) {
	for count := 1; count <= impl.MaxBodies; count++ {
		p := impl.Prog{Caps: []int{2}, Bodies: pairProg().Bodies[:count]}
		m, _ := impl.Launch(p)
		for who := range count {
			n, _ := impl.CoreStep(m, impl.Pick{Who: who})
			if !commits(t, p, m, n, who) {
				t.Error("a place by itself", count, who)
			}
			d, at := walkOn(t, p, m, stepPicks(who, 40))
			if !slices.Equal(at, []int{0, 2, 14}) || d.Cores[who].State != impl.StEnd {
				t.Error("all of it", count, who, at)
			}
			order, w, ok := witnesses(t, p, stepPicks(who, 40))
			if !ok || !slices.Equal(order, []int{who, who, who}) || !sameMachine(w, d) {
				t.Error("witness", count, who, order, ok)
			}
			for _, other := range slices.Concat([]int{-1, -2, count, count + 1, 4, 5, 256, 1 << 32, 1<<32 + who}, ends64) {
				if commits(t, p, m, n, other) {
					t.Error("no core", count, who, other)
				}
			}
		}
	}
}

// A lock that is not got, again and again: whoever tries does nothing until it was let go.
func TestWitnessOfALockThatIsNotGot(t *testing.T) {
	p := impl.Prog{Caps: []int{2, 1}, Bodies: slices.Repeat([][]impl.Ins{{{Op: impl.SrTrySend, R: 1, A: 0}, {Op: impl.SrPrint, A: 1}, {Op: impl.SrJump}}}, 4)}
	for holder := range 4 {
		got := stepPicks(holder, 2)
		tries := slices.Concat(stepPicks((holder+1)%4, 900), stepPicks((holder+2)%4, 1000), stepPicks((holder+3)%4, 3))
		order, m, ok := impl.Witness(p, slices.Concat(got, tries))
		if !ok || !slices.Equal(order, []int{holder}) || !impl.Locked(m.Mem, p.Caps, 0) {
			t.Error("held", holder, order, ok)
		}
		order, m, _ = impl.Witness(p, slices.Concat(got, tries, stepPicks(holder, 17)))
		if !slices.Equal(order, []int{holder}) || !impl.Locked(m.Mem, p.Caps, 0) {
			t.Error("held still", holder, order, m.Cores[holder])
		}
		order, m, _ = impl.Witness(p, slices.Concat(got, tries, stepPicks(holder, 18)))
		if !slices.Equal(order, []int{holder}) || impl.Locked(m.Mem, p.Caps, 0) {
			t.Error("let go", holder, order, m.Cores[holder])
		}
		next := (holder + 1) % 4
		order, m, _ = impl.Witness(p, slices.Concat(got, tries, stepPicks(holder, 18), stepPicks(next, 2), stepPicks(holder, 300)))
		if !slices.Equal(order, []int{holder, next, holder, holder}) || !impl.Locked(m.Mem, p.Caps, 0) || !slices.Equal(m.Trace, []impl.Note{{Who: holder, V: 1}}) {
			t.Error("got by the next", holder, order, m.Trace)
		}
	}
}

// Who waits gets hold of the lock each time that it tries: each of these does the place, which waits in the program too.
func TestWitnessOfWhoWaits(t *testing.T) {
	take := impl.Prog{Caps: []int{1}, Bodies: [][]impl.Ins{{{Op: impl.SrTake, R: 1, B: 2}, {Op: impl.SrEnd}}}}
	order, m, ok := impl.Witness(take, stepPicks(0, 4000))
	if !ok || len(order) != 400 || m.Cores[0].State != impl.StRun {
		t.Error("takes ten steps a time", len(order), ok)
	}
	s, _ := impl.SourceNew(take)
	if _, codes := impl.SourceRun(take, s, order); slices.ContainsFunc(codes, func(code int) bool { return code != impl.PkWait }) {
		t.Error("takes", codes)
	}
	send := impl.Prog{Caps: []int{1}, Bodies: [][]impl.Ins{{{Op: impl.SrSend}, {Op: impl.SrSend}, {Op: impl.SrEnd}}}}
	order, m, ok = impl.Witness(send, stepPicks(0, 4000))
	s, _ = impl.SourceNew(send)
	_, codes := impl.SourceRun(send, s, order)
	if !ok || len(order) < 300 || m.Cores[0].State != impl.StRun || codes[0] != impl.PkDone || slices.ContainsFunc(codes[1:], func(code int) bool { return code != impl.PkWait }) {
		t.Error("sends", len(order), ok)
	}
}

// A step that faults is of a place that the lock did; a core that faulted or ended does nothing more.
func TestWitnessOfFaultsAndEnds(t *testing.T) {
	p := faultProg()
	order, m, ok := witnesses(t, p, slices.Concat(stepPicks(0, 60), stepPicks(1, 60), stepPicks(2, 60), stepPicks(3, 1), stepPicks(0, 20)))
	if !ok || !slices.Equal(order, []int{0, 0, 0, 1, 1, 2}) || len(m.Trace) != 1 {
		t.Error("faults", order, m.Trace, ok)
	}
	for who := range 3 {
		if m.Cores[who].State != impl.StFault {
			t.Error("no fault", who, m.Cores[who])
		}
	}
	ended := impl.Prog{Bodies: [][]impl.Ins{endsOf(1), endsOf(24), {{Op: impl.SrPrint}, {Op: impl.SrEnd}}}}
	order, m, ok = witnesses(t, ended, slices.Concat(stepPicks(1, 30), stepPicks(0, 1), stepPicks(2, 30), stepPicks(0, 30), stepPicks(1, 1)))
	if !ok || !slices.Equal(order, []int{1, 0, 2, 2}) || len(m.Trace) != 1 {
		t.Error("ends", order, m.Trace, ok)
	}
}

// eachWrongProg goes through programs that are not ProgOk, in each of the ways, each wrong in one.
func eachWrongProg(look func(what string, p impl.Prog)) {
	for _, p := range wrongProgs() {
		look("no program", p)
	}
	right := pairProg().Bodies[0]
	for what, list := range wrongBodies() {
		look(what, impl.Prog{Caps: []int{2}, Bodies: [][]impl.Ins{list}})
		for at := range 4 {
			bodies := slices.Repeat([][]impl.Ins{right}, 4)
			bodies[at] = list
			look(what+" among four", impl.Prog{Caps: []int{2}, Bodies: bodies})
		}
	}
	for _, wrong := range slices.Concat([]int{0, -1, 5, 24}, ends64) {
		for _, caps := range [][]int{{wrong}, {wrong, 1}, {1, wrong}, {1, 1, wrong}} {
			look("caps", impl.Prog{Caps: caps, Bodies: pairProg().Bodies})
		}
	}
	look("channels", impl.Prog{Caps: []int{2, 1, 1, 1}, Bodies: pairProg().Bodies})
	for _, count := range []int{0, 5, 1000} {
		look("bodies", impl.Prog{Caps: []int{2}, Bodies: slices.Repeat([][]impl.Ins{right}, count)})
	}
}

// A program that is not ProgOk has neither, in each of the ways.
func TestWitnessOfWrongProgs(t *testing.T) {
	eachWrongProg(func(what string, p impl.Prog) { noWitness(t, what, p) })
	if pair := somePairs()[0]; !commits(t, pairProg(), pair[0], pair[1], 0) {
		t.Error("the right one")
	}
}

// lockPair is machines of pairProg before and after core 1 got hold of the lock.
func lockPair(t *testing.T) (impl.Machine, impl.Machine) {
	t.Helper()
	m, _ := impl.Launch(pairProg())
	before, _ := impl.MachineRun(m, stepPicks(1, 2))
	after, code := impl.CoreStep(before, impl.Pick{Who: 1})
	if code != impl.PkDone || !commits(t, pairProg(), before, after, 1) {
		t.Fatal("no lock", code)
	}
	return before, after
}

// machineTurns are ways in which a machine may be wrong, most of them of core 1.
func machineTurns() map[string]func(m *impl.Machine) {
	turns := map[string]func(m *impl.Machine){
		"as it is":               func(m *impl.Machine) {},
		"nothing":                func(m *impl.Machine) { *m = impl.Machine{} },
		"no codes":               func(m *impl.Machine) { m.Codes = nil },
		"one code":               func(m *impl.Machine) { m.Codes = m.Codes[:1] },
		"two codes":              func(m *impl.Machine) { m.Codes = m.Codes[:2] },
		"many codes":             func(m *impl.Machine) { m.Codes = slices.Repeat(m.Codes, 5) },
		"an empty code":          func(m *impl.Machine) { m.Codes[1] = nil },
		"a short code":           func(m *impl.Machine) { m.Codes[1] = m.Codes[1][:2] },
		"a long code":            func(m *impl.Machine) { m.Codes[1] = slices.Repeat(m.Codes[1], 100) },
		"no cores":               func(m *impl.Machine) { m.Cores = nil },
		"one core":               func(m *impl.Machine) { m.Cores = m.Cores[:1] },
		"two cores":              func(m *impl.Machine) { m.Cores = m.Cores[:2] },
		"many cores":             func(m *impl.Machine) { m.Cores = slices.Repeat(m.Cores, 5) },
		"empty cores":            func(m *impl.Machine) { m.Cores = make([]impl.Core, 50000) },
		"no memory":              func(m *impl.Machine) { m.Mem = impl.Memory{} },
		"no writes":              func(m *impl.Machine) { m.Mem.Cells[0] = nil },
		"no view":                func(m *impl.Machine) { m.Cores[1].View = nil },
		"a view beyond":          func(m *impl.Machine) { m.Cores[1].View[3] = math.MaxInt },
		"notes of nobody":        func(m *impl.Machine) { m.Trace = []impl.Note{{Who: -1}, {Who: 9}} },
		"far too many":           func(m *impl.Machine) { m.Trace = make([]impl.Note, 50000) },
		"a fourth code":          func(m *impl.Machine) { m.Codes[3] = nil },
		"another core's":         func(m *impl.Machine) { m.Cores[0].At, m.Cores[2].Regs = math.MaxInt, nil },
		"a swap of a 0":          func(m *impl.Machine) { m.Codes[1][2].R = 0 },
		"a swap of no cell":      func(m *impl.Machine) { m.Codes[1][2].N = math.MinInt },
		"what was read is not 0": func(m *impl.Machine) { m.Cores[1].Regs[6] = 1 },
	}
	for _, v := range slices.Concat([]int{-1, 0, 1, 3, 13, 14, 15, 16, 24, 800}, ends64) {
		turns[fmt.Sprint("at ", v)] = func(m *impl.Machine) { m.Cores[1].At = v }
		turns[fmt.Sprint("state ", v)] = func(m *impl.Machine) { m.Cores[1].State = v }
	}
	for _, v := range []int{-1, 8, math.MinInt, math.MaxInt} {
		turns[fmt.Sprint("register ", v)] = func(m *impl.Machine) { m.Codes[1][2].R = v }
		turns[fmt.Sprint("op ", v)] = func(m *impl.Machine) { m.Codes[1][2].Op = v }
	}
	for _, count := range []int{0, 4, 6, 7, 9, 50000} {
		turns[fmt.Sprint(count, " registers")] = func(m *impl.Machine) { m.Cores[1].Regs = make([]int, count) }
	}
	return turns
}

// Machines before and after that are wrong in any two ways: Commits asks for the core, its step and place, and what was
// read, and for nothing else.
func TestCommitsOfWrongMachines(t *testing.T) {
	before, after := lockPair(t)
	p, turns, answers := pairProg(), machineTurns(), map[bool]int{}
	for _, one := range turns {
		b := cloneMachine(before)
		one(&b)
		for _, other := range turns {
			a := cloneMachine(after)
			other(&a)
			for _, who := range []int{-1, 0, 1, 2, 3, 4, math.MinInt, math.MaxInt} {
				answers[commits(t, p, b, a, who)]++
			}
		}
	}
	if answers[true] < 1000 || answers[false] < 1000 {
		t.Error("too few", answers)
	}
}

// What each way in which one machine is wrong answers, written out: of the lock that core 1 got.
func TestCommitsOfEachWrongMachine(t *testing.T) {
	before, after := lockPair(t)
	rows := map[string][2]bool{ // before so, after so
		"as it is": {true, true}, "nothing": {false, false}, "no codes": {false, true}, "one code": {false, true}, "two codes": {true, true},
		"an empty code": {false, true}, "a short code": {false, true}, "a long code": {true, true}, "no cores": {false, false}, "one core": {false, false},
		"two cores": {true, true}, "empty cores": {true, false}, "no memory": {true, true}, "no view": {true, true}, "notes of nobody": {true, true},
		"another core's": {true, true}, "what was read is not 0": {true, false}, "at -1": {false, true}, "at 0": {true, true}, "at 1": {false, true}, "at 15": {false, true},
		"at 14": {true, true}, "at 800": {false, true}, fmt.Sprint("at ", math.MinInt): {false, true}, fmt.Sprint("at ", math.MaxInt): {false, true},
		"register -1": {false, true}, "register 8": {false, true}, fmt.Sprint("register ", math.MaxInt): {false, true}, "op 8": {true, true}, "op -1": {false, true},
		"0 registers": {true, false}, "6 registers": {true, false}, "7 registers": {true, true}, "9 registers": {true, true},
	}
	turns := machineTurns()
	for what, want := range rows {
		turn, ok := turns[what]
		if !ok {
			t.Fatal("no such turn", what)
		}
		b, a := cloneMachine(before), cloneMachine(after)
		turn(&b)
		turn(&a)
		if got := [2]bool{commits(t, pairProg(), b, after, 1), commits(t, pairProg(), before, a, 1)}; got != want {
			t.Error(what, got, "not", want)
		}
	}
}

// A place by itself does not ask what was read, only that the core is there in both machines.
func TestCommitsOfAPlaceByItselfOfWrongMachines(t *testing.T) {
	p := impl.Prog{Bodies: slices.Repeat([][]impl.Ins{endsOf(2)}, 3)}
	right, _ := impl.Launch(p)
	for what, m := range turnedMachines() {
		for _, who := range []int{-1, 0, 1, 2, 3, 4, math.MinInt, math.MaxInt} {
			commits(t, p, m, right, who)
			commits(t, p, right, m, who)
			commits(t, p, m, m, who)
			if there := who >= 0 && who < 3 && who < len(m.Cores); impl.Commits(p, right, m, who) != there {
				t.Error(what, who)
			}
		}
	}
}

// Machines of another program: the step is that of the machine, its place is that of the program.
func TestCommitsOfAnotherProgram(t *testing.T) {
	for i, p := range witnessProgs() {
		for k, q := range witnessProgs() {
			next := picker(i*20 + k)
			m, _ := impl.Launch(q)
			for _, x := range oddPicks(len(q.Bodies), 40, &next) {
				d, _ := impl.CoreStep(m, x)
				commits(t, p, m, d, x.Who)
				m = d
			}
		}
	}
	alone := impl.Prog{Caps: []int{1}, Bodies: [][]impl.Ins{endsOf(24)}}
	locks := impl.Prog{Caps: []int{1}, Bodies: [][]impl.Ins{{{Op: impl.SrClose}, {Op: impl.SrEnd}}}}
	later := impl.Prog{Caps: []int{1}, Bodies: [][]impl.Ins{{{Op: impl.SrSet}, {Op: impl.SrClose}, {Op: impl.SrEnd}}}}
	m, _ := impl.Launch(locks)
	u, _ := impl.CoreStep(m, impl.Pick{})
	v, _ := impl.CoreStep(u, impl.Pick{})
	held := cloneMachine(v)
	held.Cores[0].Regs[6] = 1
	if !commits(t, alone, m, u, 0) || !commits(t, alone, u, v, 0) || !commits(t, alone, u, held, 0) {
		t.Error("all places of the program are by themselves")
	}
	if !commits(t, later, m, u, 0) || !commits(t, later, u, v, 0) || commits(t, later, u, held, 0) {
		t.Error("the swap stands elsewhere in the program")
	}
	few, _ := impl.Launch(impl.Prog{Bodies: [][]impl.Ins{endsOf(24)}})
	few.Cores[0].At = 13
	if !commits(t, locks, few, few, 0) {
		t.Error("the last step of the program")
	}
	few.Cores[0].At = 14
	if commits(t, locks, few, few, 0) || !commits(t, later, few, few, 0) {
		t.Error("beyond the last step of the program")
	}
}

// Fewer cores, codes and registers than the program asks for, of which core 2 is asked.
func TestCommitsOfFewerCores(t *testing.T) {
	p := pairProg()
	m, _ := impl.Launch(p)
	for count := range 5 {
		few := cloneMachine(m)
		few.Codes, few.Cores = few.Codes[:count], few.Cores[:count]
		for who := range 5 {
			there := who < count && who < 4
			if commits(t, p, few, m, who) != there || commits(t, p, m, few, who) != there || commits(t, p, few, few, who) != there {
				t.Error(count, who, there)
			}
			small := impl.Prog{Caps: p.Caps, Bodies: p.Bodies[:count]}
			if commits(t, small, m, m, who) != there {
				t.Error("fewer bodies", count, who)
			}
		}
	}
}

// eachWitnessCall calls look with programs, machines and picks, right ones and wrong ones, with room behind each list.
func eachWitnessCall(look func(p impl.Prog, before impl.Machine, after impl.Machine, picks []impl.Pick)) {
	turn := 0
	for _, p := range append(witnessProgs(), wrongProgs()...) {
		turn++
		next := picker(turn)
		picks := oddPicks(max(1, min(len(p.Bodies), 4)), 60, &next)
		before, ok := impl.Launch(p)
		if !ok {
			before = somePairs()[turn%5][0]
		}
		before, _ = impl.MachineRun(before, picks[:turn])
		after, _ := impl.CoreStep(before, picks[turn])
		for _, count := range []int{0, 1, 60} {
			look(roomyProg(p), spareMachine(before), spareMachine(after), slices.Concat(picks[:count], []impl.Pick{{Who: 0}, {Who: 1}})[:count])
		}
	}
	turns := machineTurns()
	for _, p := range []impl.Prog{pairProg(), {}} {
		for _, turn := range turns {
			pair := somePairs()[1]
			turn(&pair[0])
			look(roomyProg(p), spareMachine(pair[0]), spareMachine(pair[1]), make([]impl.Pick, 3, 5))
			look(roomyProg(p), spareMachine(pair[1]), spareMachine(pair[0]), make([]impl.Pick, 4001))
		}
	}
}

// witnessAnswers are what the functions of chapter 12 tell.
type witnessAnswers struct {
	fresh impl.Machine
	made  bool
	does  []bool
	order []int
	then  impl.Machine
	ok    bool
}

func witnessAnswersOf(p impl.Prog, before impl.Machine, after impl.Machine, picks []impl.Pick) witnessAnswers {
	var a witnessAnswers
	a.fresh, a.made = impl.Launch(p)
	for who := -1; who <= 4; who++ {
		a.does = append(a.does, impl.Commits(p, before, after, who))
	}
	a.order, a.then, a.ok = impl.Witness(p, picks)
	return a
}

func witnessAnswersWanted(p impl.Prog, before impl.Machine, after impl.Machine, picks []impl.Pick) witnessAnswers {
	var a witnessAnswers
	a.fresh, a.made = launchWanted(p)
	for who := -1; who <= 4; who++ {
		a.does = append(a.does, commitsWanted(p, before, after, who))
	}
	a.order, a.then, a.ok = witnessWanted(p, picks)
	return a
}

func sameWitnessAnswers(a witnessAnswers, b witnessAnswers) bool {
	return a.made == b.made && a.ok == b.ok && slices.Equal(a.does, b.does) && slices.Equal(a.order, b.order) && sameMachine(a.fresh, b.fresh) && sameMachine(a.then, b.then)
}

func writeOverWitnessAnswers(a witnessAnswers) {
	writeOverMachine(a.fresh)
	writeOverMachine(a.then)
	scribble(a.order)
}

// Promise 18: nothing is written into an argument, nor into the room behind its lists, nor read there.
func TestChapterTwelveWritesIntoNoArgument(t *testing.T) {
	eachWitnessCall(func(p impl.Prog, before impl.Machine, after impl.Machine, picks []impl.Pick) {
		prog, first, second, list := wholeProg(p), wholeMachine(before), wholeMachine(after), slices.Clone(picks[:cap(picks)])
		got, want := witnessAnswersOf(p, before, after, picks), witnessAnswersWanted(p, before, after, picks)
		if !sameWitnessAnswers(got, want) {
			t.Errorf("%v: %v %v, not %v %v", brief(p), got.does, got.order, want.does, want.order)
		}
		if !reflect.DeepEqual(prog, wholeProg(p)) || !reflect.DeepEqual(first, wholeMachine(before)) || !reflect.DeepEqual(second, wholeMachine(after)) || !slices.Equal(list, picks[:cap(picks)]) {
			t.Errorf("an argument was written into: %v", brief(p))
		}
	})
}

// Promise 18: no answer shares memory with an argument or with another answer, its lists lie apart, and nothing is kept.
func TestChapterTwelveAnswersNewMemory(t *testing.T) {
	eachWitnessCall(func(p impl.Prog, before impl.Machine, after impl.Machine, picks []impl.Pick) {
		want := witnessAnswersWanted(p, before, after, picks)
		writeOverWitnessAnswers(witnessAnswersOf(p, before, after, picks))
		second, third := witnessAnswersOf(p, before, after, picks), witnessAnswersOf(p, before, after, picks)
		if !sameWitnessAnswers(second, want) || !sameWitnessAnswers(third, want) {
			t.Errorf("something was kept: %v", brief(p))
		}
		writeOver(p)
		writeOverMachine(before)
		writeOverMachine(after)
		fill(picks, impl.Pick{Who: -77, Late: -77})
		writeOverWitnessAnswers(third)
		if !sameWitnessAnswers(second, want) {
			t.Errorf("the argument lies in the answer: %v", brief(p))
		}
		machineApart(t, second.fresh)
		machineApart(t, second.then, second.order)
	})
}

// Promise 18: from call to call the same, however the goroutines of one call run, and of many calls at once.
func TestChapterTwelveAnswersTheSame(t *testing.T) {
	for i, p := range witnessProgs() {
		next := picker(i + 600)
		picks := oddPicks(len(p.Bodies), 400, &next)
		order, m, _ := impl.Witness(p, picks)
		var calls sync.WaitGroup
		same := make([]bool, 8)
		for k := range same {
			calls.Go(func() {
				same[k] = true
				for range 4 {
					other, d, ok := impl.Witness(p, picks)
					same[k] = same[k] && ok && slices.Equal(order, other) && sameMachine(m, d)
				}
			})
		}
		calls.Wait()
		if slices.Contains(same, false) {
			t.Error("another answer", i, same)
		}
	}
}

// No goroutine is left behind a call, whatever it was given. One that has told that it is through may still be on its
// way out, so there is some time for that.
func TestNoGoroutineIsLeftBehind(t *testing.T) {
	before := runtime.NumGoroutine()
	for i, p := range append(witnessProgs(), wrongProgs()...) {
		next := picker(i)
		for _, picks := range [][]impl.Pick{nil, {{Who: -1}}, {{Who: math.MaxInt}}, oddPicks(4, 300, &next), make([]impl.Pick, 4001), stepPicks(0, 3)} {
			for range 5 {
				impl.Witness(p, picks)
			}
		}
	}
	for range 5000 {
		if runtime.NumGoroutine() <= before {
			return
		}
		time.Sleep(time.Millisecond)
	}
	t.Error("goroutines", before, runtime.NumGoroutine())
}

// Promise 18: long lists are answered.
func TestChapterTwelveAnswersLongLists(t *testing.T) {
	long := impl.Prog{Caps: make([]int, 100000), Bodies: make([][]impl.Ins, 100000)}
	noWitness(t, "long lists", long)
	noWitness(t, "a long body", impl.Prog{Bodies: [][]impl.Ins{endsOf(100000)}})
	m := impl.Machine{Codes: make([][]impl.Step, 100000), Cores: make([]impl.Core, 100000), Trace: make([]impl.Note, 100000)}
	for _, who := range slices.Concat([]int{-1, 0, 3, 4, 99999, 100000}, ends64) {
		if commits(t, pairProg(), m, m, who) || commits(t, long, m, m, who) {
			t.Error("a long machine", who)
		}
	}
}
