package tests

import (
	"fmt"
	"math"
	"reflect"
	"runtime"
	"slices"
	"sync"
	"testing"

	"loop.example/g00238/impl"
)

// A calmer is the document's chapter 15 once more. All answers are in time there, so it finds out on a memory that is
// not weak which steps there are to be; what they make of the machine is told by MachineRun.
type calmer struct {
	plain  plainMachine
	starts [][]int
	writes [24]int
	picks  []impl.Pick
}

func newCalmer(p impl.Prog, m impl.Machine) *calmer {
	d := cloneMachine(m)
	k := &calmer{plain: plainMachine{codes: d.Codes, cores: d.Cores, trace: d.Trace}}
	for who := range d.Cores {
		k.plain.owners = append(k.plain.owners, make([]int, 801))
		k.starts = append(k.starts, startsWanted(p, who))
	}
	for cell, list := range d.Mem.Cells {
		k.plain.cells[cell], k.writes[cell] = list[len(list)-1].V, len(list)
	}
	return k
}

// step answers whether it was done.
func (k *calmer) step(who int) bool {
	c := &k.plain.cores[who]
	if c.State != 0 {
		return false
	}
	s := k.plain.codes[who][c.At]
	cell := s.N
	if s.Op >= 5 && s.Op <= 7 && s.A >= 0 {
		cell += c.Regs[s.A]
	}
	there := cell >= 0 && cell < 24
	if s.Op >= 6 && s.Op <= 8 && there {
		if k.writes[cell] == 4000 {
			return false
		}
		k.writes[cell]++
	}
	if s.Op == 9 && len(k.plain.trace) == 4000 {
		return false
	}
	k.picks = append(k.picks, impl.Pick{Who: who})
	if s.Op >= 5 && s.Op <= 8 && !there {
		c.State = 2
	} else {
		k.plain.step(who)
	}
	return true
}

func (k *calmer) alone(who int, steps int) {
	for i := 0; i < steps && i < 4000 && k.step(who); i++ {
	}
}

func (k *calmer) rest() {
	for range 4 {
		for who := range k.plain.cores {
			c := &k.plain.cores[who]
			for i := 0; i < 40 && c.State == 0 && !slices.Contains(k.starts[who], c.At); i++ {
				k.step(who)
			}
		}
	}
}

func (k *calmer) finish(rounds int) {
	for i := 0; i < rounds && i < 60; i++ {
		k.rest()
		for who := range k.plain.cores {
			k.alone(who, 40)
			k.rest()
		}
	}
}

func (k *calmer) stopped() int {
	stopped := 0
	for _, c := range k.plain.cores {
		if c.State != 0 {
			stopped++
		}
	}
	return stopped
}

// then is m by the steps that there were.
func (k *calmer) then(t *testing.T, m impl.Machine) impl.Machine {
	t.Helper()
	d := cloneMachine(m)
	for part := range slices.Chunk(k.picks, 4000) {
		var codes []int
		d, codes = impl.MachineRun(d, part)
		if len(codes) != len(part) || slices.ContainsFunc(codes, func(code int) bool { return code != 0 }) {
			t.Fatal("a step that was not done", brief(codes))
		}
	}
	if !coresWanted(d.Cores, k.plain.cores) || !slices.Equal(d.Trace, k.plain.trace) {
		t.Fatal("not as on a memory that is not weak", brief(d.Cores), brief(k.plain.cores))
	}
	return d
}

// fits says whether Rest and Finish are of these.
func fits(p impl.Prog, m impl.Machine) bool { return machineRight(m) && len(m.Cores) == len(p.Bodies) }

// alones holds Alone against what is wanted, and answers it.
func alones(t *testing.T, m impl.Machine, who int, steps int) impl.Machine {
	t.Helper()
	got, want := impl.Alone(m, who, steps), impl.Machine{}
	if machineRight(m) {
		k := newCalmer(impl.Prog{}, m)
		if who >= 0 && who < len(m.Cores) {
			k.alone(who, steps)
		}
		want = k.then(t, m)
	}
	if !sameMachine(got, want) {
		t.Errorf("core %v, %v steps: %v %v, not %v %v", who, steps, brief(got.Cores), len(got.Trace), brief(want.Cores), len(want.Trace))
	}
	return got
}

// rests holds Rest against what is wanted, and answers it, and the steps that led there.
func rests(t *testing.T, p impl.Prog, m impl.Machine) (impl.Machine, []impl.Pick) {
	t.Helper()
	got := impl.Rest(p, m)
	if !fits(p, m) {
		if !zeroMachine(got) {
			t.Errorf("%v: not zero: %v", brief(p), brief(got))
		}
		return got, nil
	}
	k := newCalmer(p, m)
	k.rest()
	if want := k.then(t, m); !sameMachine(got, want) {
		t.Errorf("%v: %v %v, not %v %v", brief(p), brief(got.Cores), brief(got.Trace), brief(want.Cores), brief(want.Trace))
	}
	return got, k.picks
}

// finishes holds Finish against what is wanted, and answers it, and the steps that led there.
func finishes(t *testing.T, p impl.Prog, m impl.Machine, rounds int) (impl.Machine, int, []impl.Pick) {
	t.Helper()
	got, stopped := impl.Finish(p, m, rounds)
	if !fits(p, m) {
		if !zeroMachine(got) || stopped != 0 {
			t.Errorf("%v: not zero: %v %v", brief(p), brief(got), stopped)
		}
		return got, stopped, nil
	}
	k := newCalmer(p, m)
	k.finish(rounds)
	if want := k.then(t, m); stopped != k.stopped() || !sameMachine(got, want) {
		t.Errorf("%v rounds of %v: %v %v, not %v %v", rounds, brief(p), brief(got.Cores), stopped, brief(want.Cores), k.stopped())
	}
	return got, stopped, k.picks
}

// A halfway is a program and its machine somewhere on its way, by picks.
type halfway struct {
	what  string
	p     impl.Prog
	picks []impl.Pick
	m     impl.Machine
}

func halfwayOf(what string, p impl.Prog, picks []impl.Pick) halfway {
	m, _ := impl.Launch(p)
	m, _ = impl.MachineRun(m, picks)
	return halfway{what, p, picks, m}
}

// eachHalfway goes through machines from their beginnings on, by one core, by turns and in no order, late answers among
// the steps.
func eachHalfway(look func(h halfway)) {
	for i, p := range witnessProgs() {
		for what, picks := range pickRows(len(p.Bodies), 260, i+15) {
			for _, cut := range []int{0, 1 + i, 20 + i, 77 + 2*i, 201 + 3*i} {
				look(halfwayOf(fmt.Sprint(i, " ", what, " ", cut), p, picks[:cut]))
			}
		}
	}
}

func (k count) addMachine(p impl.Prog, m impl.Machine) {
	for who, c := range m.Cores {
		k[fmt.Sprint("state ", c.State)]++
		k[fmt.Sprint("between ", impl.Between(p, m, who))]++
	}
	for n := range p.Caps {
		k[fmt.Sprint("locked ", impl.Locked(m.Mem, p.Caps, n))]++
	}
	k["notes"] += len(m.Trace)
}

// atRest asks that no channel is locked and each is one, that each core is between two places or does not run, and that
// there is nothing more to do.
func atRest(t *testing.T, what string, p impl.Prog, m impl.Machine) {
	t.Helper()
	if !impl.MachineOk(m) || len(m.Cores) != len(p.Bodies) {
		t.Fatal(what, "no machine", brief(p))
	}
	for n := range p.Caps {
		if _, ok := impl.ChanIn(m.Mem, p.Caps, n); !ok || impl.Locked(m.Mem, p.Caps, n) {
			t.Fatalf("%v: channel %v of %v: locked, or none: %v", what, n, brief(p), brief(m.Cores))
		}
	}
	for who, c := range m.Cores {
		if c.State == impl.StRun && !impl.Between(p, m, who) {
			t.Fatalf("%v: core %v of %v: on its way: %v", what, who, brief(p), brief(c))
		}
	}
	if again := impl.Rest(p, m); !sameMachine(again, m) {
		t.Fatalf("%v: rest of what is at rest: %v, not %v", what, brief(again.Cores), brief(m.Cores))
	}
}

// goneOn asks for promise 14 of a machine that went on from a halfway by more steps: it prints what the program prints
// in the order in which it was done, and stands where that stands.
func goneOn(t *testing.T, h halfway, m impl.Machine, more []impl.Pick) {
	t.Helper()
	picks := slices.Concat(h.picks, more)
	if len(picks) > 4000 {
		t.Fatal(h.what, "too many", len(picks))
	}
	told := asOnPlainMemory(t, h.what, h.p, picks)
	if !sameMachine(told.Then, m) || !slices.Equal(told.s.Trace, m.Trace) || !impl.Same(h.p, m, told.s) {
		t.Fatalf("%v: %v: %v %v, not %v %v", h.what, brief(h.p), brief(m.Cores), m.Trace, brief(told.s.Threads), told.s.Trace)
	}
}

// The steps of one that sends, alone, written out.
func TestAloneRows(t *testing.T) {
	p := impl.Prog{Caps: []int{1}, Bodies: [][]impl.Ins{{{Op: impl.SrSet, R: 2, N: 5}, {Op: impl.SrSend, A: 2}, {Op: impl.SrPrint, A: 2}, {Op: impl.SrSend, A: 2}, {Op: impl.SrEnd}}, {{Op: impl.SrJump}}}}
	m, _ := impl.Launch(p)
	rows := []struct {
		steps  int
		at     int
		locked bool
		notes  int
		count  int
	}{
		{-1, 0, false, 0, 0}, {0, 0, false, 0, 0}, {1, 1, false, 0, 0}, {2, 2, false, 0, 0}, {3, 3, true, 0, 0}, {4, 5, true, 0, 0}, {18, 23, true, 0, 0}, {19, 24, true, 0, 1}, {20, 25, true, 0, 1}, {21, 26, false, 0, 1},
		{22, 30, false, 0, 1}, {23, 31, false, 1, 1}, {24, 32, false, 1, 1}, {25, 33, true, 1, 1}, {33, 58, true, 1, 1}, {34, 59, false, 1, 1}, {35, 31, false, 1, 1}, {36, 32, false, 1, 1}, {47, 31, false, 1, 1}, {4000, 40, true, 1, 1},
	}
	for _, row := range rows {
		d := alones(t, m, 0, row.steps)
		c, _ := impl.ChanIn(d.Mem, p.Caps, 0)
		if d.Cores[0].At != row.at || impl.Locked(d.Mem, p.Caps, 0) != row.locked || len(d.Trace) != row.notes || len(c.List) != row.count || !sameCore(d.Cores[1], m.Cores[1]) {
			t.Error(row, d.Cores[0].At, impl.Locked(d.Mem, p.Caps, 0), d.Trace, c)
		}
	}
}

// Each core of machines on their way, for no step, one, some and many.
func TestAloneAsTold(t *testing.T) {
	seen := count{}
	eachHalfway(func(h halfway) {
		for who := range h.m.Cores {
			for _, steps := range []int{-1, 0, 1, 2, 7, 13, 40, 41} {
				d := alones(t, h.m, who, steps)
				if steps <= 0 && !sameMachine(d, h.m) {
					t.Fatal(h.what, steps)
				}
				seen.addMachine(h.p, d)
			}
		}
	})
	seen.atLeast(t, 300, "state 0", "state 1", "state 2", "between true", "between false", "locked true", "locked false", "notes")
	for seed := range 60 {
		m := oddMachine(picker(seed + 1550))
		for who := range m.Cores {
			for _, steps := range []int{-7, 0, 1, 2, 5, 40, 300} {
				alones(t, m, who, steps)
			}
		}
	}
}

// Alone against the document's CoreStep step by step, and its answers in time: what the core did not know is told.
func TestAloneStepByStep(t *testing.T) {
	for i, p := range witnessProgs() {
		next := picker(i + 1500)
		h := halfwayOf("", p, oddPicks(len(p.Bodies), 70, &next))
		for who := range h.m.Cores {
			want, code := cloneMachine(h.m), 0
			for steps := range 60 {
				if got := impl.Alone(h.m, who, steps); !sameMachine(got, want) {
					t.Fatal(i, who, steps, brief(got.Cores), brief(want.Cores))
				}
				if code == 0 {
					want, code = coreStepWanted(want, impl.Pick{Who: who})
				}
			}
		}
	}
	m, _ := impl.MachineNew([][]impl.Step{{{Op: impl.MaLoad, R: 1, A: -1, N: 7}, {Op: impl.MaPrint, A: 1}, {Op: impl.MaEnd}}})
	put(m.Mem, 7, 1)
	put(m.Mem, 7, 2)
	put(m.Mem, 7, 3)
	if d := impl.Alone(m, 0, 5); !slices.Equal(d.Trace, []impl.Note{{V: 3}}) || d.Cores[0].View[7] != 3 || d.Cores[0].State != impl.StEnd {
		t.Error("late", d.Trace, d.Cores)
	}
}

// MaxPicks steps and one more, and both ends of 64 bits: at most MaxPicks, none below 0.
func TestAloneLimits(t *testing.T) {
	m, _ := impl.MachineNew(slices.Repeat([][]impl.Step{{{Op: impl.MaAdd, R: 0, A: 0, B: 1}, {Op: impl.MaAdd, R: 0, A: 0, B: 1}, {Op: impl.MaJump}}}, 3))
	for who := range m.Cores {
		m.Cores[who].Regs[1] = 1
	}
	rows := map[int][2]int{math.MinInt: {0, 0}, math.MinInt + 1: {0, 0}, -4000: {0, 0}, -1: {0, 0}, 0: {0, 0}, 1: {1, 1}, 2: {2, 2}, 3: {2, 0}, 40: {27, 1}, 41: {28, 2}, 3999: {2666, 0}, 4000: {2667, 1},
		4001: {2667, 1}, 4002: {2667, 1}, 8000: {2667, 1}, 1 << 32: {2667, 1}, 1<<32 + 1: {2667, 1}, math.MaxInt - 1: {2667, 1}, math.MaxInt: {2667, 1}}
	for steps, want := range rows {
		for who := range m.Cores {
			d := alones(t, m, who, steps)
			for other, c := range d.Cores {
				if other == who && (c.Regs[0] != want[0] || c.At != want[1]) || other != who && !sameCore(c, m.Cores[other]) {
					t.Error(steps, who, other, c.Regs[0], c.At)
				}
			}
		}
	}
	p := impl.Prog{Caps: []int{1}, Bodies: [][]impl.Ins{{{Op: impl.SrTake, R: 1, B: 2}, {Op: impl.SrEnd}}}}
	from, _ := impl.Launch(p)
	most, beyond := alones(t, from, 0, 4000), alones(t, from, 0, 4001)
	if !sameMachine(most, beyond) || len(most.Mem.Cells[0]) != 801 {
		t.Error("who waits", len(most.Mem.Cells[0]))
	}
}

// As long as it is PkDone: at an end, at a fault, at a cell that there is not, and where there is no room.
func TestAloneStops(t *testing.T) {
	add := impl.Step{Op: impl.MaAdd, R: 0, A: 0, B: 1}
	rows := []struct {
		what  string
		last  impl.Step
		state int
	}{
		{"end", impl.Step{Op: impl.MaEnd}, impl.StEnd}, {"fault", impl.Step{Op: impl.MaFault}, impl.StFault}, {"no cell", impl.Step{Op: impl.MaLoad, R: 2, A: 3, N: 23}, impl.StFault},
		{"no room to print", impl.Step{Op: impl.MaPrint}, impl.StRun}, {"no room to store", impl.Step{Op: impl.MaStore, A: -1, N: 5}, impl.StRun},
		{"no room to let go", impl.Step{Op: impl.MaLet, A: -1, N: 5}, impl.StRun}, {"no room to swap", impl.Step{Op: impl.MaSwap, R: 2, N: 5}, impl.StRun},
	}
	for _, row := range rows {
		m, _ := impl.MachineNew([][]impl.Step{ends(1), {add, add, add, row.last, add, {Op: impl.MaJump}}})
		m.Mem = writtenTo(5, 4000)
		m.Trace = slices.Repeat([]impl.Note{{V: 4}}, 4000)
		m.Cores[1].Regs[1], m.Cores[1].Regs[3] = 1, 1
		for _, steps := range []int{4, 5, 40, 4000, math.MaxInt} {
			d := alones(t, m, 1, steps)
			if c := d.Cores[1]; c.At != 3 || c.State != row.state || c.Regs[0] != 3 || c.Regs[2] != 0 || len(d.Trace) != 4000 || len(d.Mem.Cells[5]) != 4000 {
				t.Error(row.what, steps, c)
			}
		}
	}
	for state := 1; state <= 2; state++ {
		m := machineAt(impl.Step{Op: impl.MaPrint}, 0, 2)
		m.Cores[1].State = state
		if d := alones(t, m, 1, 9); !sameMachine(d, m) {
			t.Error("does not run", state)
		}
	}
}

// A core that there is not, below nought and beyond the last: as it is.
func TestAloneOfNoCore(t *testing.T) {
	eachHalfway(func(h halfway) {
		cores := len(h.m.Cores)
		for _, who := range slices.Concat([]int{-1, -2, -cores, cores, cores + 1, 4, 5, 256, 1 << 32}, ends64) {
			if who >= 0 && who < cores {
				continue
			}
			for _, steps := range []int{-1, 0, 1, 4000, math.MaxInt} {
				if d := impl.Alone(h.m, who, steps); !sameMachine(d, h.m) {
					t.Fatal(h.what, who, steps)
				}
			}
		}
	})
}

// Rest of one that sends and one that takes, stopped after each step, written out.
func TestRestRows(t *testing.T) {
	p := impl.Prog{Caps: []int{1}, Bodies: [][]impl.Ins{
		{{Op: impl.SrSet, R: 0, N: 5}, {Op: impl.SrSend, A: 0}, {Op: impl.SrSend, A: 0}, {Op: impl.SrClose}, {Op: impl.SrEnd}},
		{{Op: impl.SrTake, R: 0, B: 1}, {Op: impl.SrZero, A: 1, N: 4}, {Op: impl.SrPrint, A: 0}, {Op: impl.SrJump}, {Op: impl.SrEnd}}}}
	rows := []struct {
		what  string
		picks []impl.Pick
		at    [2]int
		list  []int
	}{
		{"new", nil, [2]int{0, 0}, nil},
		{"between", stepPicks(0, 1), [2]int{1, 0}, nil},
		{"ahead of the lock", stepPicks(0, 2), [2]int{30, 0}, []int{5}},
		{"with the lock", stepPicks(0, 3), [2]int{30, 0}, []int{5}},
		{"under the lock", stepPicks(0, 12), [2]int{30, 0}, []int{5}},
		{"let go", stepPicks(0, 21), [2]int{30, 0}, []int{5}},
		{"through", stepPicks(0, 22), [2]int{30, 0}, []int{5}},
		{"full, with the lock", stepPicks(0, 24), [2]int{30, 0}, []int{5}},
		{"nothing to take, with the lock", stepPicks(1, 2), [2]int{0, 0}, nil},
		{"one holds it, the other is ahead of it", slices.Concat(stepPicks(0, 3), stepPicks(1, 1)), [2]int{30, 30}, nil},
		{"the other holds it, one is ahead of it", slices.Concat(stepPicks(0, 1), stepPicks(1, 2), stepPicks(0, 1)), [2]int{1, 0}, nil},
		{"both are ahead of it", slices.Concat(stepPicks(0, 2), stepPicks(1, 1)), [2]int{30, 30}, nil},
		{"taken, with the lock", slices.Concat(stepPicks(0, 22), stepPicks(1, 2)), [2]int{30, 30}, nil},
		{"taken, with the lock, one is ahead of it", slices.Concat(stepPicks(0, 22), stepPicks(1, 2), stepPicks(0, 1)), [2]int{30, 30}, nil},
	}
	for _, row := range rows {
		h := halfwayOf(row.what, p, row.picks)
		d, more := rests(t, p, h.m)
		c, _ := impl.ChanIn(d.Mem, p.Caps, 0)
		if d.Cores[0].At != row.at[0] || d.Cores[1].At != row.at[1] || !slices.Equal(c.List, row.list) || len(d.Trace) != 0 {
			t.Error(row.what, d.Cores[0].At, d.Cores[1].At, c, d.Trace)
		}
		atRest(t, row.what, p, d)
		goneOn(t, h, d, more)
	}
}

// Promise 15, and 14 of a machine that goes on to rest: machines from their beginnings on and somewhere on their way.
func TestAtRestNoChannelIsLocked(t *testing.T) {
	before, after := count{}, count{}
	eachHalfway(func(h halfway) {
		d, more := rests(t, h.p, h.m)
		atRest(t, h.what, h.p, d)
		goneOn(t, h, d, more)
		before.addMachine(h.p, h.m)
		after.addMachine(h.p, d)
		if len(more) == 0 && !sameMachine(d, h.m) {
			t.Fatal(h.what, "turned")
		}
		before[fmt.Sprint("was at rest ", len(more) == 0)]++
	})
	before.atLeast(t, 50, "state 0", "state 1", "state 2", "between true", "between false", "locked true", "locked false", "notes", "was at rest true", "was at rest false")
	after.atLeast(t, 50, "state 0", "state 1", "state 2", "between true", "between false", "locked false", "notes")
	if after["locked true"] != 0 {
		t.Error(after)
	}
}

// Promise 15 of programs of each count of channels, bodies and places.
func TestAtRestOfManyProgs(t *testing.T) {
	turn, seen := 0, count{}
	eachCodedProg(func(p impl.Prog) {
		turn++
		next := picker(turn + 1580)
		h := halfwayOf("coded", p, oddPicks(len(p.Bodies), 30+turn*13%300, &next))
		seen.addMachine(p, h.m)
		d, more := rests(t, p, h.m)
		atRest(t, h.what, p, d)
		goneOn(t, h, d, more)
	})
	seen.atLeast(t, 50, "state 0", "state 1", "state 2", "between true", "between false", "locked true", "locked false", "notes")
}

// Promise 15 wherever a row stops: after each step of one thread and some of the other, of each two places that meet at
// a channel, late answers among them.
func TestAtRestWhereverTheyAreStopped(t *testing.T) {
	seen := count{}
	for what, p := range breakProgs() {
		for first := range 34 {
			for _, second := range []int{0, 1, 2, 3, 5, 14, 25} {
				h := halfwayOf(fmt.Sprint(what, " ", first, " ", second), p, slices.Concat(stepPicks(0, first), allLate(stepPicks(1, second), 1), allLate(stepPicks(0, second/2), 2)))
				seen.addMachine(p, h.m)
				d, more := rests(t, p, h.m)
				atRest(t, h.what, p, d)
				if first%4 == second%4 {
					goneOn(t, h, d, more)
				}
			}
		}
	}
	seen.atLeast(t, 100, "state 0", "between true", "between false", "locked true", "locked false")
}

// One thread with a place of each kind, on a channel of each room, stopped after each of its steps: who has the lock
// comes to the end of that place and no further, and who is ahead of it gets it.
func TestRestOfEachOp(t *testing.T) {
	for _, k := range insKinds() {
		for room := 1; room <= 4; room++ {
			p := impl.Prog{Caps: []int{room}, Bodies: [][]impl.Ins{opBody(k, 0, 9)}}
			for steps := range 80 {
				h := halfwayOf(fmt.Sprint(k.name, " ", room, " ", steps), p, stepPicks(0, steps))
				d, more := rests(t, p, h.m)
				atRest(t, h.what, p, d)
				if impl.Between(p, h.m, 0) != (len(more) == 0) && h.m.Cores[0].State == impl.StRun {
					t.Error(h.what, len(more))
				}
				for i := range more {
					if e := impl.Alone(h.m, 0, i); impl.Between(p, e, 0) || e.Cores[0].State != impl.StRun {
						t.Fatal(h.what, "goes on from where it is", i)
					}
				}
			}
		}
	}
}

// The channels of a program, each with a lock that another core holds: all are let go, whichever are held.
func TestRestOfManyLocks(t *testing.T) {
	var bodies [][]impl.Ins
	for n := range 4 {
		bodies = append(bodies, []impl.Ins{{Op: impl.SrSend, A: 1, N: n % 3}, {Op: impl.SrTryTake, R: 1, B: 2, N: n % 3}, {Op: impl.SrClose, N: n % 3}, {Op: impl.SrEnd}})
	}
	p := impl.Prog{Caps: []int{1, 2, 4}, Bodies: bodies}
	for held := range 8 {
		for steps := 2; steps < 75; steps += 5 {
			var picks []impl.Pick
			for n := range 3 {
				if held>>n&1 == 1 {
					picks = append(picks, stepPicks(n, steps)...)
				}
			}
			picks = append(picks, stepPicks(3, 1+held)...)
			h := halfwayOf(fmt.Sprint(held, " ", steps), p, picks)
			for n := range 3 {
				if steps == 2 && n > 0 && impl.Locked(h.m.Mem, p.Caps, n) != (held>>n&1 == 1) {
					t.Error(h.what, "channel", n)
				}
			}
			d, more := rests(t, p, h.m)
			atRest(t, h.what, p, d)
			goneOn(t, h, d, more)
		}
	}
}

// A core that spins on a lock that another one holds: if that one is taken first, the lock is let go when it comes to
// the one that spins, and who stands just ahead of it gets it; else that one is back where its place begins.
func TestRestOfWhoSpins(t *testing.T) {
	for _, one := range insKinds()[4:9] {
		for _, other := range insKinds()[4:9] {
			for holder := range 2 {
				spinner := 1 - holder
				bodies := make([][]impl.Ins, 3)
				bodies[holder], bodies[spinner] = []impl.Ins{one.plain(), {Op: impl.SrEnd}}, []impl.Ins{other.plain(), {Op: impl.SrEnd}}
				bodies[2] = []impl.Ins{{Op: impl.SrSend}, {Op: impl.SrSend}, {Op: impl.SrEnd}}
				p := impl.Prog{Caps: []int{4}, Bodies: bodies}
				for spins := range 30 {
					h := halfwayOf(fmt.Sprint(one.name, " ", other.name, " ", holder, " ", spins), p, slices.Concat(stepPicks(2, 60), stepPicks(holder, 2), stepPicks(spinner, spins)))
					d, more := rests(t, p, h.m)
					if c := d.Cores[holder]; c.At == 0 || c.State == impl.StRun && !impl.Between(p, d, holder) {
						t.Error(h.what, "who holds the lock is not through", c)
					}
					got := spins%4 == 1 && holder < spinner
					if c := d.Cores[spinner]; (c.At == 0 && c.State == impl.StRun) == got {
						t.Error(h.what, "who spins", got, c)
					}
					atRest(t, h.what, p, d)
					goneOn(t, h, d, more)
				}
			}
		}
	}
}

// A core that does not run, and one that is between two places already, is left as it is.
func TestRestLeavesWhoRests(t *testing.T) {
	p := kindsProg()
	for at := range 143 {
		for state := range 3 {
			m, _ := impl.Launch(p)
			m.Cores[1].At, m.Cores[1].State, m.Cores[1].Regs = at, state, []int{1, 2, 3, 0, 0, 6, 7, 8}
			d, more := rests(t, p, m)
			if state != impl.StRun || impl.Between(p, m, 1) {
				if len(more) != 0 || !sameMachine(d, m) {
					t.Error(at, state)
				}
			} else if len(more) == 0 || sameMachine(d, m) {
				t.Error("is on its way", at)
			}
		}
	}
}

// farProg has two places for each core, of which the second one begins at step 32.
func farProg(cores int) impl.Prog {
	return impl.Prog{Caps: []int{1}, Bodies: slices.Repeat([][]impl.Ins{{{Op: impl.SrTryTake, R: 1, B: 2}, {Op: impl.SrEnd}}}, cores)}
}

// farCore is a core of another code than farProg's, so many steps ahead of step 32, of which the last one prints.
func farCore(steps int) ([]impl.Step, impl.Core) {
	code := ends(33)
	code[1], code[2], code[3] = impl.Step{Op: impl.MaSub, A: 0, B: 1}, impl.Step{Op: impl.MaZero, N: 31}, impl.Step{Op: impl.MaJump, N: 1}
	code[31] = impl.Step{Op: impl.MaPrint, A: 1}
	c := impl.Core{At: 31, Regs: []int{0, 1, 0, 0, 0, 0, 0, 0}, View: make([]int, 24)}
	if rounds := steps - 1; rounds > 0 {
		c.At, c.Regs[0] = []int{3, 2, 1}[rounds%3], (rounds+1)/3
	}
	return code, c
}

func farMachine(steps ...int) impl.Machine {
	m := impl.Machine{Mem: impl.MemoryNew()}
	for _, count := range steps {
		code, c := farCore(count)
		m.Codes, m.Cores = append(m.Codes, code), append(m.Cores, c)
	}
	return m
}

// 40 steps and one more: who needs more is gone back to when all others had theirs, and that MaxBodies times.
func TestRestOfFortySteps(t *testing.T) {
	for steps := 1; steps <= 170; steps++ {
		m := farMachine(steps)
		d, more := rests(t, farProg(1), m)
		if there := steps <= 160; len(more) != min(steps, 160) || impl.Between(farProg(1), d, 0) != there || (len(d.Trace) == 1) != there || (d.Cores[0].At == 32) != there {
			t.Error(steps, len(more), d.Cores[0], d.Trace)
		}
		if e, more := rests(t, farProg(1), d); steps > 160 && (len(more) != steps-160 || e.Cores[0].At != 32) {
			t.Error("rest of that again", steps, len(more))
		}
	}
	rows := []struct {
		steps []int
		order []int
	}{
		{[]int{1, 1, 1, 1}, []int{0, 1, 2, 3}}, {[]int{40, 40, 40}, []int{0, 1, 2}}, {[]int{40, 1}, []int{0, 1}}, {[]int{41, 1}, []int{1, 0}}, {[]int{1, 41}, []int{0, 1}},
		{[]int{41, 40}, []int{1, 0}}, {[]int{41, 41}, []int{0, 1}}, {[]int{81, 41, 40, 121}, []int{2, 1, 0, 3}}, {[]int{80, 81, 41, 1}, []int{3, 0, 2, 1}}, {[]int{120, 121, 80}, []int{2, 0, 1}},
		{[]int{160, 1}, []int{1, 0}}, {[]int{161, 1}, []int{1}}, {[]int{160, 161, 160, 161}, []int{0, 2}}, {[]int{500, 121, 120}, []int{2, 1}}, {[]int{161, 161}, nil},
	}
	for _, row := range rows {
		d, _ := rests(t, farProg(len(row.steps)), farMachine(row.steps...))
		var order []int
		for _, note := range d.Trace {
			order = append(order, note.Who)
		}
		if !slices.Equal(order, row.order) {
			t.Error(row.steps, order, "not", row.order)
		}
	}
}

// Cores that never come to a first step: each has 40 steps at a time, in order, MaxBodies times.
func TestRestOfWhoNeverRests(t *testing.T) {
	for cores := 1; cores <= 4; cores++ {
		m, _ := impl.MachineNew(slices.Repeat([][]impl.Step{{{Op: impl.MaEnd}, {Op: impl.MaPrint, A: 1}, {Op: impl.MaJump, N: 1}}}, cores))
		var want []impl.Note
		for who := range cores {
			m.Cores[who].At = 1
			want = append(want, slices.Repeat([]impl.Note{{Who: who}}, 20)...)
		}
		if d, _ := rests(t, farProg(cores), m); !slices.Equal(d.Trace, slices.Repeat(want, 4)) {
			t.Error(cores, len(d.Trace))
		}
	}
}

// No room: who can't go on stays, also with its lock, and the others come to rest.
func TestRestWithoutRoom(t *testing.T) {
	p := impl.Prog{Caps: []int{1, 1}, Bodies: [][]impl.Ins{{{Op: impl.SrClose}, {Op: impl.SrEnd}}, {{Op: impl.SrClose, N: 1}, {Op: impl.SrPrint}, {Op: impl.SrEnd}}}}
	h := halfwayOf("", p, slices.Concat(stepPicks(0, 4), stepPicks(1, 4)))
	for writes := 3990; writes <= 4000; writes++ {
		m := cloneMachine(h.m)
		for len(m.Mem.Cells[0]) < writes {
			put(m.Mem, 0, 1)
		}
		d, _ := rests(t, p, m)
		full := writes == 4000
		if impl.Locked(d.Mem, p.Caps, 0) != full || impl.Between(p, d, 0) == full || !impl.Between(p, d, 1) || impl.Locked(d.Mem, p.Caps, 1) {
			t.Error(writes, d.Cores[0].At, d.Cores[1].At)
		}
		if e, _ := rests(t, p, d); !sameMachine(e, d) {
			t.Error(writes, "again")
		}
		e, stopped, _ := finishes(t, p, m, 2)
		if stopped != map[bool]int{false: 2, true: 1}[full] || len(e.Trace) != 1 {
			t.Error(writes, stopped, e.Trace)
		}
	}
	m := cloneMachine(h.m)
	m.Trace = slices.Repeat([]impl.Note{{Who: 1, V: 6}}, 4000)
	d, _ := rests(t, p, m)
	atRest(t, "no room of notes", p, d)
	if e, stopped, _ := finishes(t, p, m, 9); stopped != 1 || e.Cores[1].State != impl.StRun || len(e.Trace) != 4000 {
		t.Error("no room of notes", stopped, e.Cores[1])
	}
}

// No round, and fewer: the machine is as it was, though a channel be locked, and it is told who does not run.
func TestFinishInNoRound(t *testing.T) {
	locked, stopped := 0, map[int]int{}
	eachHalfway(func(h halfway) {
		for _, rounds := range []int{0, -1, -60, math.MinInt, math.MinInt + 1} {
			d, n, _ := finishes(t, h.p, h.m, rounds)
			if !sameMachine(d, h.m) {
				t.Fatal(h.what, rounds)
			}
			stopped[n]++
		}
		if len(h.p.Caps) > 0 && impl.Locked(h.m.Mem, h.p.Caps, 0) {
			locked++
		}
	})
	if locked < 20 || stopped[0] < 50 || stopped[1] < 50 || stopped[2] < 20 {
		t.Error("too few", locked, stopped)
	}
}

// Rounds of machines on their way: promise 15 behind one or more, and promise 14.
func TestFinishAsTold(t *testing.T) {
	seen := count{}
	eachHalfway(func(h halfway) {
		for _, rounds := range []int{1, 2, 7} {
			d, _, more := finishes(t, h.p, h.m, rounds)
			atRest(t, h.what, h.p, d)
			seen.addMachine(h.p, d)
			if rounds < 7 {
				goneOn(t, h, d, more)
			}
		}
	})
	seen.atLeast(t, 100, "state 0", "state 1", "state 2", "between true", "locked false", "notes")
}

// 60 rounds and one more: of one that counts for ever, at 40 steps a round.
func TestFinishLimits(t *testing.T) {
	p := impl.Prog{Bodies: slices.Repeat([][]impl.Ins{{{Op: impl.SrSet, R: 1, N: 1}, {Op: impl.SrAdd, R: 0, A: 0, B: 1}, {Op: impl.SrJump, N: 1}}}, 2)}
	m, _ := impl.Launch(p)
	rows := map[int]int{math.MinInt: 0, -1: 0, 0: 0, 1: 20, 2: 40, 3: 60, 59: 1180, 60: 1200, 61: 1200, 62: 1200, 120: 1200, 200: 1200, 4000: 1200, 1 << 32: 1200, 1<<32 + 1: 1200, math.MaxInt - 1: 1200, math.MaxInt: 1200}
	for rounds, want := range rows {
		d, stopped, _ := finishes(t, p, m, rounds)
		if stopped != 0 || d.Cores[0].Regs[0] != want || d.Cores[1].Regs[0] != want {
			t.Error(rounds, stopped, d.Cores[0].Regs[0], d.Cores[1].Regs[0])
		}
	}
}

// One round, written out: rest comes first, so a lock that is held is let go ahead of all turns; and it comes behind
// each turn, so one that a turn ends with is let go ahead of the next.
func TestFinishRows(t *testing.T) {
	try, end := impl.Ins{Op: impl.SrTryTake, R: 1, B: 2}, impl.Ins{Op: impl.SrEnd}
	first := impl.Prog{Caps: []int{1}, Bodies: [][]impl.Ins{{{Op: impl.SrClose}, end}, {try, {Op: impl.SrJump}}}}
	d, stopped, _ := finishes(t, first, halfwayOf("", first, stepPicks(1, 2)).m, 1)
	if stopped != 1 || d.Cores[0].State != impl.StEnd {
		t.Error("rest comes first", stopped, d.Cores[0])
	}
	behind := impl.Prog{Caps: []int{1}, Bodies: [][]impl.Ins{append(slices.Repeat([]impl.Ins{{Op: impl.SrSet}}, 12), try, impl.Ins{Op: impl.SrJump, N: 12}), {try, {Op: impl.SrPrint, A: 2}, end}}}
	m, _ := impl.Launch(behind)
	if e := impl.Alone(m, 0, 40); !impl.Locked(e.Mem, behind.Caps, 0) {
		t.Fatal("no turn that ends with the lock", e.Cores[0])
	}
	d, stopped, more := finishes(t, behind, m, 1)
	if stopped != 1 || d.Cores[1].State != impl.StEnd || len(d.Trace) != 1 || !slices.Equal(more[:50], stepPicks(0, 50)) || more[50].Who != 1 {
		t.Error("rest comes behind each turn", stopped, d.Cores[1])
	}
	says := impl.Prog{Bodies: slices.Repeat([][]impl.Ins{{{Op: impl.SrPrint}, {Op: impl.SrPrint}, {Op: impl.SrPrint}, {Op: impl.SrJump}}}, 3)}
	m, _ = impl.Launch(says)
	var want []impl.Note
	for range 2 {
		for who := range 3 {
			want = append(want, slices.Repeat([]impl.Note{{Who: who}}, 30)...)
		}
	}
	if d, _, _ := finishes(t, says, m, 2); !slices.Equal(d.Trace, want) {
		t.Error("40 steps for each, ascending", len(d.Trace), d.Trace)
	}
}

// Rounds and then more rounds are the rounds together, and a rest ahead of them or behind turns nothing.
func TestFinishOfParts(t *testing.T) {
	for i, p := range witnessProgs() {
		next := picker(i + 1590)
		h := halfwayOf("", p, oddPicks(len(p.Bodies), 50, &next))
		whole, count := impl.Finish(p, h.m, 9)
		for cut := range 10 {
			part, _ := impl.Finish(p, h.m, cut)
			if d, n := impl.Finish(p, part, 9-cut); n != count || !sameMachine(d, whole) {
				t.Error(i, cut, n, count)
			}
			if d, n := impl.Finish(p, impl.Rest(p, part), 9-cut); n != count || !sameMachine(d, whole) {
				t.Error("rested", i, cut, n, count)
			}
		}
	}
}

// Programs whose threads all end, that are stuck, that fault: in the end they are what the program is, and who runs
// still can't go on.
func TestFinishToTheEnd(t *testing.T) {
	for what, row := range endings() {
		cores := len(row.p.Bodies)
		for steps := range 45 {
			var picks []impl.Pick
			for i := range steps * cores {
				picks = append(picks, impl.Pick{Who: i * 7 / 3 % cores, Late: i % 4})
			}
			h := halfwayOf(what, row.p, picks)
			d, stopped, more := finishes(t, row.p, h.m, 20)
			want := cores
			if row.state == impl.StRun {
				want = 0
			}
			if stopped != want || slices.ContainsFunc(d.Cores, func(c impl.Core) bool { return c.State != row.state }) {
				t.Fatal(what, steps, stopped, brief(d.Cores))
			}
			atRest(t, what, row.p, d)
			if len(picks)+len(more) <= 4000 {
				goneOn(t, h, d, more)
				order, _, _ := impl.Witness(row.p, slices.Concat(picks, more))
				s, _ := impl.SourceNew(row.p)
				if s, _ = impl.SourceRun(row.p, s, order); impl.Stuck(row.p, s) != (row.state == impl.StRun) {
					t.Fatal(what, steps, "stuck")
				}
			}
		}
	}
}

// All that was sent comes, in order, whoever was on its way: what is printed in the end is written out.
func TestFinishPrintsWhatIsSent(t *testing.T) {
	for _, trying := range []bool{false, true} {
		for room := 1; room <= 4; room++ {
			send, take := handers(5, 0, trying, true)
			p := impl.Prog{Caps: []int{room}, Bodies: [][]impl.Ins{send, take}}
			for seed := range 20 {
				next := picker(seed + room*40)
				h := halfwayOf("", p, oddPicks(2, seed*6, &next))
				d, stopped := impl.Finish(p, h.m, 60)
				if stopped != 2 || !slices.Equal(d.Trace, []impl.Note{{Who: 1, V: 1}, {Who: 1, V: 2}, {Who: 1, V: 3}, {Who: 1, V: 4}, {Who: 1, V: 5}}) {
					t.Error(trying, room, seed, stopped, d.Trace)
				}
			}
		}
	}
}

// noCalm asks that all of chapter 15 is zero of a machine that is not MachineOk.
func noCalm(t *testing.T, what string, m impl.Machine) {
	t.Helper()
	if machineRight(m) {
		t.Fatal(what, "is MachineOk")
	}
	for _, who := range []int{0, 1, 2, -1, 4, math.MinInt, math.MaxInt} {
		for _, steps := range []int{-1, 0, 1, 4001} {
			if d := impl.Alone(m, who, steps); !zeroMachine(d) {
				t.Error(what, "alone", who, steps)
			}
		}
	}
	progs := []impl.Prog{{}, farProg(1), farProg(2), farProg(3), farProg(4), pairProg(), {Bodies: make([][]impl.Ins, len(m.Cores))}, {Bodies: make([][]impl.Ins, 3)}, {Bodies: slices.Repeat([][]impl.Ins{endsOf(2)}, 3)}}
	for _, p := range progs {
		if d := impl.Rest(p, m); !zeroMachine(d) {
			t.Error(what, "rest", brief(p))
		}
		for _, rounds := range []int{-1, 0, 1, 61} {
			if d, n := impl.Finish(p, m, rounds); !zeroMachine(d) || n != 0 {
				t.Error(what, "finish", brief(p), rounds, n)
			}
		}
	}
}

// A machine that is not MachineOk, in each of the ways that chapter 8 names.
func TestCalmOfWrongMachines(t *testing.T) {
	noCalm(t, "zero", impl.Machine{})
	for what, m := range turnedMachines() {
		noCalm(t, what, m)
	}
	for what, code := range wrongCodes() {
		for at := range 3 {
			m := machineAt(impl.Step{Op: impl.MaEnd}, 0, 2)
			m.Codes[at] = code
			noCalm(t, what, m)
		}
	}
	for what, mem := range wrongMemories() {
		m := machineAt(impl.Step{Op: impl.MaEnd}, 0, 2)
		m.Mem = mem
		noCalm(t, what, m)
	}
	wrong := 0
	for what, turn := range machineTurns() {
		m, _ := impl.Launch(pairProg())
		if turn(&m); !machineRight(m) {
			noCalm(t, what, m)
			wrong++
		}
	}
	if wrong < 30 {
		t.Error("too few", wrong)
	}
}

// A machine with fewer or more cores than the program has bodies.
func TestCalmOfFewerAndMoreCores(t *testing.T) {
	for bodies := range 7 {
		p := impl.Prog{Caps: []int{2}, Bodies: slices.Repeat(pairProg().Bodies[:1], bodies)}
		for cores := 1; cores <= 4; cores++ {
			m, _ := impl.Launch(impl.Prog{Caps: []int{2}, Bodies: pairProg().Bodies[:cores]})
			m, _ = impl.MachineRun(m, slices.Concat(stepPicks(0, 3), stepPicks(cores-1, 2)))
			d, _ := rests(t, p, m)
			e, stopped, _ := finishes(t, p, m, 3)
			f, none, _ := finishes(t, p, m, 0)
			if same := bodies == cores; zeroMachine(d) == same || zeroMachine(e) == same || zeroMachine(f) == same || (stopped != 0) != same || none != 0 {
				t.Error(bodies, cores, stopped)
			}
		}
	}
}

// A machine of another program: where the steps of the program's places begin is asked, whatever the code is there.
func TestCalmOfAnotherProgram(t *testing.T) {
	turns := map[bool]int{}
	for i, p := range witnessProgs() {
		for k, q := range witnessProgs() {
			next := picker(i*20 + k + 1600)
			h := halfwayOf("", q, oddPicks(len(q.Bodies), 45, &next))
			d, more := rests(t, p, h.m)
			finishes(t, p, h.m, 1)
			if i != k && !zeroMachine(d) {
				turns[len(more) > 0]++
			}
		}
	}
	for seed := range 60 {
		m := oddMachine(picker(seed + 1650))
		for _, p := range []impl.Prog{farProg(len(m.Cores)), {Bodies: slices.Repeat([][]impl.Ins{endsOf(3)}, len(m.Cores))}, {Caps: []int{1}, Bodies: slices.Repeat([][]impl.Ins{{{Op: impl.SrSet}, {Op: impl.SrClose}, {Op: impl.SrEnd}}}, len(m.Cores))}} {
			_, more := rests(t, p, m)
			finishes(t, p, m, 2)
			turns[len(more) > 0]++
		}
	}
	if turns[true] < 50 || turns[false] < 20 {
		t.Error("too few", turns)
	}
}

// A program that is not ProgOk, in each of the ways that chapter 1 names: it has no places, so nobody is ever between two,
// and each core that runs has all of its steps.
func TestCalmOfWrongProgs(t *testing.T) {
	wrong := 0
	code := []impl.Step{{Op: impl.MaAdd, R: 0, A: 0, B: 1}, {Op: impl.MaJump}}
	eachWrongProg(func(what string, p impl.Prog) {
		wrong++
		for cores := 1; cores <= 4; cores++ {
			m, _ := impl.MachineNew(slices.Repeat([][]impl.Step{code}, cores))
			for who := range m.Cores {
				m.Cores[who].Regs[1] = 1
			}
			d := impl.Rest(p, m)
			e, stopped := impl.Finish(p, m, 1)
			f, none := impl.Finish(p, m, 0)
			if len(p.Bodies) != cores {
				if !zeroMachine(d) || !zeroMachine(e) || !zeroMachine(f) || stopped != 0 || none != 0 {
					t.Error(what, cores, "not zero")
				}
				continue
			}
			if !sameMachine(f, m) || stopped != 0 || none != 0 {
				t.Error(what, cores, "no round")
			}
			for who := range cores {
				if d.Cores[who].Regs[0] != 80 || e.Cores[who].Regs[0] != 80*(cores+1)+20 {
					t.Error(what, cores, d.Cores[who].Regs[0], e.Cores[who].Regs[0])
				}
			}
		}
	})
	if wrong < 500 {
		t.Error("too few", wrong)
	}
	for i, p := range wrongProgs() {
		for k, q := range witnessProgs() {
			next := picker(i*20 + k + 1700)
			h := halfwayOf("", q, oddPicks(len(q.Bodies), 30, &next))
			rests(t, p, h.m)
			finishes(t, p, h.m, 1)
		}
	}
}

// calmAnswers are what the functions of chapter 15 tell.
type calmAnswers struct {
	alone   []impl.Machine
	rest    impl.Machine
	finish  []impl.Machine
	stopped []int
}

func (a calmAnswers) machines() []impl.Machine {
	return slices.Concat(a.alone, []impl.Machine{a.rest}, a.finish)
}

func calmAnswersOf(p impl.Prog, m impl.Machine) calmAnswers {
	a := calmAnswers{rest: impl.Rest(p, m)}
	for _, x := range [][2]int{{0, 0}, {0, 25}, {1, 3}, {-1, 5}, {4, 1}} {
		a.alone = append(a.alone, impl.Alone(m, x[0], x[1]))
	}
	for _, rounds := range []int{0, 1, 3} {
		d, n := impl.Finish(p, m, rounds)
		a.finish, a.stopped = append(a.finish, d), append(a.stopped, n)
	}
	return a
}

func sameCalmAnswers(a calmAnswers, b calmAnswers) bool {
	return slices.EqualFunc(a.machines(), b.machines(), sameMachine) && slices.Equal(a.stopped, b.stopped)
}

func (a calmAnswers) clone() calmAnswers {
	b := calmAnswers{rest: cloneMachine(a.rest), stopped: slices.Clone(a.stopped)}
	for _, m := range a.alone {
		b.alone = append(b.alone, cloneMachine(m))
	}
	for _, m := range a.finish {
		b.finish = append(b.finish, cloneMachine(m))
	}
	return b
}

// eachCalmCall calls look with programs and machines, right ones and wrong ones, with room behind each list.
func eachCalmCall(look func(p impl.Prog, m impl.Machine)) {
	call := func(p impl.Prog, m impl.Machine) { look(roomyProg(p), spareMachine(m)) }
	for i, p := range append(witnessProgs(), wrongProgs()...) {
		for k, q := range witnessProgs() {
			if len(p.Bodies) < 100 && (i == k || (i+k)%7 == 0) {
				next := picker(i*20 + k + 1800)
				call(p, halfwayOf("", q, oddPicks(len(q.Bodies), 20+i, &next)).m)
			}
		}
	}
	for _, turn := range machineTurns() {
		m, _ := impl.Launch(pairProg())
		turn(&m)
		call(pairProg(), m)
	}
	for seed := range 30 {
		m := oddMachine(picker(seed + 1850))
		call(farProg(len(m.Cores)), m)
	}
	call(farProg(4), farMachine(41, 161, 1, 80))
	call(farProg(1), fullAt(impl.Step{Op: impl.MaSwap, R: 1, B: 2, N: 3}, 3, 3999))
	call(farProg(1), fullAt(impl.Step{Op: impl.MaSwap, R: 1, B: 2, N: 3}, 3, 4000))
}

// Promise 18: nothing is written into an argument, nor into the room behind its lists, nor read there.
func TestChapterFifteenWritesIntoNoArgument(t *testing.T) {
	eachCalmCall(func(p impl.Prog, m impl.Machine) {
		prog, machine := wholeProg(p), wholeMachine(m)
		calmAnswersOf(p, m)
		rests(t, p, m)
		finishes(t, p, m, 2)
		alones(t, m, 0, 30)
		if !reflect.DeepEqual(prog, wholeProg(p)) || !reflect.DeepEqual(machine, wholeMachine(m)) {
			t.Errorf("an argument was written into: %v", brief(p))
		}
	})
}

// Promise 18: no answer shares memory with an argument or with another answer, its lists lie apart, and nothing is kept.
func TestChapterFifteenAnswersNewMemory(t *testing.T) {
	eachCalmCall(func(p impl.Prog, m impl.Machine) {
		first := calmAnswersOf(p, m)
		want := first.clone()
		for _, d := range first.machines() {
			writeOverMachine(d)
		}
		second, third := calmAnswersOf(p, m), calmAnswersOf(p, m)
		if !sameCalmAnswers(second, want) || !sameCalmAnswers(third, want) {
			t.Errorf("something was kept: %v", brief(p))
		}
		writeOver(p)
		writeOverMachine(m)
		for _, d := range third.machines() {
			writeOverMachine(d)
		}
		if !sameCalmAnswers(second, want) {
			t.Errorf("the argument lies in the answer: %v", brief(p))
		}
		for _, d := range second.machines() {
			machineApart(t, d)
		}
	})
}

// Promise 18: machines whose lists share memory among themselves are answered as any others, by lists that lie apart.
func TestCalmOfMachinesThatShareMemory(t *testing.T) {
	view, regs := make([]int, 24), make([]int, 8)
	code := []impl.Step{{Op: impl.MaSwap, R: 1, B: 2, N: 5}, {Op: impl.MaAdd, R: 3, A: 3, B: 2}, {Op: impl.MaSet, R: 2, N: 4}, {Op: impl.MaJump}}
	m := impl.Machine{Codes: slices.Repeat([][]impl.Step{code}, 3), Cores: slices.Repeat([]impl.Core{{At: 1, Regs: regs, View: view}}, 3),
		Mem: impl.Memory{Cells: slices.Repeat([][]impl.Write{{{V: 3, View: view}, {V: 4, View: view}}}, 24)}}
	p := impl.Prog{Caps: []int{1}, Bodies: slices.Repeat([][]impl.Ins{{{Op: impl.SrClose}, {Op: impl.SrEnd}}}, 3)}
	d := alones(t, m, 1, 9)
	e, _ := rests(t, p, m)
	f, _, _ := finishes(t, p, m, 2)
	if !slices.Equal(view, make([]int, 24)) || !slices.Equal(regs, make([]int, 8)) {
		t.Error("written into", view, regs)
	}
	for _, answer := range []impl.Machine{d, e, f} {
		machineApart(t, answer)
	}
}

// Promise 18: from call to call the same, in whatever order it is asked, and of many calls at once; nothing goes on
// behind a call.
func TestChapterFifteenAnswersTheSame(t *testing.T) {
	type call struct {
		p    impl.Prog
		m    impl.Machine
		want calmAnswers
	}
	before := runtime.NumGoroutine()
	var all []call
	eachCalmCall(func(p impl.Prog, m impl.Machine) { all = append(all, call{p, m, calmAnswersOf(p, m)}) })
	if after := runtime.NumGoroutine(); after > before {
		t.Error("goroutines", before, after)
	}
	var calls sync.WaitGroup
	same := make([]bool, 4)
	for k := range same {
		calls.Go(func() {
			same[k] = true
			for i := range all {
				c := all[(i*(2*k+1)+k)%len(all)]
				same[k] = same[k] && sameCalmAnswers(calmAnswersOf(c.p, c.m), c.want)
			}
		})
	}
	calls.Wait()
	if slices.Contains(same, false) {
		t.Error("another answer", same)
	}
}

// Promise 18: long lists are answered.
func TestChapterFifteenAnswersLongLists(t *testing.T) {
	long := impl.Prog{Caps: make([]int, 100000), Bodies: make([][]impl.Ins, 100000)}
	m := impl.Machine{Codes: make([][]impl.Step, 100000), Cores: make([]impl.Core, 100000), Trace: make([]impl.Note, 100000)}
	noCalm(t, "long lists", m)
	right, _ := impl.Launch(pairProg())
	for _, d := range []impl.Machine{m, right} {
		if e := impl.Rest(long, d); !zeroMachine(e) {
			t.Error("rest")
		}
		if e, n := impl.Finish(long, d, 60); !zeroMachine(e) || n != 0 {
			t.Error("finish", n)
		}
	}
	body := impl.Prog{Bodies: [][]impl.Ins{endsOf(100000)}}
	one, _ := impl.Launch(impl.Prog{Bodies: [][]impl.Ins{endsOf(2)}})
	if e, more := rests(t, body, one); len(more) != 1 || e.Cores[0].State != impl.StEnd {
		t.Error("a long body", e.Cores)
	}
}

// The longest way: as many cores and rounds as there may be, none of them ever at rest.
func TestTheLongestFinish(t *testing.T) {
	code := []impl.Step{{Op: impl.MaEnd}, {Op: impl.MaAdd, R: 0, A: 0, B: 1}, {Op: impl.MaStore, A: -1, B: 0, N: 9}, {Op: impl.MaSwap, R: 2, B: 0, N: 10}, {Op: impl.MaJump, N: 1}}
	idle := []impl.Step{{Op: impl.MaEnd}, {Op: impl.MaAdd, R: 0, A: 0, B: 1}, {Op: impl.MaJump, N: 1}}
	m, _ := impl.MachineNew([][]impl.Step{code, idle, idle, idle})
	for who := range m.Cores {
		m.Cores[who].At, m.Cores[who].Regs[1] = 1, 1
	}
	d, stopped := impl.Finish(farProg(4), m, 60)
	if stopped != 0 || len(d.Mem.Cells[9]) != 4000 || len(d.Mem.Cells[10]) != 4000 || d.Cores[0].Regs[0] != 4000 || d.Cores[3].Regs[0] != 60*(5*80+20) {
		t.Error(stopped, len(d.Mem.Cells[9]), len(d.Mem.Cells[10]), d.Cores[0], d.Cores[3])
	}
}
