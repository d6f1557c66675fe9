package tests

import (
	"fmt"
	"math"
	"reflect"
	"slices"
	"testing"

	"loop.example/g00238/impl"
)

func sameCore(a impl.Core, b impl.Core) bool {
	return a.At == b.At && a.State == b.State && slices.Equal(a.Regs, b.Regs) && slices.Equal(a.View, b.View)
}

// sameMachine holds an empty list and nil for the same.
func sameMachine(a impl.Machine, b impl.Machine) bool {
	return slices.EqualFunc(a.Codes, b.Codes, slices.Equal) && slices.EqualFunc(a.Cores, b.Cores, sameCore) && sameMemory(a.Mem, b.Mem) && slices.Equal(a.Trace, b.Trace)
}

// zeroMachine: beside a false or a PkBad there is nothing.
func zeroMachine(m impl.Machine) bool {
	return len(m.Codes) == 0 && len(m.Cores) == 0 && len(m.Mem.Cells) == 0 && len(m.Trace) == 0
}

func cloneMachine(m impl.Machine) impl.Machine {
	d := impl.Machine{Codes: slices.Clone(m.Codes), Cores: slices.Clone(m.Cores), Mem: cloneMemory(m.Mem), Trace: slices.Clone(m.Trace)}
	for i := range d.Codes {
		d.Codes[i] = slices.Clone(d.Codes[i])
	}
	for i := range d.Cores {
		d.Cores[i].Regs, d.Cores[i].View = slices.Clone(d.Cores[i].Regs), slices.Clone(d.Cores[i].View)
	}
	return d
}

// machineRight is the document's MachineOk once more, by numbers.
func machineRight(m impl.Machine) bool {
	if len(m.Codes) == 0 || len(m.Codes) > 4 || len(m.Cores) != len(m.Codes) || len(m.Trace) > 4000 || !memoryRight(m.Mem) {
		return false
	}
	for who, c := range m.Cores {
		code := m.Codes[who]
		if !codeRight(code) || len(c.Regs) != 8 || c.At < 0 || c.At >= len(code) || c.State < 0 || c.State > 2 || !viewRight(m.Mem, c.View) {
			return false
		}
	}
	return !slices.ContainsFunc(m.Trace, func(n impl.Note) bool { return n.Who < 0 || n.Who >= len(m.Cores) })
}

// coreStepWanted is the document's CoreStep once more.
func coreStepWanted(m impl.Machine, x impl.Pick) (impl.Machine, int) {
	if !machineRight(m) {
		return impl.Machine{}, 1
	}
	if x.Who < 0 || x.Who >= len(m.Cores) {
		return m, 2
	}
	c := m.Cores[x.Who]
	if c.State != 0 {
		return m, 3
	}
	s := m.Codes[x.Who][c.At]
	d := cloneMachine(m)
	out := &d.Cores[x.Who]
	out.At++
	switch s.Op {
	case 1:
		out.Regs[s.R] = s.N
	case 2:
		out.Regs[s.R] = int(uint64(c.Regs[s.A]) + uint64(c.Regs[s.B]))
	case 3:
		out.Regs[s.R] = int(uint64(c.Regs[s.A]) - uint64(c.Regs[s.B]))
	case 4:
		out.Regs[s.R] = map[bool]int{true: 1}[c.Regs[s.A] < c.Regs[s.B]]
	case 5, 6, 7, 8:
		return memoryStepWanted(m, d, x, s)
	case 9:
		if len(m.Trace) == 4000 {
			return m, 3
		}
		d.Trace = append(d.Trace, impl.Note{Who: x.Who, V: c.Regs[s.A]})
	case 10:
		out.At = s.N
	case 11:
		if c.Regs[s.A] == 0 {
			out.At = s.N
		}
	case 12:
		out.At, out.State = c.At, 1
	case 13:
		out.At, out.State = c.At, 2
	}
	return d, 0
}

// memoryStepWanted is of the steps of memory; d is m, its core one place further.
func memoryStepWanted(m impl.Machine, d impl.Machine, x impl.Pick, s impl.Step) (impl.Machine, int) {
	c, out := m.Cores[x.Who], &d.Cores[x.Who]
	cell := s.N
	if s.Op != 8 && s.A != -1 {
		cell += c.Regs[s.A]
	}
	if cell < 0 || cell > 23 {
		out.At, out.State = c.At, 2
		return d, 0
	}
	if s.Op != 5 && len(m.Mem.Cells[cell]) == 4000 {
		return m, 3
	}
	switch s.Op {
	case 5:
		out.Regs[s.R], out.View = loadWanted(m.Mem, c.View, cell, x.Late, false)
	case 6, 7:
		d.Mem, out.View = storeWanted(m.Mem, c.View, cell, c.Regs[s.B], s.Op == 7)
	case 8:
		d.Mem, out.View, out.Regs[s.R] = swapWanted(m.Mem, c.View, cell, c.Regs[s.B])
	}
	return d, 0
}

func machineRunWanted(m impl.Machine, list []impl.Pick) (impl.Machine, []int) {
	if !machineRight(m) || len(list) > 4000 {
		return m, nil
	}
	codes := make([]int, len(list))
	for i, x := range list {
		m, codes[i] = coreStepWanted(m, x)
	}
	return m, codes
}

// coreSteps holds one step against what is wanted, and answers it.
func coreSteps(t *testing.T, m impl.Machine, x impl.Pick) (impl.Machine, int) {
	t.Helper()
	got, code := impl.CoreStep(m, x)
	if want, wanted := coreStepWanted(m, x); code != wanted || !sameMachine(got, want) {
		t.Errorf("%v of %v: %v %v %v, not %v %v %v", x, m.Cores, got.Cores, got.Trace, code, want.Cores, want.Trace, wanted)
	}
	return got, code
}

// machineRuns holds one run against what is wanted, and answers it.
func machineRuns(t *testing.T, m impl.Machine, list []impl.Pick) (impl.Machine, []int) {
	t.Helper()
	got, codes := impl.MachineRun(m, list)
	if want, wanted := machineRunWanted(m, list); !slices.Equal(codes, wanted) || !sameMachine(got, want) {
		t.Errorf("%v of %v: %v %v, not %v %v", list, m.Cores, got.Cores, codes, want.Cores, wanted)
	}
	return got, codes
}

// turnsOwnCore asks of one step: its own core alone, whose view grows; one write of one cell at most, behind all;
// one note at most; the codes never.
func turnsOwnCore(t *testing.T, m impl.Machine, d impl.Machine, code int, who int) {
	t.Helper()
	if code != impl.PkDone {
		if !sameMachine(m, d) {
			t.Error("refused and turned", who, code, m.Cores, d.Cores)
		}
		return
	}
	if !impl.MachineOk(d) || !slices.EqualFunc(m.Codes, d.Codes, slices.Equal) {
		t.Fatal("not MachineOk", who, d.Cores)
	}
	for i := range m.Cores {
		if i != who && !sameCore(m.Cores[i], d.Cores[i]) {
			t.Error("another core", who, i, m.Cores[i], d.Cores[i])
		}
		if !impl.Knows(d.Cores[i].View, m.Cores[i].View) {
			t.Error("a view that knows less", who, i, m.Cores[i].View, d.Cores[i].View)
		}
	}
	writes := 0
	for cell, list := range m.Mem.Cells {
		then := d.Mem.Cells[cell]
		if len(then) < len(list) || !sameWrites(then[:len(list)], list) {
			t.Fatal("what was written is lost", cell)
		}
		writes += len(then) - len(list)
	}
	if writes > 1 || len(d.Trace) > len(m.Trace)+1 || !slices.Equal(d.Trace[:len(m.Trace)], m.Trace) {
		t.Error("writes and notes", writes, m.Trace, d.Trace)
	}
}

// oddRegs are registers of which sums with cells are cells now and then.
func oddRegs(next *picker) []int {
	some := []int{0, 0, 1, 2, 5, 23, 24, -1, -3, -24, 100, math.MaxInt, math.MinInt, math.MinInt + 1}
	regs := make([]int, 8)
	for i := range regs {
		regs[i] = some[next.below(len(some))]
	}
	return regs
}

// oddStep is a right step of one kind, for so many places.
func oddStep(k stepRow, places int, next *picker) impl.Step {
	s := impl.Step{Op: k.op}
	for _, f := range []byte(k.named) {
		least, most := k.bounds(f, places)
		if f == 'N' && k.n == "number" {
			least, most = -3, 30
		}
		s = stepWith(s, f, least+next.below(most-least+1))
	}
	return s
}

func oddCode(next *picker) []impl.Step {
	kinds := stepKinds()
	list := make([]impl.Step, 1+next.below(12))
	for i := range list {
		list[i] = oddStep(kinds[next.below(11)], len(list), next)
	}
	list[len(list)-1] = oddStep([]stepRow{kinds[9], kinds[9], kinds[11], kinds[12]}[next.below(4)], len(list), next)
	return list
}

// oddMachine is a machine that nobody ran step by step, right in all; most of its cores run.
func oddMachine(seed picker) impl.Machine {
	next := picker(seed + 900)
	m := impl.Machine{Mem: oddMemory(seed)}
	for range 1 + next.below(4) {
		code := oddCode(&next)
		m.Codes = append(m.Codes, code)
		m.Cores = append(m.Cores, impl.Core{At: next.below(len(code)), Regs: oddRegs(&next), View: oddView(m.Mem, &next), State: max(next.below(8)-5, 0)})
	}
	for range next.below(4) {
		m.Trace = append(m.Trace, impl.Note{Who: next.below(len(m.Cores)), V: next.below(100)})
	}
	return m
}

// oddPicks are picks of cores, now and then of one that there is not, with late ones of all kinds.
func oddPicks(cores int, count int, next *picker) []impl.Pick {
	late := []int{0, 0, 1, 1, 2, 3, 7, -1, math.MinInt, math.MaxInt}
	list := make([]impl.Pick, count)
	for i := range list {
		list[i] = impl.Pick{Who: next.pick(cores), Late: late[next.below(len(late))]}
	}
	return list
}

// machineAt has three cores, each running at place at of a code of so many steps, with s there; ends stand around it.
func machineAt(s impl.Step, at int, places int) impl.Machine {
	m := impl.Machine{Mem: oddMemory(61), Trace: []impl.Note{{Who: 2, V: 9}, {Who: 0, V: math.MinInt}}}
	next := picker(62)
	for who := range 3 {
		code := ends(places)
		code[at] = s
		m.Codes = append(m.Codes, code)
		m.Cores = append(m.Cores, impl.Core{At: at, Regs: []int{who, 1, 2, 3, 4, 5, 6, 7}, View: oddView(m.Mem, &next)})
	}
	return m
}

func TestMachineNewAsTold(t *testing.T) {
	for count := 1; count <= 4; count++ {
		var codes [][]impl.Step
		next := picker(count)
		for range count {
			codes = append(codes, oddCode(&next))
		}
		m, ok := impl.MachineNew(codes)
		if !ok || !impl.MachineOk(m) || len(m.Cores) != count || len(m.Trace) != 0 || !sameMemory(m.Mem, impl.MemoryNew()) || !slices.EqualFunc(m.Codes, codes, slices.Equal) {
			t.Fatal(count, m, ok)
		}
		for who, c := range m.Cores {
			if !sameCore(c, impl.Core{Regs: make([]int, 8), View: make([]int, 24)}) {
				t.Error(count, who, c)
			}
		}
	}
}

// 1 and MaxBodies codes, and one more; 1 and MaxCode steps, and one more.
func TestMachineNewLimits(t *testing.T) {
	for _, count := range []int{0, 1, 2, 3, 4, 5, 6, 8, 100000} {
		codes := slices.Repeat([][]impl.Step{ends(2)}, count)
		m, ok := impl.MachineNew(codes)
		if right := count >= 1 && count <= 4; ok != right || impl.MachineOk(m) != right || zeroMachine(m) == right {
			t.Error("codes", count, ok)
		}
	}
	for _, steps := range []int{0, 1, 2, 799, 800, 801, 100000} {
		for at := range 4 {
			codes := [][]impl.Step{ends(1), ends(2), ends(3), ends(4)}
			codes[at] = ends(steps)
			m, ok := impl.MachineNew(codes)
			if right := steps >= 1 && steps <= 800; ok != right || impl.MachineOk(m) != right || zeroMachine(m) == right {
				t.Error("steps", steps, at, ok)
			}
		}
	}
	if m, ok := impl.MachineNew(nil); ok || !zeroMachine(m) {
		t.Error("none", m)
	}
}

// wrongCodes are codes that are not CodeOk.
func wrongCodes() map[string][]impl.Step {
	end := impl.Step{Op: impl.MaEnd}
	return map[string][]impl.Step{
		"no code":             nil,
		"an empty code":       {},
		"a long code":         ends(801),
		"goes on behind":      {{Op: impl.MaPrint}},
		"zero is last":        {end, {Op: impl.MaZero}},
		"no op":               {{}, end},
		"an op that is none":  {{Op: 14}, end},
		"an op below 0":       {{Op: -1}, end},
		"a jump below":        {{Op: impl.MaJump, N: -1}, end},
		"a jump beyond":       {{Op: impl.MaJump, N: 2}, end},
		"a zero beyond":       {{Op: impl.MaZero, N: 2}, end},
		"a cell below":        {{Op: impl.MaLoad, A: -1, N: -1}, end},
		"a cell beyond":       {{Op: impl.MaStore, A: -1, N: 24}, end},
		"a swap of no cell":   {{Op: impl.MaSwap, N: 24}, end},
		"a swap with A":       {{Op: impl.MaSwap, A: 1}, end},
		"a swap with A -1":    {{Op: impl.MaSwap, A: -1}, end},
		"a let with A -2":     {{Op: impl.MaLet, A: -2}, end},
		"a register R":        {{Op: impl.MaSet, R: 8}, end},
		"a register A":        {{Op: impl.MaAdd, A: 8}, end},
		"a register B":        {{Op: impl.MaSub, B: -1}, end},
		"a number":            {{Op: impl.MaSet, N: 1000000001}, end},
		"what is not named":   {{Op: impl.MaPrint, R: 1}, end},
		"an end with a place": {{Op: impl.MaEnd, N: 1}},
	}
}

// badMachine asks what is answered of a machine that is not MachineOk.
func badMachine(t *testing.T, what string, m impl.Machine) {
	t.Helper()
	if impl.MachineOk(m) || machineRight(m) {
		t.Error(what, "is MachineOk")
	}
	for _, who := range []int{0, 1, 2, 3, -1, 4, math.MinInt, math.MaxInt} {
		if d, code := impl.CoreStep(m, impl.Pick{Who: who, Late: who}); code != impl.PkBad || !zeroMachine(d) {
			t.Error(what, who, code)
		}
	}
	for _, count := range []int{0, 1, 3, 4000, 4001} {
		if d, codes := impl.MachineRun(m, make([]impl.Pick, count)); len(codes) != 0 || !sameMachine(d, m) {
			t.Error(what, "run", count, len(codes))
		}
	}
}

func TestMachinesOfNoCode(t *testing.T) {
	for what, code := range wrongCodes() {
		for at := range 3 {
			codes := [][]impl.Step{ends(2), ends(2), ends(2)}
			codes[at] = code
			if m, ok := impl.MachineNew(codes); ok || !zeroMachine(m) {
				t.Error(what, at, ok)
			}
			m := machineAt(impl.Step{Op: impl.MaEnd}, 0, 2)
			m.Codes[at] = code
			badMachine(t, what, m)
		}
		if m, ok := impl.MachineNew([][]impl.Step{code}); ok || !zeroMachine(m) {
			t.Error(what, "alone", ok)
		}
	}
}

// turnedMachines are a machine of three cores and two places each, each time with one thing in it that is not as it should be.
func turnedMachines() map[string]impl.Machine {
	turns := map[string]func(m *impl.Machine){
		"nothing":              func(m *impl.Machine) { *m = impl.Machine{} },
		"no codes":             func(m *impl.Machine) { m.Codes = nil },
		"no codes, no cores":   func(m *impl.Machine) { m.Codes, m.Cores, m.Trace = nil, nil, nil },
		"a code less":          func(m *impl.Machine) { m.Codes = m.Codes[:2] },
		"a code more":          func(m *impl.Machine) { m.Codes = append(m.Codes, ends(2)) },
		"no cores":             func(m *impl.Machine) { m.Cores, m.Trace = nil, nil },
		"a core less":          func(m *impl.Machine) { m.Cores, m.Trace = m.Cores[:2], nil },
		"a core more":          func(m *impl.Machine) { m.Cores = append(m.Cores, m.Cores[0]) },
		"many cores":           func(m *impl.Machine) { m.Cores = make([]impl.Core, 50000) },
		"five of both":         func(m *impl.Machine) { m.Codes, m.Cores = slices.Repeat(m.Codes[:1], 5), slices.Repeat(m.Cores[:1], 5) },
		"a note of nobody":     func(m *impl.Machine) { m.Trace[1].Who = 3 },
		"a note of nobody, -1": func(m *impl.Machine) { m.Trace[0].Who = -1 },
		"a note of far beyond": func(m *impl.Machine) { m.Trace[0].Who = math.MaxInt },
		"too many notes":       func(m *impl.Machine) { m.Trace = make([]impl.Note, 4001) },
		"far too many notes":   func(m *impl.Machine) { m.Trace = make([]impl.Note, 50000) },
	}
	for who := range 3 {
		for value, what := range map[int]string{-1: "below", math.MinInt: "far below", math.MaxInt: "far beyond"} {
			turns[fmt.Sprint("at ", what, " of ", who)] = func(m *impl.Machine) { m.Cores[who].At = value }
			turns[fmt.Sprint("state ", what, " of ", who)] = func(m *impl.Machine) { m.Cores[who].State = value }
		}
		turns[fmt.Sprint("at beyond of ", who)] = func(m *impl.Machine) { m.Cores[who].At = 2 }
		turns[fmt.Sprint("state beyond of ", who)] = func(m *impl.Machine) { m.Cores[who].State = 3 }
		for _, count := range []int{0, 4, 7, 9, 50000} {
			turns[fmt.Sprint(count, " registers of ", who)] = func(m *impl.Machine) { m.Cores[who].Regs = make([]int, count) }
		}
		for i := range wrongViews(oddMemory(61)) {
			turns[fmt.Sprint("view ", i, " of ", who)] = func(m *impl.Machine) { m.Cores[who].View = wrongViews(m.Mem)[i] }
		}
	}
	out := map[string]impl.Machine{}
	for what, turn := range turns {
		m := machineAt(impl.Step{Op: impl.MaEnd}, 0, 2)
		turn(&m)
		out[what] = m
	}
	return out
}

func TestMachinesThatAreNotRight(t *testing.T) {
	if m := machineAt(impl.Step{Op: impl.MaEnd}, 0, 2); !impl.MachineOk(m) {
		t.Fatal("the right one", m)
	}
	for what, m := range turnedMachines() {
		badMachine(t, what, m)
	}
	for what, mem := range wrongMemories() {
		m := machineAt(impl.Step{Op: impl.MaEnd}, 0, 2)
		m.Mem = mem
		for _, view := range [][]int{make([]int, 24), make([]int, len(mem.Cells)), lastView(mem)} {
			for who := range m.Cores {
				m.Cores[who].View = view
			}
			if !memoryRight(mem) {
				badMachine(t, what, m)
			}
		}
	}
}

// What is right at the edges: each state, the last place, notes of the last core, MaxTrace of them, views of the first and the last writes.
func TestMachineOkEdges(t *testing.T) {
	m := machineAt(impl.Step{Op: impl.MaEnd}, 0, 2)
	for state := range 3 {
		for at := range 2 {
			for who := range 3 {
				d := cloneMachine(m)
				d.Cores[who].State, d.Cores[who].At = state, at
				d.Cores[who].View = [][]int{make([]int, 24), lastView(d.Mem)}[at]
				d.Trace = slices.Repeat([]impl.Note{{Who: who, V: math.MinInt}}, 3999+at)
				if !impl.MachineOk(d) {
					t.Error(state, at, who)
				}
			}
		}
	}
	for seed := range 60 {
		if m := oddMachine(picker(seed)); !impl.MachineOk(m) || !machineRight(m) {
			t.Error("odd", seed)
		}
	}
}

// Each op once, with what it turns written out. Core 1 steps; of cell 5 there are 0, 10, 20, 30, of which it knows 10.
func TestStepOfEachOp(t *testing.T) {
	regs := func(pairs ...[2]int) []int {
		list := []int{2, -3, 0, 7, 7, 4, -9, 40}
		for _, pair := range pairs {
			list[pair[0]] = pair[1]
		}
		return list
	}
	known := func(n int) []int { return viewOf([2]int{5, n}, [2]int{6, 1}) }
	rows := []struct {
		name  string
		s     impl.Step
		late  int
		core  impl.Core
		wrote *impl.Write
		note  bool
	}{
		{"set", impl.Step{Op: impl.MaSet, R: 6, N: -55}, 0, impl.Core{At: 3, Regs: regs([2]int{6, -55}), View: known(1)}, nil, false},
		{"add", impl.Step{Op: impl.MaAdd, R: 2, A: 7, B: 1}, 0, impl.Core{At: 3, Regs: regs([2]int{2, 37}), View: known(1)}, nil, false},
		{"sub", impl.Step{Op: impl.MaSub, R: 7, A: 1, B: 7}, 0, impl.Core{At: 3, Regs: regs([2]int{7, -43}), View: known(1)}, nil, false},
		{"less", impl.Step{Op: impl.MaLess, R: 0, A: 6, B: 1}, 0, impl.Core{At: 3, Regs: regs([2]int{0, 1}), View: known(1)}, nil, false},
		{"not less", impl.Step{Op: impl.MaLess, R: 0, A: 3, B: 4}, 0, impl.Core{At: 3, Regs: regs([2]int{0, 0}), View: known(1)}, nil, false},
		{"load", impl.Step{Op: impl.MaLoad, R: 4, A: -1, N: 5}, 0, impl.Core{At: 3, Regs: regs([2]int{4, 30}), View: known(3)}, nil, false},
		{"load, late", impl.Step{Op: impl.MaLoad, R: 4, A: -1, N: 5}, 1, impl.Core{At: 3, Regs: regs([2]int{4, 20}), View: known(2)}, nil, false},
		{"load, later than known", impl.Step{Op: impl.MaLoad, R: 4, A: -1, N: 5}, 3, impl.Core{At: 3, Regs: regs([2]int{4, 10}), View: known(1)}, nil, false},
		{"load by N and A", impl.Step{Op: impl.MaLoad, R: 0, A: 0, N: 3}, 1, impl.Core{At: 3, Regs: regs([2]int{0, 20}), View: known(2)}, nil, false},
		{"load by N less", impl.Step{Op: impl.MaLoad, R: 0, A: 1, N: 8}, 2, impl.Core{At: 3, Regs: regs([2]int{0, 10}), View: known(1)}, nil, false},
		{"store", impl.Step{Op: impl.MaStore, A: -1, B: 7, N: 5}, 3, impl.Core{At: 3, Regs: regs(), View: known(4)}, &impl.Write{V: 40, View: viewOf([2]int{5, 4})}, false},
		{"store by N and A", impl.Step{Op: impl.MaStore, A: 0, B: 0, N: 3}, 0, impl.Core{At: 3, Regs: regs(), View: known(4)}, &impl.Write{V: 2, View: viewOf([2]int{5, 4})}, false},
		{"let", impl.Step{Op: impl.MaLet, A: -1, B: 6, N: 5}, 3, impl.Core{At: 3, Regs: regs(), View: known(4)}, &impl.Write{V: -9, View: known(4)}, false},
		{"let by N and A", impl.Step{Op: impl.MaLet, A: 5, B: 5, N: 1}, 0, impl.Core{At: 3, Regs: regs(), View: known(4)}, &impl.Write{V: 4, View: known(4)}, false},
		{"swap", impl.Step{Op: impl.MaSwap, R: 2, B: 1, N: 5}, 3, impl.Core{At: 3, Regs: regs([2]int{2, 30}), View: viewOf([2]int{5, 4}, [2]int{6, 1}, [2]int{8, 2})}, &impl.Write{V: -3, View: viewOf([2]int{5, 4}, [2]int{6, 1}, [2]int{8, 2})}, false},
		{"swap of one register", impl.Step{Op: impl.MaSwap, R: 1, B: 1, N: 5}, 0, impl.Core{At: 3, Regs: regs([2]int{1, 30}), View: viewOf([2]int{5, 4}, [2]int{6, 1}, [2]int{8, 2})}, &impl.Write{V: -3, View: viewOf([2]int{5, 4}, [2]int{6, 1}, [2]int{8, 2})}, false},
		{"print", impl.Step{Op: impl.MaPrint, A: 7}, 0, impl.Core{At: 3, Regs: regs(), View: known(1)}, nil, true},
		{"jump", impl.Step{Op: impl.MaJump, N: 0}, 0, impl.Core{At: 0, Regs: regs(), View: known(1)}, nil, false},
		{"jump to itself", impl.Step{Op: impl.MaJump, N: 2}, 0, impl.Core{At: 2, Regs: regs(), View: known(1)}, nil, false},
		{"zero", impl.Step{Op: impl.MaZero, A: 2, N: 5}, 0, impl.Core{At: 5, Regs: regs(), View: known(1)}, nil, false},
		{"not zero", impl.Step{Op: impl.MaZero, A: 1, N: 5}, 0, impl.Core{At: 3, Regs: regs(), View: known(1)}, nil, false},
		{"end", impl.Step{Op: impl.MaEnd}, 0, impl.Core{At: 2, Regs: regs(), View: known(1), State: impl.StEnd}, nil, false},
		{"fault", impl.Step{Op: impl.MaFault}, 0, impl.Core{At: 2, Regs: regs(), View: known(1), State: impl.StFault}, nil, false},
	}
	for _, row := range rows {
		mem := writtenTo(5, 4)
		mem.Cells[6] = append(mem.Cells[6], impl.Write{V: 1, View: viewOf([2]int{6, 1})})
		mem.Cells[8] = append(mem.Cells[8], impl.Write{V: 2, View: viewOf()}, impl.Write{V: 3, View: viewOf()})
		mem.Cells[5][3].View = viewOf([2]int{5, 3}, [2]int{8, 2})
		code := ends(6)
		code[2] = row.s
		other := impl.Core{At: 1, Regs: make([]int, 8), View: make([]int, 24)}
		m := impl.Machine{Codes: [][]impl.Step{ends(2), code}, Cores: []impl.Core{other, {At: 2, Regs: regs(), View: known(1)}}, Mem: mem, Trace: []impl.Note{{Who: 0, V: 8}}}
		want := cloneMachine(m)
		want.Cores[1] = row.core
		if row.wrote != nil {
			want.Mem.Cells[5] = append(want.Mem.Cells[5], *row.wrote)
		}
		if row.note {
			want.Trace = append(want.Trace, impl.Note{Who: 1, V: 40})
		}
		if d, how := impl.CoreStep(m, impl.Pick{Who: 1, Late: row.late}); how != impl.PkDone || !sameMachine(d, want) {
			t.Errorf("%s: %v %v %v, not %v", row.name, how, d.Cores, d.Mem.Cells[5], want.Cores)
		}
	}
}

// All steps but those of MaSet, and some of those, by a core with registers of all kinds.
func TestCoreStepsAsTold(t *testing.T) {
	list := fewSteps()
	for r := range 8 {
		for _, n := range []int{-1000000000, -1, 0, 1, 1000000000} {
			list = append(list, impl.Step{Op: impl.MaSet, R: r, N: n})
		}
	}
	codes, next := map[int]int{}, picker(31)
	m := machineAt(impl.Step{Op: impl.MaEnd}, 0, 7)
	for _, s := range list {
		if !stepRight(s, 7) {
			continue
		}
		who, at := next.below(3), next.below(6)
		if s.Op == impl.MaJump || s.Op == impl.MaEnd || s.Op == impl.MaFault {
			at = next.below(7)
		}
		m.Codes[who][at], m.Cores[who].At, m.Cores[who].Regs = s, at, oddRegs(&next)
		d, code := coreSteps(t, m, impl.Pick{Who: who, Late: next.below(5) - 1})
		turnsOwnCore(t, m, d, code, who)
		m.Codes[who][at] = impl.Step{Op: impl.MaEnd}
		codes[code]++
		if code == impl.PkDone && d.Cores[who].State == impl.StFault {
			codes[-s.Op]++
		}
	}
	if codes[impl.PkDone] < 7000 || codes[-impl.MaLoad] < 100 || codes[-impl.MaStore] < 100 || codes[-impl.MaLet] < 100 || codes[-impl.MaSwap] != 0 {
		t.Error("codes", codes)
	}
}

func TestCoreSumsWrap(t *testing.T) {
	lo, hi := math.MinInt, math.MaxInt
	for _, row := range [][5]int{{hi, 1, lo, hi - 1, 0}, {lo, -1, hi, lo + 1, 1}, {lo, lo, 0, 0, 0}, {hi, hi, -2, 0, 0}, {0, lo, lo, lo, 0}, {lo, 1, lo + 1, hi, 1}, {-1, lo, hi, hi, 0}, {hi, lo, -1, -1, 0}, {lo, hi, -1, 1, 1}} {
		for i, op := range []int{impl.MaAdd, impl.MaSub, impl.MaLess} {
			m, _ := impl.MachineNew([][]impl.Step{{{Op: op, R: 7, A: 4, B: 5}, {Op: impl.MaEnd}}})
			m.Cores[0].Regs = []int{1, 2, 3, 4, row[0], row[1], 6, 77}
			d, code := impl.CoreStep(m, impl.Pick{})
			if code != impl.PkDone || !slices.Equal(d.Cores[0].Regs, []int{1, 2, 3, 4, row[0], row[1], 6, row[2+i]}) {
				t.Error(op, row, d.Cores, code)
			}
		}
	}
}

// cellStep is a step of one of the ops of memory, whose cell is that of N and A.
func cellStep(op int, n int, a int) impl.Step {
	switch op {
	case impl.MaLoad:
		return impl.Step{Op: op, R: 2, A: a, N: n}
	case impl.MaSwap:
		return impl.Step{Op: op, R: 2, B: 3, N: n}
	}
	return impl.Step{Op: op, A: a, B: 3, N: n}
}

// touched is the cell that a step read or wrote, by what came of it: cell c has the number 100 and c, of its write 1,
// and register 3 has 50.
func touched(t *testing.T, s impl.Step, m impl.Machine, d impl.Machine) int {
	t.Helper()
	if s.Op == impl.MaLoad {
		return d.Cores[0].Regs[2] - 100
	}
	for cell, list := range d.Mem.Cells {
		if len(list) == len(m.Mem.Cells[cell])+1 && list[2].V == 50 {
			return cell
		}
	}
	return -1
}

// Cells by N alone, and by N and A together: the first and the last one, and those beyond on each side.
func TestCellsOfSteps(t *testing.T) {
	mem := impl.MemoryNew()
	for cell := range 24 {
		mem.Cells[cell] = append(mem.Cells[cell], impl.Write{V: 100 + cell, View: viewOf([2]int{cell, 1})})
	}
	try := func(op int, n int, a int, reg int, cell int) {
		t.Helper()
		s := cellStep(op, n, a)
		m := impl.Machine{Codes: [][]impl.Step{{s, {Op: impl.MaEnd}}}, Mem: mem, Cores: []impl.Core{{Regs: []int{1, reg, 9, 50, 5, 6, 7, 8}, View: make([]int, 24)}}}
		d, code := coreSteps(t, m, impl.Pick{})
		if cell >= 0 && cell <= 23 {
			if got := touched(t, s, m, d); code != impl.PkDone || got != cell || d.Cores[0].State != impl.StRun || d.Cores[0].At != 1 || d.Cores[0].View[cell] == 0 {
				t.Error("a cell", s, reg, got, cell, code)
			}
			return
		}
		want := cloneMachine(m)
		want.Cores[0].State = impl.StFault
		if code != impl.PkDone || !sameMachine(d, want) {
			t.Error("no cell", s, reg, d.Cores, code)
		}
		if e, code := impl.CoreStep(d, impl.Pick{}); code != impl.PkOver || !sameMachine(e, d) {
			t.Error("a fault does not stay", s, reg, code)
		}
	}
	for _, op := range []int{impl.MaLoad, impl.MaStore, impl.MaLet} {
		for n := range 24 {
			try(op, n, -1, 5, n)
			for _, cell := range []int{-2, -1, 0, 1, 22, 23, 24, 25} {
				try(op, n, 1, cell-n, cell)
			}
			for _, far := range []int{math.MinInt, math.MinInt + 1, math.MinInt + 23, -1000, 1000, 1 << 32, math.MaxInt - 23, math.MaxInt - 22, math.MaxInt} {
				try(op, n, 1, far, -1)
			}
		}
	}
	for n := range 24 {
		try(impl.MaSwap, n, 0, 5, n)
	}
}

// A register may tell the cell and be what is read or written.
func TestCellsByTheRegisterItself(t *testing.T) {
	for _, op := range []int{impl.MaLoad, impl.MaStore, impl.MaLet} {
		s := impl.Step{Op: op, A: 6, N: 4}
		if op == impl.MaLoad {
			s.R = 6
		} else {
			s.B = 6
		}
		m, _ := impl.MachineNew([][]impl.Step{{s, {Op: impl.MaEnd}}})
		m.Mem.Cells[9] = append(m.Mem.Cells[9], impl.Write{V: 77, View: viewOf([2]int{9, 1})})
		m.Cores[0].Regs[6] = 5
		d, code := coreSteps(t, m, impl.Pick{})
		last := d.Mem.Cells[9][len(d.Mem.Cells[9])-1].V
		if code != impl.PkDone || op == impl.MaLoad && (d.Cores[0].Regs[6] != 77 || last != 77) || op != impl.MaLoad && (last != 5 || len(d.Mem.Cells[9]) != 3) {
			t.Error(op, d.Cores, last, code)
		}
	}
}

// Ten writes, the numbers 0 to 90: what a core is answered by Late and by what it knows.
func TestLateOfPicks(t *testing.T) {
	rows := []struct{ known, late, want int }{
		{0, math.MinInt, 90}, {0, -9, 90}, {0, -1, 90}, {0, 0, 90}, {0, 1, 80}, {0, 8, 10}, {0, 9, 0}, {0, 10, 0}, {0, 4000, 0}, {0, math.MaxInt, 0},
		{4, -1, 90}, {4, 0, 90}, {4, 4, 50}, {4, 5, 40}, {4, 6, 40}, {4, 10, 40}, {4, math.MaxInt, 40},
		{9, -1, 90}, {9, 0, 90}, {9, 1, 90}, {9, 10, 90}, {9, math.MaxInt, 90}, {9, math.MinInt, 90},
	}
	for _, cell := range []int{0, 11, 23} {
		mem := writtenTo(cell, 10)
		for _, row := range rows {
			for _, s := range []impl.Step{{Op: impl.MaLoad, R: 1, A: -1, N: cell}, {Op: impl.MaLoad, R: 1, A: 3, N: cell}} {
				m := impl.Machine{Codes: [][]impl.Step{{s, {Op: impl.MaEnd}}}, Cores: []impl.Core{{Regs: make([]int, 8), View: viewOf([2]int{cell, row.known})}}, Mem: mem}
				d, code := impl.CoreStep(m, impl.Pick{Late: row.late})
				if code != impl.PkDone || d.Cores[0].Regs[1] != row.want || !slices.Equal(d.Cores[0].View, viewOf([2]int{cell, row.want / 10})) || !sameMemory(d.Mem, mem) {
					t.Error(cell, row, d.Cores, code)
				}
			}
		}
	}
}

// Late is of MaLoad alone: all other steps do the same, however late.
func TestLateTurnsLoadsAlone(t *testing.T) {
	next := picker(41)
	for _, k := range stepKinds() {
		for range 20 {
			s := oddStep(k, 5, &next)
			m := machineAt(s, 2, 5)
			m.Cores[1].Regs = oddRegs(&next)
			d, code := coreSteps(t, m, impl.Pick{Who: 1})
			for _, late := range []int{-1, 1, 2, 5, math.MinInt, math.MaxInt} {
				e, how := coreSteps(t, m, impl.Pick{Who: 1, Late: late})
				if k.name != "load" && (how != code || !sameMachine(d, e)) {
					t.Error(s, late, how, code)
				}
			}
		}
	}
}

// A load gets no hold: what was ahead of what was let go is known by a swap alone.
func TestLoadsGetNoHold(t *testing.T) {
	writer := []impl.Step{{Op: impl.MaSet, R: 0, N: 7}, {Op: impl.MaStore, A: -1, B: 0, N: 1}, {Op: impl.MaLet, A: -1, B: 0, N: 2}, {Op: impl.MaEnd}}
	behind := []impl.Step{{Op: impl.MaLoad, R: 2, A: -1, N: 1}, {Op: impl.MaEnd}}
	for _, row := range []struct {
		name string
		look impl.Step
		let  int
		want int
	}{
		{"load of what was let go", impl.Step{Op: impl.MaLoad, R: 1, A: -1, N: 2}, impl.MaLet, 0},
		{"load of what was stored", impl.Step{Op: impl.MaLoad, R: 1, A: -1, N: 2}, impl.MaStore, 0},
		{"swap of what was let go", impl.Step{Op: impl.MaSwap, R: 1, B: 0, N: 2}, impl.MaLet, 7},
		{"swap of what was stored", impl.Step{Op: impl.MaSwap, R: 1, B: 0, N: 2}, impl.MaStore, 0},
	} {
		first := slices.Clone(writer)
		first[2].Op = row.let
		m, _ := impl.MachineNew([][]impl.Step{first, append([]impl.Step{row.look}, behind...)})
		m, codes := machineRuns(t, m, []impl.Pick{{Who: 0}, {Who: 0}, {Who: 0}, {Who: 1}, {Who: 1, Late: 9}})
		if !slices.Equal(codes, make([]int, 5)) || m.Cores[1].Regs[1] != 7 || m.Cores[1].Regs[2] != row.want {
			t.Error(row.name, m.Cores, codes)
		}
	}
}

// The last step of a code ends, faults or jumps; behind any other one there is a place.
func TestLastSteps(t *testing.T) {
	for _, places := range []int{1, 2, 3, 24, 799, 800} {
		last := places - 1
		for _, row := range []struct {
			s     impl.Step
			at    int
			state int
		}{{impl.Step{Op: impl.MaEnd}, last, 1}, {impl.Step{Op: impl.MaFault}, last, 2}, {impl.Step{Op: impl.MaJump}, 0, 0}, {impl.Step{Op: impl.MaJump, N: last}, last, 0}, {impl.Step{Op: impl.MaJump, N: last / 2}, last / 2, 0}} {
			m := machineAt(row.s, last, places)
			d, code := coreSteps(t, m, impl.Pick{Who: 2})
			want := cloneMachine(m)
			want.Cores[2].At, want.Cores[2].State = row.at, row.state
			if code != impl.PkDone || !sameMachine(d, want) {
				t.Error("last", places, row, d.Cores, code)
			}
			e, code := coreSteps(t, d, impl.Pick{Who: 2})
			if row.state != 0 && (code != impl.PkOver || !sameMachine(e, d)) || row.state == 0 && code != impl.PkDone {
				t.Error("behind the last", places, row, code)
			}
		}
		if places == 1 {
			continue
		}
		next := picker(places)
		for _, k := range stepKinds()[:9] {
			m := machineAt(oddStep(k, places, &next), last-1, places)
			if d, code := coreSteps(t, m, impl.Pick{Who: 1}); code != impl.PkDone || d.Cores[1].State == 0 && d.Cores[1].At != last {
				t.Error("one ahead of the last", places, k.name, d.Cores[1], code)
			}
		}
		for reg, at := range map[int]int{0: 0, 1: last, -1: last, math.MinInt: last} {
			m := machineAt(impl.Step{Op: impl.MaZero, A: 4}, last-1, places)
			m.Cores[1].Regs[4] = reg
			if d, code := coreSteps(t, m, impl.Pick{Who: 1}); code != impl.PkDone || d.Cores[1].State != 0 || d.Cores[1].At != at {
				t.Error("zero ahead of the last", places, reg, d.Cores[1], code)
			}
		}
	}
}

// A trace that has room for one note more, and one that has none: whoever prints then stays, and all other steps are done.
func TestTraceOfCores(t *testing.T) {
	next := picker(43)
	for _, count := range []int{0, 1, 3998, 3999, 4000} {
		notes := make([]impl.Note, count)
		for i := range notes {
			notes[i] = impl.Note{Who: i % 3, V: i * i}
		}
		for _, k := range stepKinds() {
			m := machineAt(oddStep(k, 4, &next), 1, 4)
			m.Trace = notes
			d, code := coreSteps(t, m, impl.Pick{Who: 2})
			turnsOwnCore(t, m, d, code, 2)
			switch {
			case k.name == "print" && count == 4000:
				if code != impl.PkOver || !sameMachine(m, d) {
					t.Error("no room", code, d.Cores)
				}
			case k.name == "print":
				if code != impl.PkDone || len(d.Trace) != count+1 || d.Trace[count].Who != 2 || d.Cores[2].At != 2 {
					t.Error("room", count, code, d.Cores)
				}
			case code != impl.PkDone || len(d.Trace) != count:
				t.Error("no print", k.name, count, code)
			}
		}
	}
}

// A print that is refused stays where it is, and the others go on.
func TestPrintsWithoutRoom(t *testing.T) {
	says := []impl.Step{{Op: impl.MaPrint, A: 3}, {Op: impl.MaJump}}
	m, _ := impl.MachineNew([][]impl.Step{says, {{Op: impl.MaAdd, R: 0, A: 0, B: 1}, {Op: impl.MaJump}}, says})
	m.Cores[1].Regs[1] = 4
	m.Cores[2].Regs[3] = 6
	m.Trace = slices.Repeat([]impl.Note{{Who: 1, V: 8}}, 3999)
	d, codes := machineRuns(t, m, []impl.Pick{{Who: 2}, {Who: 0}, {Who: 2}, {Who: 2}, {Who: 0}, {Who: 1}, {Who: 1}, {Who: 1}, {Who: 0}})
	if !slices.Equal(codes, []int{0, 3, 0, 3, 3, 0, 0, 0, 3}) || len(d.Trace) != 4000 || d.Trace[3999] != (impl.Note{Who: 2, V: 6}) || d.Cores[0].At != 0 || d.Cores[2].At != 0 || d.Cores[1].Regs[0] != 8 {
		t.Error(codes, d.Cores)
	}
}

// fullAt is a machine of one core at a step of memory, of a cell with so many writes of which the core knows the tenth;
// the last of them was let go by one who knew a write of another cell.
func fullAt(s impl.Step, cell int, writes int) impl.Machine {
	mem := writtenTo(cell, writes)
	other := (cell + 1) % 24
	mem.Cells[other] = append(mem.Cells[other], impl.Write{V: 5, View: viewOf([2]int{other, 1})})
	mem.Cells[cell][writes-1].View = viewOf([2]int{cell, writes - 1}, [2]int{other, 1})
	return impl.Machine{Codes: [][]impl.Step{{{Op: impl.MaEnd}, s, {Op: impl.MaEnd}}}, Cores: []impl.Core{{At: 1, Regs: []int{0, 1, 2, 3, 4, 5, 6, 7}, View: viewOf([2]int{cell, 10})}}, Mem: mem}
}

// A cell with room for one write more, and one that has none: what is refused is taken back, and the core is as it was.
func TestCellsWithoutRoom(t *testing.T) {
	for _, cell := range []int{0, 12, 23} {
		for _, op := range []int{impl.MaStore, impl.MaLet, impl.MaSwap} {
			for _, a := range []int{-1, 0} {
				m := fullAt(cellStep(op, cell, a), cell, 3999)
				d, code := coreSteps(t, m, impl.Pick{})
				if code != impl.PkDone || len(d.Mem.Cells[cell]) != 4000 || d.Cores[0].View[cell] != 3999 || d.Cores[0].At != 2 || !impl.MachineOk(d) {
					t.Error("room", op, cell, code, d.Cores)
				}
				m = fullAt(cellStep(op, cell, a), cell, 4000)
				for _, late := range []int{0, -1, 7, math.MaxInt} {
					if d, code = impl.CoreStep(m, impl.Pick{Late: late}); code != impl.PkOver || !sameMachine(m, d) || !slices.Equal(d.Cores[0].Regs, []int{0, 1, 2, 3, 4, 5, 6, 7}) || !slices.Equal(d.Cores[0].View, viewOf([2]int{cell, 10})) {
						t.Error("no room", op, cell, late, code, d.Cores)
					}
				}
				other := fullAt(cellStep(op, (cell+1)%24, a), cell, 4000)
				if d, code = coreSteps(t, other, impl.Pick{}); code != impl.PkDone || len(d.Mem.Cells[(cell+1)%24]) != 3 {
					t.Error("another cell", op, cell, code)
				}
			}
		}
		m := fullAt(impl.Step{Op: impl.MaLoad, R: 3, A: -1, N: cell}, cell, 4000)
		if d, code := coreSteps(t, m, impl.Pick{}); code != impl.PkDone || d.Cores[0].Regs[3] != 39990 {
			t.Error("load", cell, code)
		}
	}
}

// Where there is no cell there is no room to be out: that is a fault, though all cells be full.
func TestNoCellIsAheadOfNoRoom(t *testing.T) {
	for _, op := range []int{impl.MaStore, impl.MaLet} {
		for _, reg := range []int{-1, 24, math.MinInt, math.MaxInt} {
			m := fullAt(cellStep(op, 0, 1), 0, 4000)
			m.Cores[0].Regs[1] = reg
			want := cloneMachine(m)
			want.Cores[0].State = impl.StFault
			if d, code := impl.CoreStep(m, impl.Pick{}); code != impl.PkDone || !sameMachine(d, want) {
				t.Error(op, reg, code, d.Cores)
			}
		}
	}
}

// A run through the end of a cell's room: swaps and stores are refused from there on, whoever asks, and change nothing.
func TestRunsThroughTheEndOfRoom(t *testing.T) {
	spin := []impl.Step{{Op: impl.MaSwap, R: 1, B: 2, N: 7}, {Op: impl.MaJump}}
	m, _ := impl.MachineNew([][]impl.Step{spin, {{Op: impl.MaLet, A: -1, B: 3, N: 7}, {Op: impl.MaJump}}, {{Op: impl.MaLoad, R: 4, A: -1, N: 7}, {Op: impl.MaJump}}})
	m.Mem = writtenTo(7, 3997)
	m.Cores[0].Regs[2], m.Cores[1].Regs[3] = 11, 12
	var picks []impl.Pick
	for range 4 {
		picks = append(picks, impl.Pick{Who: 0}, impl.Pick{Who: 0}, impl.Pick{Who: 1}, impl.Pick{Who: 1}, impl.Pick{Who: 2, Late: 1}, impl.Pick{Who: 2})
	}
	d, codes := machineRuns(t, m, picks)
	if !slices.Equal(codes, []int{0, 0, 0, 0, 0, 0, 0, 0, 3, 3, 0, 0, 3, 3, 3, 3, 0, 0, 3, 3, 3, 3, 0, 0}) || len(d.Mem.Cells[7]) != 4000 {
		t.Error(codes, len(d.Mem.Cells[7]))
	}
	if d.Cores[0].Regs[1] != 12 || d.Cores[0].View[7] != 3999 || d.Cores[1].View[7] != 3998 || d.Cores[2].Regs[4] != 12 {
		t.Error(d.Cores)
	}
}

func TestCoresThatThereAreNot(t *testing.T) {
	m := machineAt(impl.Step{Op: impl.MaPrint}, 0, 2)
	over := cloneMachine(m)
	for i := range over.Cores {
		over.Cores[i].State = 1 + i%2
	}
	over.Trace = slices.Repeat([]impl.Note{{Who: 1, V: 1}}, 4000)
	one, _ := impl.MachineNew([][]impl.Step{ends(1)})
	for _, who := range []int{math.MinInt, -4, -3, -1, 3, 4, 5, math.MaxInt} {
		for _, from := range []impl.Machine{m, over, one} {
			if d, code := impl.CoreStep(from, impl.Pick{Who: who, Late: 1}); code != impl.PkNone || !sameMachine(d, from) {
				t.Error(who, code)
			}
			if d, codes := impl.MachineRun(from, []impl.Pick{{Who: who}, {Who: who}}); !slices.Equal(codes, []int{impl.PkNone, impl.PkNone}) || !sameMachine(d, from) {
				t.Error("run", who, codes)
			}
		}
	}
	if _, code := impl.CoreStep(one, impl.Pick{Who: 1}); code != impl.PkNone {
		t.Error("one beyond one", code)
	}
}

// A core that has ended or faulted does nothing, whatever stands where it is; the others go on.
func TestCoresThatDoNotRun(t *testing.T) {
	next := picker(47)
	for _, k := range stepKinds() {
		for range 12 {
			m := machineAt(oddStep(k, 5, &next), 2, 5)
			for state := 1; state <= 2; state++ {
				d := cloneMachine(m)
				d.Cores[1].State, d.Cores[1].Regs = state, oddRegs(&next)
				if e, code := impl.CoreStep(d, impl.Pick{Who: 1, Late: 1}); code != impl.PkOver || !sameMachine(d, e) {
					t.Error(state, k.name, code, e.Cores)
				}
				if _, code := coreSteps(t, d, impl.Pick{Who: 0}); code != impl.PkDone {
					t.Error("another one", state, k.name, code)
				}
			}
		}
	}
	m := fullAt(impl.Step{Op: impl.MaSwap, N: 3}, 3, 4000)
	m.Cores[0].State = impl.StEnd
	if d, code := impl.CoreStep(m, impl.Pick{}); code != impl.PkOver || !sameMachine(m, d) {
		t.Error("ended and full", code)
	}
}

// A run whose picks answer each code but PkBad, with what becomes of it written out.
func TestMachineRunOfEachCode(t *testing.T) {
	writer := []impl.Step{{Op: impl.MaSet, R: 0, N: 7}, {Op: impl.MaStore, A: -1, B: 0, N: 1}, {Op: impl.MaLet, A: -1, B: 0, N: 2}, {Op: impl.MaEnd}}
	reader := []impl.Step{{Op: impl.MaSwap, R: 1, B: 0, N: 2}, {Op: impl.MaLoad, R: 2, A: -1, N: 1}, {Op: impl.MaPrint, A: 2}, {Op: impl.MaLoad, R: 3, A: 1, N: 17}, {Op: impl.MaEnd}}
	m, _ := impl.MachineNew([][]impl.Step{writer, reader})
	got, codes := impl.MachineRun(m, []impl.Pick{{Who: 0}, {Who: 0}, {Who: -1}, {Who: 0}, {Who: 1}, {Who: 1, Late: 3}, {Who: 2}, {Who: 1}, {Who: 1}, {Who: 1}, {Who: 0}, {Who: 0}})
	if !slices.Equal(codes, []int{0, 0, 2, 0, 0, 0, 2, 0, 0, 3, 0, 3}) {
		t.Error("codes", codes)
	}
	want := impl.Machine{Codes: [][]impl.Step{writer, reader}, Mem: impl.MemoryNew(), Trace: []impl.Note{{Who: 1, V: 7}}, Cores: []impl.Core{
		{At: 3, Regs: []int{7, 0, 0, 0, 0, 0, 0, 0}, View: viewOf([2]int{1, 1}, [2]int{2, 1}), State: 1},
		{At: 3, Regs: []int{0, 7, 7, 0, 0, 0, 0, 0}, View: viewOf([2]int{1, 1}, [2]int{2, 2}), State: 2}}}
	want.Mem.Cells[1] = append(want.Mem.Cells[1], impl.Write{V: 7, View: viewOf([2]int{1, 1})})
	want.Mem.Cells[2] = append(want.Mem.Cells[2], impl.Write{V: 7, View: viewOf([2]int{1, 1}, [2]int{2, 1})}, impl.Write{V: 0, View: viewOf([2]int{1, 1}, [2]int{2, 2})})
	if !sameMachine(got, want) {
		t.Error("machine", got.Cores, got.Trace, got.Mem.Cells[1], got.Mem.Cells[2])
	}
}

// A run is its steps, one behind the other, whatever the machine and the picks are.
func TestMachineRunsAsTold(t *testing.T) {
	count := map[int]int{}
	for seed := range 150 {
		m, next := oddMachine(picker(seed)), picker(seed+5000)
		picks := oddPicks(len(m.Cores), 40, &next)
		end, codes := machineRuns(t, m, picks)
		for i, x := range picks {
			d, code := impl.CoreStep(m, x)
			if code != codes[i] {
				t.Error("step", seed, i, code, codes[i])
			}
			turnsOwnCore(t, m, d, code, x.Who)
			m = d
			count[code]++
		}
		if !sameMachine(m, end) {
			t.Error("steps and run", seed)
		}
	}
	if len(count) != 3 || count[impl.PkDone] < 500 || count[impl.PkNone] < 100 || count[impl.PkOver] < 100 {
		t.Error("codes", count)
	}
}

// A part of a run, and then the rest, are the run, wherever it is cut.
func TestPartsOfMachineRuns(t *testing.T) {
	for seed := range 40 {
		m, next := oddMachine(picker(seed+300)), picker(seed+6000)
		picks := oddPicks(len(m.Cores), 20, &next)
		whole, codes := impl.MachineRun(m, picks)
		for cut := range len(picks) + 1 {
			half, first := impl.MachineRun(m, picks[:cut])
			end, second := impl.MachineRun(half, picks[cut:])
			if !sameMachine(end, whole) || !slices.Equal(slices.Concat(first, second), codes) || len(first) != cut {
				t.Fatal("cut", seed, cut)
			}
		}
	}
}

func TestPartsOfLongMachineRuns(t *testing.T) {
	m, _ := impl.MachineNew([][]impl.Step{adder(0, 1, 900), adder(0, 1, 900), {{Op: impl.MaLoad, R: 1, A: -1, N: 1}, {Op: impl.MaPrint, A: 1}, {Op: impl.MaJump}}})
	m.Trace = slices.Repeat([]impl.Note{{Who: 1, V: 5}}, 3900)
	next := picker(51)
	picks := oddPicks(3, 4000, &next)
	whole, codes := impl.MachineRun(m, picks)
	if len(codes) != 4000 || len(whole.Trace) != 4000 || !slices.Contains(codes, impl.PkOver) || !slices.Contains(codes, impl.PkNone) || slices.Contains(codes, impl.PkBad) {
		t.Fatal(len(codes), len(whole.Trace))
	}
	for _, cut := range []int{0, 1, 1999, 2000, 3999, 4000} {
		half, first := impl.MachineRun(m, picks[:cut])
		end, second := impl.MachineRun(half, picks[cut:])
		if !sameMachine(end, whole) || !slices.Equal(slices.Concat(first, second), codes) {
			t.Error("cut", cut)
		}
	}
}

// MaxPicks picks, and one more.
func TestMachinePicksAtTheLimit(t *testing.T) {
	m, _ := impl.MachineNew([][]impl.Step{{{Op: impl.MaAdd, R: 0, A: 0, B: 1}, {Op: impl.MaJump}}, ends(1)})
	m.Cores[0].Regs[1] = 3
	for _, count := range []int{0, 1, 3999, 4000, 4001, 4002, 8000, 100000} {
		for _, last := range []int{0, 2, -1} {
			picks := make([]impl.Pick, count)
			if count > 0 {
				picks[count-1].Who = last
			}
			d, codes := impl.MachineRun(m, picks)
			if count > 4000 {
				if !sameMachine(d, m) || len(codes) != 0 {
					t.Error("more", count, last, d.Cores, len(codes))
				}
				continue
			}
			turns := count
			if last != 0 && count > 0 {
				turns--
			}
			if len(codes) != count || d.Cores[0].At != turns%2 || d.Cores[0].Regs[0] != 3*((turns+1)/2) {
				t.Error("as many", count, last, d.Cores, len(codes))
			}
		}
	}
}

func TestNoMachinePicks(t *testing.T) {
	for seed := range 20 {
		m := oddMachine(picker(seed))
		for _, picks := range [][]impl.Pick{nil, {}} {
			if d, codes := impl.MachineRun(m, picks); len(codes) != 0 || !sameMachine(d, m) {
				t.Error(seed, codes)
			}
		}
	}
}

// adder adds 1 to a cell so many times, each time under a lock, and ends.
func adder(lock int, cell int, times int) []impl.Step {
	return []impl.Step{
		{Op: impl.MaSet, R: 0, N: times},
		{Op: impl.MaSet, R: 7, N: 1},
		{Op: impl.MaSwap, R: 6, B: 7, N: lock},
		{Op: impl.MaZero, A: 6, N: 5},
		{Op: impl.MaJump, N: 2},
		{Op: impl.MaLoad, R: 4, A: -1, N: cell},
		{Op: impl.MaAdd, R: 4, A: 4, B: 7},
		{Op: impl.MaStore, A: -1, B: 4, N: cell},
		{Op: impl.MaSub, R: 0, A: 0, B: 7},
		{Op: impl.MaSet, R: 7, N: 0},
		{Op: impl.MaLet, A: -1, B: 7, N: lock},
		{Op: impl.MaZero, A: 0, N: 13},
		{Op: impl.MaJump, N: 1},
		{Op: impl.MaEnd},
	}
}

// adds asks that a cell was counted up one by one, to count.
func adds(m impl.Machine, cell int, count int) bool {
	for n, w := range m.Mem.Cells[cell] {
		if w.V != n {
			return false
		}
	}
	return len(m.Mem.Cells[cell]) == count+1
}

// Promise 8: under a lock nothing is lost, by whoever is picked and however late the answers are.
func TestUnderALockNothingIsLost(t *testing.T) {
	for seed := range 60 {
		cores, next := 2+seed%3, picker(seed+70)
		pair := [][2]int{{0, 1}, {1, 0}, {23, 0}, {4, 23}}[seed%4]
		lock, cell := pair[0], pair[1]
		var codes [][]impl.Step
		for range cores {
			codes = append(codes, adder(lock, cell, 5))
		}
		m, _ := impl.MachineNew(codes)
		for range 80 {
			d, _ := impl.MachineRun(m, oddPicks(cores, 100, &next))
			for who, c := range d.Cores {
				if !impl.Knows(c.View, m.Cores[who].View) {
					t.Fatal("a view that knows less", seed, who)
				}
			}
			m = d
		}
		if slices.ContainsFunc(m.Cores, func(c impl.Core) bool { return c.State != impl.StEnd }) {
			t.Fatal("not at the end", seed, m.Cores)
		}
		if !adds(m, cell, 5*cores) {
			t.Error("lost", seed, len(m.Mem.Cells[cell])-1, "of", 5*cores)
		}
	}
}

// An explorer goes through the orders of two cores, and all late answers that they may be given. Tries for a lock that
// is held are bounded: there is no end to them.
type explorer struct {
	lock  int
	cell  int
	seen  map[string]bool
	ended map[int]int
	both  int
}

// inside: the core stands behind its lock, and has not let go.
func inside(c impl.Core) bool { return c.At >= 5 && c.At <= 10 }

// idle: the core would try once more for a lock that is held, and the lock was written often enough.
func (e *explorer) idle(m impl.Machine, who int) bool {
	list := m.Mem.Cells[e.lock]
	return m.Codes[who][m.Cores[who].At].Op == impl.MaSwap && list[len(list)-1].V != 0 && len(list) > 3
}

func (e *explorer) visit(t *testing.T, m impl.Machine) {
	key := fmt.Sprint(m.Cores, m.Mem.Cells[e.lock], m.Mem.Cells[e.cell])
	if e.seen[key] {
		return
	}
	e.seen[key] = true
	if len(e.seen) > 20000 {
		t.Fatal("the cores do not come to an end", m.Cores)
	}
	if inside(m.Cores[0]) && inside(m.Cores[1]) {
		e.both++
	}
	if m.Cores[0].State == impl.StEnd && m.Cores[1].State == impl.StEnd {
		list := m.Mem.Cells[e.cell]
		e.ended[list[len(list)-1].V]++
		return
	}
	for who := range m.Cores {
		if m.Cores[who].State != impl.StRun || e.idle(m, who) {
			continue
		}
		lates := 1
		if m.Codes[who][m.Cores[who].At].Op == impl.MaLoad {
			lates = len(m.Mem.Cells[e.cell])
		}
		for late := range lates {
			d, code := impl.CoreStep(m, impl.Pick{Who: who, Late: late})
			if code != impl.PkDone || !impl.Knows(d.Cores[who].View, m.Cores[who].View) {
				t.Fatal("step", who, late, code, m.Cores, d.Cores)
			}
			e.visit(t, d)
		}
	}
}

// Promise 8, by the orders and all late answers of two cores that add to one cell: none is lost under the lock. If it is
// let go by a store, or not taken at all, some are: so it is the lock that keeps them.
func TestOrdersUnderALock(t *testing.T) {
	explore := func(times int, turn func(code []impl.Step)) *explorer {
		e := &explorer{lock: 3, cell: 4, seen: map[string]bool{}, ended: map[int]int{}}
		one, two := adder(3, 4, times), adder(3, 4, 1)
		turn(one)
		turn(two)
		m, ok := impl.MachineNew([][]impl.Step{one, two})
		if !ok {
			t.Fatal("codes", one)
		}
		e.visit(t, m)
		return e
	}
	for times := 1; times <= 2; times++ {
		e := explore(times, func([]impl.Step) {})
		if len(e.ended) != 1 || e.ended[times+1] == 0 || e.both != 0 {
			t.Error("under a lock", times, e.ended, e.both)
		}
	}
	e := explore(1, func(code []impl.Step) { code[10].Op = impl.MaStore })
	if e.ended[1] == 0 || e.ended[2] == 0 || e.both != 0 {
		t.Error("stored", e.ended, e.both)
	}
	e = explore(1, func(code []impl.Step) { code[2] = impl.Step{Op: impl.MaSet, R: 6} })
	if e.ended[1] == 0 || e.ended[2] == 0 || e.both == 0 {
		t.Error("no lock", e.ended, e.both)
	}
}

// Promise 8: a core's view only grows, and knows at each step what the core read and wrote, along runs of all kinds.
func TestCoreViewsOnlyGrow(t *testing.T) {
	grown := 0
	for seed := range 80 {
		m, next := oddMachine(picker(seed+700)), picker(seed+7000)
		for _, x := range oddPicks(len(m.Cores), 60, &next) {
			d, code := impl.CoreStep(m, x)
			if code == impl.PkBad || code == impl.PkDone && !impl.Knows(d.Cores[x.Who].View, m.Cores[x.Who].View) || !impl.MachineOk(d) {
				t.Fatal(seed, x, code)
			}
			if code == impl.PkDone && !impl.Knows(m.Cores[x.Who].View, d.Cores[x.Who].View) {
				grown++
			}
			for who := range m.Cores {
				if who != x.Who && !slices.Equal(m.Cores[who].View, d.Cores[who].View) {
					t.Fatal("another view", seed, x, who)
				}
			}
			m = d
		}
	}
	if grown < 100 {
		t.Error("too few steps", grown)
	}
}

// spareMachine is m with room behind each of its lists, in which something stands.
func spareMachine(m impl.Machine) impl.Machine {
	d := impl.Machine{Mem: spareMemory(m.Mem)}
	d.Codes = slices.Concat(m.Codes, [][]impl.Step{{{Op: -9}}})[:len(m.Codes)]
	for i, code := range d.Codes {
		d.Codes[i] = slices.Concat(code, []impl.Step{{Op: -31}, {R: -32}})[:len(code)]
	}
	d.Cores = slices.Concat(m.Cores, []impl.Core{{At: -9, Regs: []int{-9}, View: []int{-9}}})[:len(m.Cores)]
	for i, c := range d.Cores {
		d.Cores[i].Regs, d.Cores[i].View = spareView(c.Regs), spareView(c.View)
	}
	d.Trace = slices.Concat(m.Trace, []impl.Note{{Who: -9, V: -9}, {Who: -8, V: -8}})[:len(m.Trace)]
	return d
}

// wholeMachine is a copy of m and of the room behind its lists.
func wholeMachine(m impl.Machine) []any {
	codes, cores := slices.Clone(m.Codes[:cap(m.Codes)]), slices.Clone(m.Cores[:cap(m.Cores)])
	for i, code := range codes {
		codes[i] = slices.Clone(code[:cap(code)])
	}
	for i, c := range cores {
		cores[i].Regs, cores[i].View = slices.Clone(c.Regs[:cap(c.Regs)]), slices.Clone(c.View[:cap(c.View)])
	}
	return []any{codes, cores, wholeMemory(m.Mem), slices.Clone(m.Trace[:cap(m.Trace)])}
}

// fill writes v over a list, to the end of its room.
func fill[T any](list []T, v T) {
	list = list[:cap(list)]
	for i := range list {
		list[i] = v
	}
}

// writeOverMachine writes into every list of m, to the end of its room.
func writeOverMachine(m impl.Machine) {
	for _, code := range m.Codes {
		fill(code, impl.Step{Op: -77})
	}
	for _, c := range m.Cores {
		fill(c.Regs, -77)
		fill(c.View, -77)
	}
	writeOverMemory(m.Mem)
	fill(m.Codes, nil)
	fill(m.Cores, impl.Core{At: -77})
	fill(m.Trace, impl.Note{Who: -77, V: -77})
}

// machineApart asks that no two lists of an answer share memory, nor the room behind them; m is of no use then.
func machineApart(t *testing.T, m impl.Machine, more ...[]int) {
	t.Helper()
	lists := more
	for _, c := range m.Cores {
		lists = append(lists, c.Regs, c.View)
	}
	memoryApart(t, m.Mem, lists...)
	for _, back := range []bool{false, true} {
		for i := range m.Codes {
			if back {
				i = len(m.Codes) - 1 - i
			}
			fill(m.Codes[i], impl.Step{Op: i})
		}
		for i, code := range m.Codes {
			if slices.ContainsFunc(code, func(s impl.Step) bool { return s.Op != i }) {
				t.Error("codes share memory", i, back)
			}
		}
	}
}

// eachMachineCall calls look with machines and picks, right ones and wrong ones; some of the steps are refused.
func eachMachineCall(look func(m impl.Machine, list []impl.Pick)) {
	for seed := range 60 {
		m, next := oddMachine(picker(seed+1100)), picker(seed+8000)
		look(m, oddPicks(len(m.Cores), 1+seed%7, &next))
	}
	next := picker(53)
	for _, k := range stepKinds() {
		for state := range 3 {
			m := machineAt(oddStep(k, 4, &next), 1, 4)
			m.Cores[1].State = state
			look(m, []impl.Pick{{Who: 1, Late: 1}, {Who: 1}})
		}
	}
	for _, op := range []int{impl.MaLoad, impl.MaStore, impl.MaLet, impl.MaSwap} {
		look(fullAt(cellStep(op, 2, -1), 2, 4000), []impl.Pick{{}, {}})
		look(fullAt(cellStep(op, 2, -1), 2, 3999), []impl.Pick{{}, {}})
		look(fullAt(cellStep(op, 23, 7), 23, 20), []impl.Pick{{}, {}})
	}
	for _, notes := range []int{3999, 4000} {
		m := machineAt(impl.Step{Op: impl.MaPrint, A: 5}, 1, 4)
		m.Trace = slices.Repeat([]impl.Note{{Who: 1, V: 2}}, notes)
		look(m, []impl.Pick{{Who: 1}, {Who: 2}, {Who: 3}})
	}
	m := machineAt(impl.Step{Op: impl.MaSwap}, 1, 4)
	look(m, nil)
	look(m, make([]impl.Pick, 4001))
	look(m, []impl.Pick{{Who: -1}, {Who: 3}, {Who: math.MaxInt, Late: math.MinInt}})
	for _, m := range turnedMachines() {
		look(m, []impl.Pick{{Who: 1}, {Who: 0}})
	}
}

// machineAnswers are what the functions of chapter 8 tell of one machine and picks.
type machineAnswers struct {
	ok    bool
	step  impl.Machine
	code  int
	run   impl.Machine
	codes []int
	fresh impl.Machine
	made  bool
}

func machineAnswersOf(m impl.Machine, list []impl.Pick) machineAnswers {
	var a machineAnswers
	a.ok = impl.MachineOk(m)
	if len(list) > 0 {
		a.step, a.code = impl.CoreStep(m, list[0])
	}
	a.run, a.codes = impl.MachineRun(m, list)
	a.fresh, a.made = impl.MachineNew(m.Codes)
	return a
}

func machineAnswersWanted(m impl.Machine, list []impl.Pick) machineAnswers {
	var a machineAnswers
	m = cloneMachine(m)
	a.ok = machineRight(m)
	if len(list) > 0 {
		a.step, a.code = coreStepWanted(m, list[0])
	}
	a.run, a.codes = machineRunWanted(m, list)
	a.made = len(m.Codes) > 0 && len(m.Codes) < 5 && !slices.ContainsFunc(m.Codes, func(code []impl.Step) bool { return !codeRight(code) })
	if a.made {
		a.fresh = impl.Machine{Codes: m.Codes, Mem: impl.MemoryNew(), Cores: slices.Repeat([]impl.Core{{Regs: make([]int, 8), View: make([]int, 24)}}, len(m.Codes))}
	}
	return a
}

func sameMachineAnswers(a machineAnswers, b machineAnswers) bool {
	return a.ok == b.ok && a.code == b.code && a.made == b.made && slices.Equal(a.codes, b.codes) && sameMachine(a.step, b.step) && sameMachine(a.run, b.run) && sameMachine(a.fresh, b.fresh)
}

func writeOverMachineAnswers(a machineAnswers) {
	writeOverMachine(a.step)
	writeOverMachine(a.run)
	writeOverMachine(a.fresh)
	scribble(a.codes)
}

// Promise 18: nothing is written into an argument, nor behind it, nor read there, also where a step is refused.
func TestChapterEightWritesIntoNoArgument(t *testing.T) {
	codes := map[int]int{}
	eachMachineCall(func(m impl.Machine, list []impl.Pick) {
		m, behind := spareMachine(m), append(slices.Clone(list), impl.Pick{Who: -9}, impl.Pick{Late: -9})
		whole, picks := wholeMachine(m), slices.Clone(behind)
		got, want := machineAnswersOf(m, behind[:len(list)]), machineAnswersWanted(m, list)
		if !sameMachineAnswers(got, want) {
			t.Error("answers", list, got.codes, want.codes, got.run.Cores, want.run.Cores)
		}
		if !reflect.DeepEqual(whole, wholeMachine(m)) || !slices.Equal(picks, behind) {
			t.Error("an argument was written into", list, got.codes)
		}
		codes[got.code]++
	})
	for _, code := range []int{impl.PkDone, impl.PkBad, impl.PkNone, impl.PkOver} {
		if codes[code] == 0 {
			t.Error("never met", code, codes)
		}
	}
}

// Promise 18: no answer shares memory with an argument or with another answer, its lists lie apart, and nothing is kept.
func TestChapterEightAnswersNewMemory(t *testing.T) {
	eachMachineCall(func(m impl.Machine, list []impl.Pick) {
		m, own := spareMachine(m), slices.Clone(list)
		whole, want := wholeMachine(m), machineAnswersWanted(m, list)
		writeOverMachineAnswers(machineAnswersOf(m, own))
		if !reflect.DeepEqual(whole, wholeMachine(m)) || !slices.Equal(own, list) {
			t.Error("the answer lies in the argument", list)
		}
		second, third := machineAnswersOf(m, own), machineAnswersOf(m, own)
		if !sameMachineAnswers(second, want) || !sameMachineAnswers(third, want) {
			t.Error("something was kept", list)
		}
		writeOverMachine(m)
		fill(own, impl.Pick{Who: -77})
		writeOverMachineAnswers(third)
		if !sameMachineAnswers(second, want) {
			t.Error("the argument lies in the answer", list)
		}
		machineApart(t, second.step)
		machineApart(t, second.run, second.codes)
		machineApart(t, second.fresh)
	})
}

// Promise 18: machines whose lists share memory among themselves are answered as any others, by lists that lie apart.
func TestMachinesThatShareMemory(t *testing.T) {
	view, code := make([]int, 24), []impl.Step{{Op: impl.MaSwap, R: 1, B: 2, N: 5}, {Op: impl.MaSet, R: 3, N: 4}, {Op: impl.MaJump}}
	regs := make([]int, 8)
	m := impl.Machine{Codes: slices.Repeat([][]impl.Step{code}, 3), Cores: slices.Repeat([]impl.Core{{Regs: regs, View: view}}, 3),
		Mem: impl.Memory{Cells: slices.Repeat([][]impl.Write{{{V: 3, View: view}, {V: 4, View: view}}}, 24)}}
	d, codes := machineRuns(t, m, []impl.Pick{{Who: 0}, {Who: 0}, {Who: 2}, {Who: 0}, {Who: 0}})
	if !slices.Equal(codes, make([]int, 5)) || !slices.Equal(d.Cores[1].Regs, make([]int, 8)) || d.Cores[0].View[5] != 4 || d.Cores[2].View[5] != 3 || len(m.Mem.Cells[5]) != 2 {
		t.Error(d.Cores, codes)
	}
	if !slices.Equal(view, make([]int, 24)) || !slices.Equal(regs, make([]int, 8)) {
		t.Error("written into", view, regs)
	}
	e, _ := coreSteps(t, m, impl.Pick{Who: 1})
	fresh, _ := impl.MachineNew(m.Codes)
	for _, answer := range []impl.Machine{d, e, fresh} {
		machineApart(t, answer)
	}
	long := m
	long.Trace = make([]impl.Note, 4001)
	same, _ := impl.MachineRun(long, nil)
	machineApart(t, same)
}

// Promise 18: what is stepped from one machine twice makes two machines.
func TestMachinesGoApart(t *testing.T) {
	m, _ := impl.MachineNew([][]impl.Step{{{Op: impl.MaStore, A: -1, B: 1, N: 6}, {Op: impl.MaPrint, A: 1}, {Op: impl.MaJump}}, {{Op: impl.MaSet, R: 1, N: 8}, {Op: impl.MaSwap, R: 2, B: 1, N: 6}, {Op: impl.MaPrint, A: 1}, {Op: impl.MaEnd}}})
	m, _ = impl.MachineRun(m, []impl.Pick{{Who: 1}, {Who: 0}, {Who: 0}, {Who: 0}})
	a, _ := impl.MachineRun(m, []impl.Pick{{Who: 0}, {Who: 0}})
	b, _ := impl.MachineRun(m, []impl.Pick{{Who: 1}, {Who: 1}})
	c, _ := impl.CoreStep(m, impl.Pick{Who: 1})
	d, _ := impl.MachineRun(a, []impl.Pick{{Who: 1}, {Who: 1}})
	last := func(m impl.Machine) [3]int {
		list := m.Mem.Cells[6]
		return [3]int{len(list), list[len(list)-1].V, len(m.Trace)}
	}
	for i, row := range [][2][3]int{{last(m), {2, 0, 1}}, {last(a), {3, 0, 2}}, {last(b), {3, 8, 2}}, {last(c), {3, 8, 1}}, {last(d), {4, 8, 3}}} {
		if row[0] != row[1] {
			t.Error(i, row)
		}
	}
	if a.Trace[1] != (impl.Note{}) || b.Trace[1] != (impl.Note{Who: 1, V: 8}) || d.Trace[1] != (impl.Note{}) || d.Trace[2] != (impl.Note{Who: 1, V: 8}) {
		t.Error(a.Trace, b.Trace, d.Trace)
	}
}

// Promise 18: long lists are answered.
func TestChapterEightAnswersLongLists(t *testing.T) {
	m := machineAt(impl.Step{Op: impl.MaPrint}, 0, 2)
	if d, codes := impl.MachineRun(m, make([]impl.Pick, 1000000)); len(codes) != 0 || !sameMachine(d, m) {
		t.Error("picks")
	}
	for what, turn := range map[string]func(m *impl.Machine){
		"codes":     func(m *impl.Machine) { m.Codes = make([][]impl.Step, 200000) },
		"both":      func(m *impl.Machine) { m.Codes, m.Cores = make([][]impl.Step, 200000), make([]impl.Core, 200000) },
		"steps":     func(m *impl.Machine) { m.Codes[1] = ends(200000) },
		"registers": func(m *impl.Machine) { m.Cores[0].Regs = make([]int, 200000) },
		"view":      func(m *impl.Machine) { m.Cores[2].View = make([]int, 200000) },
		"notes":     func(m *impl.Machine) { m.Trace = make([]impl.Note, 200000) },
		"cells":     func(m *impl.Machine) { m.Mem.Cells = make([][]impl.Write, 200000) },
		"writes":    func(m *impl.Machine) { m.Mem.Cells[7] = make([]impl.Write, 200000) },
	} {
		d := cloneMachine(m)
		turn(&d)
		badMachine(t, what, d)
	}
	if d, ok := impl.MachineNew(make([][]impl.Step, 200000)); ok || !zeroMachine(d) {
		t.Error("new", ok)
	}
}
