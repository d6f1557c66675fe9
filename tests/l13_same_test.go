package tests

import (
	"fmt"
	"math"
	"reflect"
	"slices"
	"sync"
	"testing"

	"loop.example/g00238/impl"
)

// betweenWanted is the document's Between once more, by numbers.
func betweenWanted(p impl.Prog, m impl.Machine, who int) bool {
	return who >= 0 && who < len(m.Cores) && m.Cores[who].State == 0 && slices.Contains(startsWanted(p, who), m.Cores[who].At)
}

// coreSameWanted is the document's CoreSame once more, by numbers.
func coreSameWanted(p impl.Prog, m impl.Machine, s impl.Source, who int) bool {
	if who < 0 || who >= len(m.Cores) || who >= len(s.Threads) {
		return false
	}
	c, th, owners := m.Cores[who], s.Threads[who], ownersWanted(p, who)
	if c.At < 0 || c.At >= len(owners) {
		return false
	}
	if c.State == 1 || c.State == 2 {
		return th.State == c.State
	}
	if !betweenWanted(p, m, who) {
		return true
	}
	same := th.At == owners[c.At] && th.State == 0 && len(c.Regs) > 3 && len(th.Regs) > 3
	for r := 0; same && r < 4; r++ {
		same = c.Regs[r] == th.Regs[r]
	}
	return same
}

// chanSameWanted is the document's ChanSame once more.
func chanSameWanted(p impl.Prog, m impl.Machine, s impl.Source, n int) bool {
	if n < 0 || n >= len(s.Chans) {
		return false
	}
	c, ok := chanInWanted(m.Mem, p.Caps, n)
	return lockedWanted(m.Mem, p.Caps, n) || ok && sameChan(c, s.Chans[n])
}

// sameWanted is the document's Same once more.
func sameWanted(p impl.Prog, m impl.Machine, s impl.Source) bool {
	same := progRight(p) && machineRight(m) && sourceRight(p, s) && slices.Equal(m.Trace, s.Trace)
	for who := 0; same && who < max(len(m.Cores), len(p.Bodies)); who++ {
		same = coreSameWanted(p, m, s, who)
	}
	for n := 0; same && n < len(p.Caps); n++ {
		same = chanSameWanted(p, m, s, n)
	}
	return same
}

// sameAnswersOf are what the functions of chapter 13 tell: Between and CoreSame of each core, one below and some beyond,
// ChanSame of each channel likewise, and Same.
func sameAnswersOf(p impl.Prog, m impl.Machine, s impl.Source) []bool {
	var out []bool
	for who := -1; who <= 5; who++ {
		out = append(out, impl.Between(p, m, who), impl.CoreSame(p, m, s, who), impl.ChanSame(p, m, s, who))
	}
	return append(out, impl.Same(p, m, s))
}

func sameAnswersWanted(p impl.Prog, m impl.Machine, s impl.Source) []bool {
	var out []bool
	for who := -1; who <= 5; who++ {
		out = append(out, betweenWanted(p, m, who), coreSameWanted(p, m, s, who), chanSameWanted(p, m, s, who))
	}
	return append(out, sameWanted(p, m, s))
}

// beside holds all of chapter 13 against what is wanted, and answers Same.
func beside(t *testing.T, what string, p impl.Prog, m impl.Machine, s impl.Source) bool {
	t.Helper()
	got, want := sameAnswersOf(p, m, s), sameAnswersWanted(p, m, s)
	if !slices.Equal(got, want) {
		t.Errorf("%v: %v\nnot %v\n%v\n%v\n%v", what, got, want, brief(p), brief(m.Cores), brief(s))
	}
	return got[len(got)-1]
}

// A stand is a program, a source of it, and a machine that stands as the source does.
type stand struct {
	what string
	p    impl.Prog
	m    impl.Machine
	s    impl.Source
}

func (d stand) clone() stand { return stand{d.what, d.p, cloneMachine(d.m), cloneSource(d.s)} }

// stands are sources at work, with channels of all kinds, wherever their first numbers lie in the ring.
func stands() []stand {
	var out []stand
	add := func(what string, p impl.Prog, s impl.Source) {
		for turn := range 3 {
			out = append(out, stand{fmt.Sprint(what, " ", turn), p, machineOf(p, s, turn), s})
		}
	}
	p, s := workProg()
	add("at work", p, s)
	mixed, fresh := mixedProg()
	add("new", mixed, fresh)
	fresh = cloneSource(fresh)
	fresh.Chans[0].List, fresh.Chans[1] = []int{math.MaxInt}, impl.Chan{Cap: 2, List: []int{-1, 1}, Closed: true}
	fresh.Trace = []impl.Note{{Who: 3, V: -7}, {Who: 0, V: 7}, {Who: 3, V: -7}}
	for who := range fresh.Threads {
		fresh.Threads[who].Regs = []int{who, -who, math.MinInt, 1 << 40}
	}
	add("all run", mixed, fresh)
	kinds := kindsProg()
	for at := range kinds.Bodies[1] {
		s, _ := impl.SourceNew(kinds)
		s.Threads[1] = impl.Thread{At: at, Regs: []int{at, 1, math.MaxInt, -5}}
		s.Chans[0].List = []int{9}
		out = append(out, stand{fmt.Sprint("place ", at), kinds, machineOf(kinds, s, at), s})
	}
	return out
}

func TestStandsAreTheSame(t *testing.T) {
	for _, d := range stands() {
		if !beside(t, d.what, d.p, d.m, d.s) {
			t.Error(d.what, d.m.Cores, d.s)
		}
	}
}

// Each step of the code of programs with places of each kind: a core that runs is between two places just at first steps.
func TestBetweenOfEachStep(t *testing.T) {
	answers := map[bool]int{}
	eachCodedProg(func(p impl.Prog) {
		m, _ := impl.Launch(p)
		for who, code := range m.Codes {
			starts := startsWanted(p, who)
			for at := range code {
				m.Cores[who].At = at
				for _, state := range []int{impl.StEnd, impl.StFault, -1, 3, impl.StRun} {
					m.Cores[who].State = state
					got := impl.Between(p, m, who)
					if got != (state == impl.StRun && slices.Contains(starts, at)) {
						t.Fatal(p, who, at, state, got)
					}
					answers[got]++
				}
			}
		}
	})
	if answers[true] < 1000 || answers[false] < 10000 {
		t.Error("too few steps", answers)
	}
}

// The steps of a place of each kind, written out: kindsProg's first steps.
func TestBetweenRows(t *testing.T) {
	p := kindsProg()
	m, _ := impl.Launch(p)
	firsts := []int{0, 1, 2, 3, 4, 33, 63, 94, 126, 139, 140, 141, 142}
	for at := -1; at <= 144; at++ {
		m.Cores[1].At = at
		if impl.Between(p, m, 1) != slices.Contains(firsts, at) {
			t.Error(at)
		}
	}
}

// Promise 13: at first machine and program are the same, each core and each channel of it; and there are no more.
func TestAtFirstTheyAreTheSame(t *testing.T) {
	progs := 0
	look := func(p impl.Prog) {
		progs++
		m, made := impl.Launch(p)
		s, ok := impl.SourceNew(p)
		if !made || !ok || !impl.Same(p, m, s) {
			t.Fatal("not the same", p)
		}
		for who := -1; who <= 5; who++ {
			there := who >= 0 && who < len(p.Bodies)
			if impl.Between(p, m, who) != there || impl.CoreSame(p, m, s, who) != there {
				t.Fatal("core", who, p)
			}
			if impl.ChanSame(p, m, s, who) != (who >= 0 && who < len(p.Caps)) {
				t.Fatal("channel", who, p)
			}
		}
	}
	eachCodedProg(look)
	for _, p := range witnessProgs() {
		look(p)
	}
	for caps := range 125 {
		var rooms []int
		for _, room := range []int{caps % 5, caps / 5 % 5, caps / 25} {
			if room > 0 {
				rooms = append(rooms, room)
			}
		}
		look(impl.Prog{Caps: rooms, Bodies: slices.Repeat([][]impl.Ins{endsOf(1)}, 1+caps%4)})
	}
	if progs < 300 {
		t.Error("too few", progs)
	}
}

// stepBoth has a step of a core, and the thread's place beside it, if that step does one.
func stepBoth(p impl.Prog, m impl.Machine, s impl.Source, x impl.Pick) (impl.Machine, impl.Source) {
	d, code := impl.CoreStep(m, x)
	if code == impl.PkDone && impl.Commits(p, m, d, x.Who) {
		s, _ = impl.SourceStep(p, s, x.Who)
	}
	return d, s
}

// Side by side on their way: the program, run by the witness so far, is the same as the machine after each step, by rows
// of picks with late answers among them.
func TestSameOnTheirWay(t *testing.T) {
	seen := map[string]int{}
	for i, p := range witnessProgs() {
		for what, picks := range pickRows(len(p.Bodies), 260, i+3) {
			m, _ := impl.Launch(p)
			s, _ := impl.SourceNew(p)
			for k, x := range picks {
				m, s = stepBoth(p, m, s, x)
				if !impl.Same(p, m, s) {
					t.Fatal(i, what, k, m.Cores, s)
				}
				if k%9 == 0 {
					beside(t, fmt.Sprint(i, what, k), p, m, s)
				}
				for who, c := range m.Cores {
					seen[fmt.Sprint("between ", impl.Between(p, m, who))]++
					seen[fmt.Sprint("state ", c.State)]++
				}
				for n := range p.Caps {
					seen[fmt.Sprint("locked ", impl.Locked(m.Mem, p.Caps, n))]++
				}
			}
		}
	}
	for _, what := range []string{"between true", "between false", "state 0", "state 1", "state 2", "locked true", "locked false"} {
		if seen[what] < 500 {
			t.Error("too few", what, seen)
		}
	}
}

// The machine then, and the program run by its whole witness.
func TestSameByTheWitness(t *testing.T) {
	turn := 0
	eachCodedProg(func(p impl.Prog) {
		turn++
		next := picker(turn)
		picks := oddPicks(len(p.Bodies), 50+turn*7%500, &next)
		order, m, _ := impl.Witness(p, picks)
		s, _ := impl.SourceNew(p)
		s, _ = impl.SourceRun(p, s, order)
		if !impl.Same(p, m, s) {
			t.Fatal(p, m.Cores, s)
		}
	})
}

// Side by side, one of them ahead by a few steps: what is the same then and what is not.
func TestSameOfWhoIsAhead(t *testing.T) {
	answers := map[bool]int{}
	for i, p := range witnessProgs() {
		next := picker(i + 44)
		picks := oddPicks(len(p.Bodies), 240, &next)
		var machines []impl.Machine
		var sources []impl.Source
		m, _ := impl.Launch(p)
		s, _ := impl.SourceNew(p)
		for _, x := range picks {
			m, s = stepBoth(p, m, s, x)
			machines, sources = append(machines, m), append(sources, s)
		}
		for at := 0; at < len(picks); at += 3 {
			for _, other := range []int{at - 25, at - 5, at - 1, at + 1, at + 4, at + 31} {
				if other >= 0 && other < len(picks) {
					answers[beside(t, fmt.Sprint(i, at, other), p, machines[at], sources[other])]++
				}
			}
		}
	}
	if answers[true] < 300 || answers[false] < 300 {
		t.Error("too few", answers)
	}
}

// The steps of one that sends and of one that takes, written out, held against the program after each of its places.
func TestSameRows(t *testing.T) {
	p := impl.Prog{Caps: []int{1}, Bodies: [][]impl.Ins{
		{{Op: impl.SrSet, R: 0, N: 5}, {Op: impl.SrSend, A: 0}, {Op: impl.SrEnd}},
		{{Op: impl.SrTake, R: 0, B: 1}, {Op: impl.SrPrint, A: 0}, {Op: impl.SrEnd}}}}
	m, _ := impl.Launch(p)
	s, _ := impl.SourceNew(p)
	sources := []impl.Source{s}
	for _, who := range []int{0, 0, 0, 1, 1, 1} {
		s, _ = impl.SourceStep(p, s, who)
		sources = append(sources, s)
	}
	rows := []struct {
		steps int
		who   int
		want  []int
	}{
		{0, 0, []int{0}},
		{1, 0, []int{1}},           // at the place that sends
		{1, 0, []int{0, 1}},        // on its way, whatever its registers; the channel is not locked and empty
		{1, 0, []int{0, 1, 2, 3}},  // it has the lock: core 1 is at its first place, and nothing was printed
		{17, 0, []int{0, 1, 2, 3}}, // all is written, and it has the lock still
		{1, 0, []int{2, 3}},        // let go: the channel has the number
		{1, 0, []int{2}},           // at its end
		{1, 0, []int{3}},           // ended
		{1, 1, []int{3}},           // on its way
		{1, 1, []int{3, 4}},        // it has the lock: core 1 is anywhere, and nothing was printed
		{15, 1, []int{3, 4}},
		{1, 1, []int{4}}, // let go
		{2, 1, []int{4}}, // at the place that prints
		{1, 1, []int{5}},
		{1, 1, []int{6}},
		{9, 1, []int{6}},
	}
	for i, row := range rows {
		m, _ = impl.MachineRun(m, stepPicks(row.who, row.steps))
		var same []int
		for k, s := range sources {
			if beside(t, fmt.Sprint(i, k), p, m, s) {
				same = append(same, k)
			}
		}
		if !slices.Equal(same, row.want) {
			t.Error(i, row, m.Cores[row.who].At, same)
		}
	}
}

// near are numbers other than v: beside it, and with one bit of 64 turned.
func near(v int) []int { return []int{v + 1, v - 1, v ^ 1<<32, v ^ math.MinInt} }

// turned asks what Same, and CoreSame or ChanSame of one who, are of a stand of which one thing was turned.
func turned(t *testing.T, what string, d stand, core int, channel int, want bool) {
	t.Helper()
	if beside(t, d.what+" "+what, d.p, d.m, d.s) != want {
		t.Error(d.what, what, core, channel, "not", want)
	}
	if core >= 0 && impl.CoreSame(d.p, d.m, d.s, core) != want {
		t.Error(d.what, what, "core", core, "not", want)
	}
	if channel >= 0 && impl.ChanSame(d.p, d.m, d.s, channel) != want {
		t.Error(d.what, what, "channel", channel, "not", want)
	}
}

// One register turned, on either side alone: 0 to 3 of who is between two places are asked, 4 to 7 are not, and of who
// does not run none is.
func TestOneRegisterTurned(t *testing.T) {
	for _, from := range stands() {
		for who, c := range from.m.Cores {
			for r := range 8 {
				for _, v := range near(c.Regs[r]) {
					d := from.clone()
					d.m.Cores[who].Regs[r] = v
					turned(t, fmt.Sprint("register ", r, " of the core"), d, who, -1, r > 3 || c.State != impl.StRun)
					if r < 4 {
						d = from.clone()
						d.s.Threads[who].Regs[r] = v
						turned(t, fmt.Sprint("register ", r, " of the thread"), d, who, -1, c.State != impl.StRun)
						d.m.Cores[who].Regs[r] = v
						turned(t, fmt.Sprint("register ", r, " of both"), d, who, -1, true)
					}
				}
			}
			if r := from.clone(); c.State == impl.StRun && c.Regs[0] != c.Regs[1] {
				regs := r.m.Cores[who].Regs
				regs[0], regs[1] = regs[1], regs[0]
				turned(t, "two registers for each other", r, who, -1, false)
			}
		}
	}
}

// One place turned: to each other one, on either side alone and on both.
func TestOnePlaceTurned(t *testing.T) {
	for _, from := range stands() {
		for who, c := range from.m.Cores {
			at, runs := from.s.Threads[who].At, c.State == impl.StRun
			for other, first := range startsWanted(from.p, who) {
				d := from.clone()
				d.s.Threads[who].At = other
				turned(t, fmt.Sprint("thread at ", other), d, who, -1, !runs || other == at)
				d.m.Cores[who].At = first
				turned(t, fmt.Sprint("both at ", other), d, who, -1, true)
				d.s.Threads[who].At = at
				turned(t, fmt.Sprint("core at ", other), d, who, -1, !runs || other == at)
			}
		}
	}
}

// Each State of a core beside each of a thread, at a first step and on its way: who has ended or faulted asks for the
// same, who is between two places for one that runs, who is on its way for none.
func TestStatesSideBySide(t *testing.T) {
	p := kindsProg()
	from := stand{what: "states", p: p}
	from.s, _ = impl.SourceNew(p)
	from.s.Threads[1].At, from.s.Threads[1].Regs = 4, []int{1, 2, 3, 4}
	from.m = machineOf(p, from.s, 1)
	for core := range 3 {
		for thread := range 3 {
			for at := 4; at <= 33; at++ {
				for _, like := range []bool{true, false} {
					d := from.clone()
					d.m.Cores[1].At, d.m.Cores[1].State, d.s.Threads[1].State = at, core, thread
					want := core == thread
					if core == impl.StRun && at > 4 && at < 33 {
						want = true
					}
					if !like {
						d.s.Threads[1].Regs[2] = 77
					}
					if core == impl.StRun && (at == 4 && !like || at == 33) {
						want = false
					}
					turned(t, fmt.Sprint(core, thread, at, like), d, 1, -1, want)
				}
			}
		}
	}
}

// A core that is on its way, at each of its steps, is the same as any thread that there is: of any place, registers and
// State.
func TestWhoIsOnItsWay(t *testing.T) {
	p := kindsProg()
	s, _ := impl.SourceNew(p)
	m, _ := impl.Launch(p)
	firsts := startsWanted(p, 1)
	threads := []impl.Thread{{}, {At: -1, State: 7}, {At: math.MaxInt, Regs: []int{1}, State: math.MinInt}, {At: 3, Regs: []int{9, 9, 9, 9}}, {At: 12, Regs: make([]int, 4), State: 1}, {At: 4, Regs: make([]int, 4), State: 2}}
	for at := range m.Codes[1] {
		if slices.Contains(firsts, at) {
			continue
		}
		m.Cores[1].At = at
		for _, th := range threads {
			d := cloneSource(s)
			d.Threads[1] = th
			if !impl.CoreSame(p, m, d, 1) || beside(t, fmt.Sprint(at, th), p, m, d) != impl.SourceOk(p, d) {
				t.Error(at, th)
			}
		}
		for _, state := range []int{3, -1, math.MaxInt} {
			d := cloneMachine(m)
			d.Cores[1].State = state
			if beside(t, fmt.Sprint(at, state), p, d, s) || !impl.CoreSame(p, d, s, 1) {
				t.Error("a State that there is not", at, state)
			}
		}
	}
}

// One thing of a channel turned on either side alone: a number, how many, closed; locked it is not asked.
func TestOneChannelTurned(t *testing.T) {
	for _, from := range stands()[:11] {
		for n, c := range from.s.Chans {
			base := baseWanted(from.p.Caps, n)
			look := func(what string, turn func(d *stand)) {
				d := from.clone()
				turn(&d)
				turned(t, what, d, -1, n, false)
				for _, lock := range []int{1, 2, -1, math.MinInt, 1 << 32} {
					put(d.m.Mem, base, lock)
					if want := impl.SourceOk(d.p, d.s); beside(t, what+" locked", d.p, d.m, d.s) != want || !impl.ChanSame(d.p, d.m, d.s, n) {
						t.Error(d.what, what, n, "locked", lock, want)
					}
				}
				put(d.m.Mem, base, 0)
				turned(t, what+", let go", d, -1, n, false)
			}
			for i, v := range c.List {
				for _, other := range near(v) {
					look("a number of the source", func(d *stand) { d.s.Chans[n].List[i] = other })
					ring := (lastIn(from.m.Mem, base+1) + i) % c.Cap
					look("a number in memory", func(d *stand) { put(d.m.Mem, base+4+ring, other) })
				}
				look("a number less in the source", func(d *stand) { d.s.Chans[n].List = slices.Delete(d.s.Chans[n].List, i, i+1) })
			}
			look("a number more in the source", func(d *stand) { d.s.Chans[n].List = append(d.s.Chans[n].List, 5) })
			look("closed in the source", func(d *stand) { d.s.Chans[n].Closed = !c.Closed })
			look("closed in memory", func(d *stand) { put(d.m.Mem, base+3, 1-lastIn(d.m.Mem, base+3)) })
			for count := -1; count <= 5; count++ {
				if count != len(c.List) {
					look("how many in memory", func(d *stand) { put(d.m.Mem, base+2, count) })
				}
			}
			for _, none := range slices.Concat([]int{-1, c.Cap, c.Cap + 1}, ends64) {
				look("no first number", func(d *stand) { put(d.m.Mem, base+1, none) })
				look("no count", func(d *stand) { put(d.m.Mem, base+2, none+1<<40) })
				look("not closed nor open", func(d *stand) { put(d.m.Mem, base+3, none+1<<40) })
			}
			for _, room := range []int{c.Cap - 1, c.Cap + 1, 0, -1, math.MaxInt} {
				look("another room", func(d *stand) { d.s.Chans[n].Cap = room })
			}
		}
	}
}

// Where a channel's numbers lie in the ring, and what stands in the rest of it, is not asked; nor older writes.
func TestChannelsThatLieElsewhere(t *testing.T) {
	for room := 1; room <= 4; room++ {
		for row := range (room + 1) * room * 2 {
			c := impl.Chan{Cap: room, List: []int{7, 7, math.MinInt, 9}[:row/2%(room+1)], Closed: row%2 == 1}
			first := row / 2 / (room + 1)
			p := impl.Prog{Caps: []int{3, room, 2}, Bodies: [][]impl.Ins{endsOf(2)}}
			s, _ := impl.SourceNew(p)
			s.Chans[1] = c
			m, _ := impl.Launch(p)
			put(m.Mem, baseWanted(p.Caps, 1), laid(impl.Chan{Cap: room}, 5, 0)...)
			put(m.Mem, baseWanted(p.Caps, 1), laid(c, 0, first)...)
			d := stand{"laid", p, m, s}
			turned(t, fmt.Sprint(c, first), d, 0, 1, true)
			for n := range 3 {
				if !impl.ChanSame(p, m, s, n) {
					t.Error(n, c, first)
				}
			}
		}
	}
}

// One note turned on either side alone: who, what, one more, one less, in another order.
func TestOneNoteTurned(t *testing.T) {
	for _, from := range stands() {
		both := func(what string, want bool, turn func(list []impl.Note) []impl.Note) {
			d := from.clone()
			d.m.Trace = turn(d.m.Trace)
			turned(t, what+" of the machine", d, -1, -1, want)
			d.s.Trace = turn(d.s.Trace)
			turned(t, what+" of both", d, -1, -1, true)
			d.m.Trace = slices.Clone(from.m.Trace)
			turned(t, what+" of the source", d, -1, -1, want)
		}
		for i, note := range from.s.Trace {
			for _, v := range near(note.V) {
				both("what", false, func(list []impl.Note) []impl.Note { list[i].V = v; return list })
			}
			both("who", false, func(list []impl.Note) []impl.Note { list[i].Who = (note.Who + 1) % len(from.p.Bodies); return list })
			both("one less", false, func(list []impl.Note) []impl.Note { return slices.Delete(list, i, i+1) })
		}
		both("one more", false, func(list []impl.Note) []impl.Note { return append(list, impl.Note{}) })
		both("nothing", len(from.s.Trace) == 0, func(list []impl.Note) []impl.Note { return nil })
		both("an empty list", len(from.s.Trace) == 0, func(list []impl.Note) []impl.Note { return []impl.Note{} })
		if len(from.s.Trace) > 1 {
			both("another order", false, func(list []impl.Note) []impl.Note { list[0], list[1] = list[1], list[0]; return list })
		}
	}
}

// As many notes as there may be, of which the first, the last or the one in the middle is another; one more is none.
func TestTheLongestTraces(t *testing.T) {
	d := stands()[0].clone()
	d.m.Trace, d.s.Trace = make([]impl.Note, 4000), make([]impl.Note, 4000)
	turned(t, "as many as there may be", d, -1, -1, true)
	for _, at := range []int{0, 1999, 3999} {
		d.s.Trace[at].V = 1
		turned(t, fmt.Sprint("note ", at), d, -1, -1, false)
		d.m.Trace[at].V = 1
		turned(t, fmt.Sprint("both ", at), d, -1, -1, true)
	}
	d.s.Trace = d.s.Trace[:3999]
	turned(t, "one less", d, -1, -1, false)
	d.m.Trace, d.s.Trace = make([]impl.Note, 4001), make([]impl.Note, 4001)
	turned(t, "too many", d, -1, -1, false)
}

// Lists that are empty and lists that are nil are the same.
func TestNothingIsNothing(t *testing.T) {
	p := impl.Prog{Caps: []int{1}, Bodies: [][]impl.Ins{endsOf(1)}}
	m, _ := impl.Launch(p)
	s, _ := impl.SourceNew(p)
	m.Trace, s.Trace, s.Chans[0].List = []impl.Note{}, nil, []int{}
	if !beside(t, "empty in the machine", p, m, s) {
		t.Error("empty in the machine")
	}
	m.Trace, s.Trace, s.Chans[0].List = nil, []impl.Note{}, nil
	if !beside(t, "empty in the source", p, m, s) {
		t.Error("empty in the source")
	}
	p = impl.Prog{Bodies: p.Bodies}
	m, _ = impl.Launch(p)
	s, _ = impl.SourceNew(p)
	s.Chans = []impl.Chan{}
	if !beside(t, "no channels", p, m, s) {
		t.Error("no channels")
	}
}

// One core, thread or channel that is not the same is found wherever it stands: the first, the last and those within.
func TestTheFirstAndTheLast(t *testing.T) {
	for count := 1; count <= impl.MaxBodies; count++ {
		for chans := range impl.MaxChans + 1 {
			p := impl.Prog{Caps: []int{1, 4, 2}[:chans], Bodies: slices.Repeat([][]impl.Ins{{{Op: impl.SrPrint}, {Op: impl.SrEnd}}}, count)}
			m, _ := impl.Launch(p)
			s, _ := impl.SourceNew(p)
			from := stand{fmt.Sprint(count, chans), p, m, s}
			turned(t, "new", from, 0, chans-1, true)
			for who := range count {
				d := from.clone()
				d.m.Cores[who].At = 1
				turned(t, "a core", d, who, -1, false)
				d = from.clone()
				d.s.Threads[who].State = impl.StEnd
				turned(t, "a thread", d, who, -1, false)
			}
			for n := range chans {
				d := from.clone()
				d.s.Chans[n].Closed = true
				turned(t, "a channel", d, -1, n, false)
			}
			for _, none := range slices.Concat([]int{-1, -2, 4, 5, 24, 256, 1 << 32, 1<<32 + 1}, ends64) {
				if impl.Between(p, m, none) || impl.CoreSame(p, m, s, none) || impl.ChanSame(p, m, s, none) {
					t.Error("there is none", count, chans, none)
				}
			}
			if impl.Between(p, m, count) || impl.CoreSame(p, m, s, count) || impl.ChanSame(p, m, s, chans) {
				t.Error("one beyond", count, chans)
			}
		}
	}
}

// nothingSame asks that machine and program are in nothing the same, at whatever it is asked.
func nothingSame(t *testing.T, what string, p impl.Prog) {
	t.Helper()
	for _, d := range stands()[:7] {
		for _, s := range []impl.Source{d.s, loose(p)} {
			for _, who := range slices.Concat([]int{-1, 0, 1, 2, 3, 4}, ends64) {
				if impl.Between(p, d.m, who) || impl.CoreSame(p, d.m, s, who) || impl.ChanSame(p, d.m, s, who) != chanSameWanted(p, d.m, s, who) {
					t.Error(what, d.what, who)
				}
			}
			if impl.Same(p, d.m, s) {
				t.Error(what, d.what)
			}
		}
	}
}

// A program that is not ProgOk has no places and is the same as nothing, in each of the ways.
func TestSameOfWrongProgs(t *testing.T) {
	eachWrongProg(func(what string, p impl.Prog) { nothingSame(t, what, p) })
}

// Channels are asked for by their rooms alone: bodies that are wrong take none of them away, a room that is wrong takes all.
func TestChannelsOfWrongProgs(t *testing.T) {
	d := stands()[0]
	for what, list := range wrongBodies() {
		p := impl.Prog{Caps: d.p.Caps, Bodies: [][]impl.Ins{list}}
		if !impl.ChanSame(p, d.m, d.s, 0) || !impl.ChanSame(p, d.m, d.s, 1) || impl.ChanSame(p, d.m, d.s, 2) {
			t.Error(what)
		}
	}
	for _, caps := range [][]int{nil, {0, 3}, {2, 0}, {2, 5}, {2, 3, -1}, {2, 3, 4, 4}, {2, 3, math.MaxInt}} {
		p := impl.Prog{Caps: caps, Bodies: d.p.Bodies}
		for n := range 3 {
			if impl.ChanSame(p, d.m, d.s, n) {
				t.Error("wrong rooms", caps, n)
			}
		}
	}
	for _, caps := range [][]int{{2}, {2, 1}, {3, 3}, {3}} {
		p := impl.Prog{Caps: caps, Bodies: d.p.Bodies}
		if impl.ChanSame(p, d.m, d.s, 1) || impl.ChanSame(p, d.m, d.s, 0) != (caps[0] == 2) {
			t.Error("other rooms", caps)
		}
	}
}

// A machine that is not MachineOk: Same is not so; a core is asked for what it is, a channel for what the memory tells.
func TestSameOfWrongMachines(t *testing.T) {
	p := impl.Prog{Caps: []int{2}, Bodies: pairProg().Bodies}
	s, _ := impl.SourceNew(p)
	right, _ := impl.Launch(p)
	answers := map[bool]int{}
	for what, turn := range machineTurns() {
		m := cloneMachine(right)
		turn(&m)
		if got := beside(t, what, p, m, s); got && !impl.MachineOk(m) {
			t.Error(what)
		}
		answers[impl.CoreSame(p, m, s, 1)]++
	}
	if answers[true] < 10 || answers[false] < 10 {
		t.Error("too few", answers)
	}
	for what, mem := range wrongMemories() {
		m := cloneMachine(right)
		m.Mem = mem
		if beside(t, what, p, m, s) || impl.ChanSame(p, m, s, 0) || !impl.CoreSame(p, m, s, 1) || !impl.Between(p, m, 1) {
			t.Error("memory", what)
		}
	}
	three := impl.Prog{Bodies: slices.Repeat([][]impl.Ins{endsOf(2)}, 3)}
	s, _ = impl.SourceNew(three)
	for what, m := range turnedMachines() {
		s.Trace = nil
		for _, note := range m.Trace {
			if len(m.Trace) < 10 && note.Who >= 0 && note.Who < 3 {
				s.Trace = append(s.Trace, note)
			}
		}
		for who := range s.Threads {
			s.Threads[who].Regs = []int{who, 1, 2, 3}
		}
		if beside(t, what, three, m, s) {
			t.Error(what)
		}
	}
}

// What each way in which a machine is wrong answers, written out: Between, CoreSame and ChanSame of core 1 and channel 0.
func TestSameOfEachWrongMachine(t *testing.T) {
	p := pairProg()
	s, _ := impl.SourceNew(p)
	right, _ := impl.Launch(p)
	rows := map[string][3]bool{
		"as it is": {true, true, true}, "nothing": {}, "no codes": {true, true, true}, "one code": {true, true, true}, "many codes": {true, true, true},
		"an empty code": {true, true, true}, "a short code": {true, true, true}, "no cores": {false, false, true}, "one core": {false, false, true}, "two cores": {true, true, true},
		"many cores": {true, true, true}, "empty cores": {true, false, true}, "no memory": {true, true, false}, "no writes": {true, true, false}, "no view": {true, true, true},
		"notes of nobody": {true, true, true}, "another core's": {true, true, true}, "at -1": {false, false, true}, "at 0": {true, true, true}, "at 1": {true, false, true},
		"at 3": {false, true, true}, "at 13": {false, true, true}, "at 14": {true, false, true}, "at 15": {false, false, true}, "at 800": {false, false, true},
		fmt.Sprint("at ", math.MinInt): {false, false, true}, fmt.Sprint("at ", math.MaxInt): {false, false, true},
		"state 0": {true, true, true}, "state 1": {false, false, true}, "state -1": {false, true, true}, "state 3": {false, true, true},
		fmt.Sprint("state ", math.MinInt): {false, true, true}, fmt.Sprint("state ", math.MaxInt): {false, true, true},
		"0 registers": {true, false, true}, "4 registers": {true, true, true}, "7 registers": {true, true, true}, "50000 registers": {true, true, true},
	}
	turns := machineTurns()
	for what, want := range rows {
		turn, ok := turns[what]
		if !ok {
			t.Fatal("no such turn", what)
		}
		m := cloneMachine(right)
		turn(&m)
		if got := [3]bool{impl.Between(p, m, 1), impl.CoreSame(p, m, s, 1), impl.ChanSame(p, m, s, 0)}; got != want {
			t.Error(what, got, "not", want)
		}
		if impl.Same(p, m, s) != machineRight(m) && want[1] && want[2] {
			t.Error(what, "Same")
		}
	}
}

// A source that is not SourceOk is the same as nothing; its threads and channels are asked for what they are.
func TestSameOfWrongSources(t *testing.T) {
	p, right := workProg()
	for turn := range 3 {
		m := machineOf(p, right, turn)
		for what, s := range turnedSources() {
			m.Trace = slices.Clone(s.Trace[:min(len(s.Trace), 4000)])
			if beside(t, what, p, m, s) {
				t.Error(what)
			}
		}
	}
	m := machineOf(p, right, 0)
	rows := map[string][5]bool{ // core 0 to 2, channel 0 and 1
		"at below": {true, false, true, true, true}, "at beyond": {true, true, false, true, true}, "at far": {true, true, true, true, true},
		"state below": {true, true, false, true, true}, "state beyond": {true, false, true, true, true}, "no registers": {true, false, true, true, true},
		"three registers": {true, true, false, true, true}, "five registers": {true, true, true, true, true}, "a thread less": {true, true, false, true, true},
		"a thread more": {true, true, true, true, true}, "no threads": {false, false, false, true, true}, "a channel less": {true, true, true, true, false},
		"a channel more": {true, true, true, true, true}, "another cap": {true, true, true, true, false}, "no cap": {true, true, true, false, true},
		"too many numbers": {true, true, true, true, false}, "many channels": {true, true, true, false, false}, "none": {}, "many threads": {false, false, false, true, true},
	}
	sources := turnedSources()
	for what, want := range rows {
		s, ok := sources[what]
		if !ok {
			t.Fatal("no such source", what)
		}
		if got := [5]bool{impl.CoreSame(p, m, s, 0), impl.CoreSame(p, m, s, 1), impl.CoreSame(p, m, s, 2), impl.ChanSame(p, m, s, 0), impl.ChanSame(p, m, s, 1)}; got != want {
			t.Error(what, got, "not", want)
		}
	}
}

// Fewer and more registers than there should be: what is not there is not alike, not even where neither side has it;
// what is beyond is not asked.
func TestSameOfFewAndManyRegisters(t *testing.T) {
	p := impl.Prog{Bodies: [][]impl.Ins{endsOf(1)}}
	for core := range 10 {
		for thread := range 10 {
			m, _ := impl.Launch(p)
			s, _ := impl.SourceNew(p)
			m.Cores[0].Regs, s.Threads[0].Regs = []int{1, 2, 3, 4, 5, 6, 7, 8, 9}[:core], []int{1, 2, 3, 4, -5, -6, -7, -8, -9}[:thread]
			if got := beside(t, fmt.Sprint(core, thread), p, m, s); got != (core == 8 && thread == 4) {
				t.Error("same", core, thread, got)
			}
			if got := impl.CoreSame(p, m, s, 0); got != (core >= 4 && thread >= 4) {
				t.Error("core", core, thread, got)
			}
			m.Cores[0].State, s.Threads[0].State = impl.StEnd, impl.StEnd
			if !impl.CoreSame(p, m, s, 0) {
				t.Error("ended", core, thread)
			}
		}
	}
}

// Fewer and more cores and threads than bodies, fewer and more channels: machine and program are not the same.
func TestSameOfFewerAndMore(t *testing.T) {
	four := impl.Prog{Caps: []int{2, 1, 3}, Bodies: pairProg().Bodies}
	m, _ := impl.Launch(four)
	s, _ := impl.SourceNew(four)
	for bodies := 1; bodies <= 4; bodies++ {
		p := impl.Prog{Caps: four.Caps, Bodies: four.Bodies[:bodies]}
		for cores := range 5 {
			for threads := range 5 {
				few, less := cloneMachine(m), cloneSource(s)
				few.Codes, few.Cores, less.Threads = few.Codes[:cores], few.Cores[:cores], less.Threads[:threads]
				if beside(t, fmt.Sprint(bodies, cores, threads), p, few, less) != (bodies == cores && cores == threads) {
					t.Error(bodies, cores, threads)
				}
				for who := range 5 {
					if impl.CoreSame(p, few, less, who) != (who < bodies && who < cores && who < threads) {
						t.Error("core", who, "of", bodies, cores, threads)
					}
				}
			}
		}
	}
	for room := range 4 {
		for chans := range 4 {
			p, less := impl.Prog{Caps: four.Caps[:room], Bodies: slices.Repeat([][]impl.Ins{endsOf(1)}, 4)}, cloneSource(s)
			less.Chans = less.Chans[:chans]
			if beside(t, fmt.Sprint("channels ", room, chans), p, m, less) != (room == chans) {
				t.Error("channels", room, chans)
			}
			locked := cloneMachine(m)
			put(locked.Mem, 0, 1)
			for n := range 4 {
				there := n < room && n < chans
				if impl.ChanSame(p, m, less, n) != there || impl.ChanSame(p, locked, less, n) != there {
					t.Error("channel", n, "of", room, chans)
				}
			}
		}
	}
}

// Machines and sources of another program: a core stands at a step of the program that is asked for, whatever its code.
func TestSameOfAnotherProgram(t *testing.T) {
	progs := witnessProgs()
	for i, p := range progs {
		for k, q := range progs {
			next := picker(i*20 + k)
			picks := oddPicks(len(q.Bodies), 60, &next)
			order, m, _ := impl.Witness(q, picks)
			theirs, _ := impl.SourceNew(q)
			theirs, _ = impl.SourceRun(q, theirs, order)
			ours, _ := impl.SourceNew(p)
			what := fmt.Sprint(i, " ", k)
			beside(t, what, p, m, theirs)
			beside(t, what, p, m, ours)
			beside(t, what, q, m, ours)
		}
	}
	p := impl.Prog{Caps: []int{1}, Bodies: [][]impl.Ins{{{Op: impl.SrSet}, {Op: impl.SrClose}, {Op: impl.SrEnd}}}}
	few, _ := impl.Launch(impl.Prog{Bodies: [][]impl.Ins{endsOf(24)}})
	s, _ := impl.SourceNew(p)
	for at := range 24 {
		few.Cores[0].At = at
		place, there := map[int]int{0: 0, 1: 1, 14: 2}[at]
		if impl.Between(p, few, 0) != there {
			t.Error("between", at)
		}
		for s.Threads[0].At = range 3 {
			want := at < 15 && (!there || s.Threads[0].At == place)
			if beside(t, fmt.Sprint("ends ", at), p, few, s) != want || impl.CoreSame(p, few, s, 0) != want {
				t.Error("at", at, s.Threads[0].At, want)
			}
		}
	}
}

// A core that has ended or faulted at a step that belongs to no place is the same as nothing, though the thread has too.
func TestSameOfStepsThatThereAreNot(t *testing.T) {
	p := pairProg()
	s, _ := impl.SourceNew(p)
	m, _ := impl.Launch(p)
	for who := range 4 {
		for _, at := range slices.Concat([]int{-1, -2, 15, 16, 800, 1 << 32}, ends64) {
			for state := range 3 {
				d, e := cloneMachine(m), cloneSource(s)
				d.Cores[who].At, d.Cores[who].State, e.Threads[who].State = at, state, state
				if beside(t, fmt.Sprint(who, at, state), p, d, e) || impl.CoreSame(p, d, e, who) || impl.Between(p, d, who) {
					t.Error(who, at, state)
				}
			}
		}
	}
}

// eachSameCall calls look with programs, machines and sources, right ones and wrong ones, with room behind each list.
func eachSameCall(look func(p impl.Prog, m impl.Machine, s impl.Source)) {
	call := func(p impl.Prog, m impl.Machine, s impl.Source) { look(roomyProg(p), spareMachine(m), spareSource(s)) }
	for i, p := range witnessProgs() {
		next := picker(i)
		order, m, _ := impl.Witness(p, oddPicks(len(p.Bodies), 80, &next))
		s, _ := impl.SourceNew(p)
		call(p, m, s)
		s, _ = impl.SourceRun(p, s, order)
		call(p, m, s)
	}
	for i, d := range stands() {
		call(d.p, d.m, d.s)
		wrong := wrongProgs()
		if p := wrong[i%len(wrong)]; len(p.Bodies) < 100 {
			call(p, d.m, d.s)
		}
	}
	s, _ := impl.SourceNew(pairProg())
	for _, turn := range machineTurns() {
		m, _ := impl.Launch(pairProg())
		turn(&m)
		call(pairProg(), m, s)
	}
	p, right := workProg()
	for _, s := range turnedSources() {
		call(p, machineOf(p, right, 1), s)
	}
}

// Promise 18: nothing is written into an argument, nor into the room behind its lists, nor read there.
func TestChapterThirteenWritesIntoNoArgument(t *testing.T) {
	eachSameCall(func(p impl.Prog, m impl.Machine, s impl.Source) {
		prog, machine, source := wholeProg(p), wholeMachine(m), wholeSource(s)
		beside(t, "with room", p, m, s)
		if !reflect.DeepEqual(prog, wholeProg(p)) || !reflect.DeepEqual(machine, wholeMachine(m)) || !reflect.DeepEqual(source, wholeSource(s)) {
			t.Errorf("an argument was written into: %v", brief(p))
		}
	})
}

// Promise 18: from call to call the same, and of many calls at once; what was asked before is not kept.
func TestChapterThirteenAnswersTheSame(t *testing.T) {
	var all []stand
	eachSameCall(func(p impl.Prog, m impl.Machine, s impl.Source) { all = append(all, stand{"", p, m, s}) })
	want := make([][]bool, len(all))
	for i, d := range all {
		want[i] = sameAnswersOf(d.p, d.m, d.s)
	}
	var calls sync.WaitGroup
	same := make([]bool, 4)
	for k := range same {
		calls.Go(func() {
			same[k] = true
			for i := range all {
				at := (i*(2*k+1) + k) % len(all)
				same[k] = same[k] && slices.Equal(sameAnswersOf(all[at].p, all[at].m, all[at].s), want[at])
			}
		})
	}
	calls.Wait()
	if slices.Contains(same, false) {
		t.Error("another answer", same)
	}
}

// Promise 18: long lists are answered.
func TestChapterThirteenAnswersLongLists(t *testing.T) {
	long := impl.Prog{Caps: make([]int, 100000), Bodies: make([][]impl.Ins, 100000)}
	m := impl.Machine{Codes: make([][]impl.Step, 100000), Cores: make([]impl.Core, 100000), Trace: make([]impl.Note, 100000)}
	s := impl.Source{Threads: make([]impl.Thread, 100000), Chans: make([]impl.Chan, 100000), Trace: make([]impl.Note, 100000)}
	right := stands()[0]
	for _, p := range []impl.Prog{long, right.p} {
		for _, d := range []impl.Machine{m, right.m} {
			if beside(t, "long", p, d, s) {
				t.Error("long")
			}
			for _, who := range slices.Concat([]int{99999, 100000}, ends64) {
				if impl.Between(p, d, who) || impl.CoreSame(p, d, s, who) || impl.ChanSame(p, d, s, who) {
					t.Error("long", who)
				}
			}
		}
		beside(t, "a long machine", p, m, right.s)
	}
}
