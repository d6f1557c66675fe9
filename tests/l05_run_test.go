package tests

import (
	"math"
	"reflect"
	"slices"
	"testing"

	"loop.example/g00238/impl"
)

// runWanted is the document's SourceRun once more, step by step.
func runWanted(p impl.Prog, s impl.Source, picks []int) (impl.Source, []int) {
	if !sourceRight(p, s) || len(picks) > 4000 {
		return s, nil
	}
	codes := make([]int, len(picks))
	for i, who := range picks {
		s, codes[i] = stepWanted(p, s, who)
	}
	return s, codes
}

func ableWanted(p impl.Prog, s impl.Source) []int {
	out := []int{}
	for who := range p.Bodies {
		if _, code := stepWanted(p, s, who); code == 0 {
			out = append(out, who)
		}
	}
	return out
}

func stuckWanted(p impl.Prog, s impl.Source) bool {
	runs := func(th impl.Thread) bool { return th.State == 0 }
	return sourceRight(p, s) && len(ableWanted(p, s)) == 0 && slices.ContainsFunc(s.Threads, runs)
}

// fairWanted is Fair as a run: the picks of its rounds, and how many of the codes are 0.
func fairWanted(p impl.Prog, s impl.Source, rounds int) (impl.Source, int) {
	if !sourceRight(p, s) {
		return impl.Source{}, 0
	}
	done := 0
	for turn := 0; turn < rounds && turn < 200; turn++ {
		for who := range s.Threads {
			d, code := stepWanted(p, s, who)
			s = d
			if code == 0 {
				done++
			}
		}
	}
	return s, done
}

func saidWanted(s impl.Source, who int) []int {
	out := []int{}
	for i := range s.Trace {
		if s.Trace[i].Who == who {
			out = append(out, s.Trace[i].V)
		}
	}
	return out
}

// runs holds one run against what is wanted, and answers it.
func runs(t *testing.T, p impl.Prog, s impl.Source, picks []int) (impl.Source, []int) {
	t.Helper()
	got, codes := impl.SourceRun(p, s, picks)
	if want, wanted := runWanted(p, s, picks); !slices.Equal(codes, wanted) || !sameSource(got, want) {
		t.Errorf("%v of %v: %v %v, not %v %v", picks, s, got, codes, want, wanted)
	}
	return got, codes
}

// goes holds Able and Stuck against what is wanted.
func goes(t *testing.T, p impl.Prog, s impl.Source) {
	t.Helper()
	if able, want := impl.Able(p, s), ableWanted(p, s); !slices.Equal(able, want) {
		t.Errorf("able of %v: %v, not %v", s, able, want)
	}
	if stuck, want := impl.Stuck(p, s), stuckWanted(p, s); stuck != want {
		t.Errorf("stuck of %v: %v, not %v", s, stuck, want)
	}
}

// rounds holds Fair against what is wanted, and answers it.
func rounds(t *testing.T, p impl.Prog, s impl.Source, count int) (impl.Source, int) {
	t.Helper()
	got, done := impl.Fair(p, s, count)
	if want, wanted := fairWanted(p, s, count); done != wanted || !sameSource(got, want) {
		t.Errorf("%v rounds of %v: %v %v, not %v %v", count, s, got, done, want, wanted)
	}
	return got, done
}

// A picker picks threads, and now and then one that is none, always the same ones from the same start.
type picker uint64

func (k *picker) pick(threads int) int {
	*k = *k*6364136223846793005 + 1442695040888963407
	n := int(*k>>40) % (8*threads + 2)
	switch n {
	case 8 * threads:
		return -1
	case 8*threads + 1:
		return threads
	}
	return n % threads
}

func (k *picker) picks(threads int, count int) []int {
	out := make([]int, count)
	for i := range out {
		out[i] = k.pick(threads)
	}
	return out
}

func TestNumbersOfChapterFive(t *testing.T) {
	if impl.MaxPicks != 4000 {
		t.Error(impl.MaxPicks)
	}
}

// lineProg: thread 0 sends two numbers and closes, thread 1 prints what comes, thread 2 closes too late.
func lineProg() impl.Prog {
	return impl.Prog{Caps: []int{1}, Bodies: [][]impl.Ins{
		{{Op: impl.SrSet, R: 0, N: 7}, {Op: impl.SrSend, A: 0}, {Op: impl.SrSend, A: 1}, {Op: impl.SrClose}, {Op: impl.SrEnd}},
		{{Op: impl.SrTake, R: 2, B: 3}, {Op: impl.SrZero, A: 3, N: 4}, {Op: impl.SrPrint, A: 2}, {Op: impl.SrJump}, {Op: impl.SrEnd}},
		{{Op: impl.SrClose}, {Op: impl.SrEnd}}}}
}

// A run whose picks answer each code but PkBad, with what becomes of it written out.
func TestRunOfEachCode(t *testing.T) {
	p := lineProg()
	s, _ := impl.SourceNew(p)
	rows := [][2]int{{1, impl.PkWait}, {0, impl.PkDone}, {0, impl.PkDone}, {0, impl.PkWait}, {-1, impl.PkNone}, {1, impl.PkDone}, {1, impl.PkDone}, {0, impl.PkDone},
		{1, impl.PkDone}, {3, impl.PkNone}, {0, impl.PkDone}, {0, impl.PkDone}, {0, impl.PkOver}, {2, impl.PkDone}, {2, impl.PkOver}, {1, impl.PkDone}, {1, impl.PkDone}}
	var picks, want []int
	for _, row := range rows {
		picks, want = append(picks, row[0]), append(want, row[1])
	}
	got, codes := impl.SourceRun(p, s, picks)
	if !slices.Equal(codes, want) {
		t.Error("codes", codes)
	}
	then := impl.Source{Threads: []impl.Thread{{At: 4, Regs: []int{7, 0, 0, 0}, State: 1}, {At: 1, Regs: []int{0, 0, 0, 1}}, {Regs: []int{0, 0, 0, 0}, State: 2}},
		Chans: []impl.Chan{{Cap: 1, Closed: true}}, Trace: []impl.Note{{Who: 1, V: 7}}}
	if !sameSource(got, then) {
		t.Error("source", got)
	}
}

// A run is its steps, one behind the other, whatever the picks are.
func TestRunsAsTold(t *testing.T) {
	next, codes := picker(3), map[int]int{}
	eachProg(func(p impl.Prog) {
		s, _ := impl.SourceNew(p)
		_, list := runs(t, p, s, next.picks(len(p.Bodies), 40))
		for _, code := range list {
			codes[code]++
		}
	})
	eachStep(func(p impl.Prog, s impl.Source, who int) {
		runs(t, p, s, []int{who, who, 1, 0, 2})
	})
	if len(codes) != 4 || codes[impl.PkBad] != 0 {
		t.Error("codes", codes)
	}
}

// Promise 5: two runs of halves are the run, wherever it is cut.
func TestHalvesAreTheRun(t *testing.T) {
	next, turn := picker(5), 0
	eachProg(func(p impl.Prog) {
		turn++
		if turn%3 != 0 {
			return
		}
		s, _ := impl.SourceNew(p)
		picks := next.picks(len(p.Bodies), 24)
		whole, codes := impl.SourceRun(p, s, picks)
		for cut := range len(picks) + 1 {
			half, first := impl.SourceRun(p, s, picks[:cut])
			end, second := impl.SourceRun(p, half, picks[cut:])
			if !sameSource(end, whole) || !slices.Equal(slices.Concat(first, second), codes) || len(first) != cut {
				t.Fatal("cut", cut, p, picks, end, whole)
			}
		}
	})
}

// Halves of MaxPicks picks, through a trace that is full on the way.
func TestHalvesOfLongRuns(t *testing.T) {
	p := impl.Prog{Caps: []int{2}, Bodies: [][]impl.Ins{{{Op: impl.SrPrint}, {Op: impl.SrPrint, A: 1}, {Op: impl.SrAdd, R: 1, A: 1, B: 2}, {Op: impl.SrJump}}, {{Op: impl.SrSend}, {Op: impl.SrJump}},
		{{Op: impl.SrTake, R: 0, B: 1}, {Op: impl.SrPrint, A: 1}, {Op: impl.SrJump}}}}
	s, _ := impl.SourceNew(p)
	s.Threads[0].Regs[2] = math.MaxInt / 2
	s.Trace = slices.Repeat([]impl.Note{{Who: 1, V: 5}}, 3000)
	next := picker(9)
	picks := next.picks(3, impl.MaxPicks)
	whole, codes := impl.SourceRun(p, s, picks)
	if len(codes) != impl.MaxPicks || len(whole.Trace) != impl.MaxTrace || !slices.Contains(codes, impl.PkOver) || !slices.Contains(codes, impl.PkWait) {
		t.Fatal(len(codes), len(whole.Trace))
	}
	for _, cut := range []int{0, 1, 1999, 2000, 2001, 3999, 4000} {
		half, first := impl.SourceRun(p, s, picks[:cut])
		end, second := impl.SourceRun(p, half, picks[cut:])
		if !sameSource(end, whole) || !slices.Equal(slices.Concat(first, second), codes) {
			t.Error("cut", cut)
		}
	}
}

func TestNoPicks(t *testing.T) {
	eachStep(func(p impl.Prog, s impl.Source, who int) {
		for _, picks := range [][]int{nil, {}} {
			if d, codes := impl.SourceRun(p, s, picks); len(codes) != 0 || !sameSource(d, s) {
				t.Error(s, d, codes)
			}
		}
	})
}

func TestPicksOfNobody(t *testing.T) {
	p, s := workProg()
	none := []int{-1, 3, 4, -3, math.MinInt, math.MaxInt}
	d, codes := impl.SourceRun(p, s, none)
	if !sameSource(d, s) || !slices.Equal(codes, slices.Repeat([]int{impl.PkNone}, len(none))) {
		t.Error(d, codes)
	}
	d, codes = runs(t, p, s, []int{3, 2, -1, 1, 4, 1, 0, 3, 2, 2})
	if !slices.Equal(codes, []int{impl.PkNone, impl.PkDone, impl.PkNone, impl.PkDone, impl.PkNone, impl.PkOver, impl.PkOver, impl.PkNone, impl.PkDone, impl.PkOver}) {
		t.Error(codes)
	}
	if !slices.Equal(d.Trace[2:], []impl.Note{{Who: 2, V: 4}}) {
		t.Error(d)
	}
}

func TestPicksAtTheLimit(t *testing.T) {
	p := impl.Prog{Bodies: [][]impl.Ins{{{Op: impl.SrAdd, R: 0, A: 0, B: 1}, {Op: impl.SrJump}}, endsOf(1)}}
	s, _ := impl.SourceNew(p)
	s.Threads[0].Regs[1] = 3
	for _, count := range []int{0, 1, 3999, 4000, 4001, 4002, 8000, 100000} {
		for _, last := range []int{0, 1, 2, -1} {
			picks := make([]int, count)
			if count > 0 {
				picks[count-1] = last
			}
			d, codes := impl.SourceRun(p, s, picks)
			if count > 4000 {
				if !sameSource(d, s) || len(codes) != 0 {
					t.Error("more", count, last, d, len(codes))
				}
				continue
			}
			turns := count
			if last != 0 && count > 0 {
				turns--
			}
			if len(codes) != count || d.Threads[0].At != turns%2 || d.Threads[0].Regs[0] != 3*((turns+1)/2) {
				t.Error("as many", count, last, d, len(codes))
			}
		}
	}
}

// mixedProg: of its threads at place 0, thread 0 would send, 1 would take, 2 would print, 3 tries.
func mixedProg() (impl.Prog, impl.Source) {
	p := impl.Prog{Caps: []int{1, 2}, Bodies: [][]impl.Ins{
		{{Op: impl.SrSend, A: 1, N: 0}, {Op: impl.SrEnd}},
		{{Op: impl.SrTake, R: 1, B: 2, N: 1}, {Op: impl.SrEnd}},
		{{Op: impl.SrPrint, A: 3}, {Op: impl.SrEnd}},
		{{Op: impl.SrTryTake, R: 0, B: 1, N: 1}, {Op: impl.SrTrySend, R: 0, A: 1, N: 0}, {Op: impl.SrEnd}}}}
	s, _ := impl.SourceNew(p)
	return p, s
}

// Who is able of four, with each of them running, ended or faulted, channels empty, full or closed, and a trace with room or full.
func TestAbleOfSeveral(t *testing.T) {
	p, from := mixedProg()
	counts := map[int]int{}
	for states := range 81 {
		for how := range 16 {
			s := cloneSource(from)
			for who, unit := range []int{1, 3, 9, 27} {
				s.Threads[who].State = states / unit % 3
			}
			can := []bool{true, false, true, true}
			if how&1 != 0 {
				s.Chans[0].List = []int{6}
				can[0] = false
			}
			if how&2 != 0 {
				s.Chans[0].Closed = true
				can[0] = true
			}
			if how&4 != 0 {
				s.Chans[1].Closed = true
				can[1] = true
			}
			if how&8 != 0 {
				s.Trace = make([]impl.Note, 4000)
				can[2] = false
			}
			var want []int
			for who := range can {
				if can[who] && s.Threads[who].State == impl.StRun {
					want = append(want, who)
				}
			}
			able, stuck := impl.Able(p, s), impl.Stuck(p, s)
			if !slices.Equal(able, want) {
				t.Error("able", states, how, able, want)
			}
			runs := slices.ContainsFunc(s.Threads, func(th impl.Thread) bool { return th.State == impl.StRun })
			if stuck != (runs && len(want) == 0) {
				t.Error("stuck", states, how, stuck)
			}
			if stuck {
				counts[-1]++
			}
			counts[len(able)]++
		}
	}
	for _, kind := range []int{-1, 0, 1, 2, 3, 4} {
		if counts[kind] == 0 {
			t.Error("never met", kind, counts)
		}
	}
}

func TestAbleAndStuckAsTold(t *testing.T) {
	eachStep(func(p impl.Prog, s impl.Source, who int) {
		for state := range 3 {
			d := cloneSource(s)
			d.Threads[who].State = state
			goes(t, p, d)
		}
		for i := range s.Threads {
			if i != who {
				s.Threads[i].State = 1 + i%2
			}
		}
		goes(t, p, s)
	})
}

// Promise 5: along runs, stuck is where no step is done and somebody runs; from there on nothing goes on.
func TestStuckStays(t *testing.T) {
	next, stuck, rest := picker(11), 0, 0
	eachProg(func(p impl.Prog) {
		s, _ := impl.SourceNew(p)
		for range 8 {
			goes(t, p, s)
			s, _ = impl.SourceRun(p, s, next.picks(len(p.Bodies), 6))
		}
		s, _ = impl.Fair(p, s, 200)
		goes(t, p, s)
		all := next.picks(len(p.Bodies), 20)
		end, codes := impl.SourceRun(p, s, all)
		switch {
		case impl.Stuck(p, s):
			stuck++
			if !sameSource(end, s) || slices.Contains(codes, impl.PkDone) || !impl.Stuck(p, end) {
				t.Error("stuck and goes on", p, s, codes)
			}
			if d, done := impl.Fair(p, s, 200); done != 0 || !sameSource(d, s) {
				t.Error("stuck and rounds", p, s, done)
			}
		case len(impl.Able(p, s)) == 0:
			rest++
			if slices.ContainsFunc(s.Threads, func(th impl.Thread) bool { return th.State == impl.StRun }) {
				t.Error("at rest, and somebody runs", p, s)
			}
		}
	})
	if stuck == 0 || rest == 0 {
		t.Error("never met", stuck, rest)
	}
}

func TestStuckWhoWouldAndCannot(t *testing.T) {
	take := []impl.Ins{{Op: impl.SrTake, R: 0, B: 1}, {Op: impl.SrEnd}}
	send := []impl.Ins{{Op: impl.SrSend}, {Op: impl.SrEnd}}
	says := []impl.Ins{{Op: impl.SrPrint}, {Op: impl.SrEnd}}
	full, none, shut := impl.Chan{Cap: 1, List: []int{3}}, impl.Chan{Cap: 1}, impl.Chan{Cap: 1, Closed: true}
	rows := []struct {
		name   string
		bodies [][]impl.Ins
		states []int
		c      impl.Chan
		notes  int
		able   []int
		stuck  bool
	}{
		{"nobody takes", [][]impl.Ins{send, send}, []int{0, 0}, full, 0, nil, true},
		{"nobody sends", [][]impl.Ins{take, take, take}, []int{0, 0, 0}, none, 0, nil, true},
		{"nobody sends any more", [][]impl.Ins{send, take}, []int{1, 0}, none, 0, nil, true},
		{"whoever would send faulted", [][]impl.Ins{take, send}, []int{0, 2}, none, 0, nil, true},
		{"the last waits", [][]impl.Ins{send, send, send, take}, []int{1, 2, 1, 0}, none, 0, nil, true},
		{"the first waits", [][]impl.Ins{take, send, send, send}, []int{0, 2, 1, 1}, none, 0, nil, true},
		{"nobody runs", [][]impl.Ins{take, send}, []int{1, 2}, none, 0, nil, false},
		{"all have ended", [][]impl.Ins{take, take}, []int{1, 1}, none, 0, nil, false},
		{"the only one faulted", [][]impl.Ins{send}, []int{2}, full, 0, nil, false},
		{"one sends", [][]impl.Ins{take, send}, []int{0, 0}, none, 0, []int{1}, false},
		{"one takes", [][]impl.Ins{take, send}, []int{0, 0}, full, 0, []int{0}, false},
		{"all take", [][]impl.Ins{take, take, take}, []int{0, 0, 0}, shut, 0, []int{0, 1, 2}, false},
		{"a fault is done", [][]impl.Ins{send, take}, []int{0, 1}, shut, 0, []int{0}, false},
		{"the last goes on", [][]impl.Ins{take, take, take, says}, []int{0, 0, 0, 0}, none, 3999, []int{3}, false},
		{"no room for notes", [][]impl.Ins{says}, []int{0}, none, 4000, nil, true},
		{"no room and waits", [][]impl.Ins{says, take}, []int{0, 0}, none, 4000, nil, true},
		{"no room, one takes", [][]impl.Ins{says, take}, []int{0, 0}, full, 4000, []int{1}, false},
		{"no room, and has ended", [][]impl.Ins{says}, []int{1}, none, 4000, nil, false},
	}
	for _, row := range rows {
		p := impl.Prog{Caps: []int{1}, Bodies: row.bodies}
		s := impl.Source{Chans: []impl.Chan{row.c}, Trace: make([]impl.Note, row.notes)}
		for _, state := range row.states {
			s.Threads = append(s.Threads, impl.Thread{Regs: []int{1, 2, 3, 4}, State: state})
		}
		if able := impl.Able(p, s); !slices.Equal(able, row.able) {
			t.Error(row.name, "able", able)
		}
		if stuck := impl.Stuck(p, s); stuck != row.stuck {
			t.Error(row.name, "stuck", stuck)
		}
	}
}

// In a round each has one step, ascending: whoever is ahead has sent when the next takes.
func TestRoundsGoUp(t *testing.T) {
	send := []impl.Ins{{Op: impl.SrSend, A: 0}, {Op: impl.SrPrint, A: 0}, {Op: impl.SrEnd}}
	take := []impl.Ins{{Op: impl.SrTake, R: 0, B: 1}, {Op: impl.SrPrint, A: 0}, {Op: impl.SrEnd}}
	for _, row := range []struct {
		bodies [][]impl.Ins
		done   []int
		whos   []int
	}{
		{[][]impl.Ins{send, take}, []int{0, 2, 4, 6, 6, 6}, []int{0, 1}},
		{[][]impl.Ins{take, send}, []int{0, 1, 3, 5, 6, 6}, []int{1, 0}},
		{[][]impl.Ins{take, send, take, send}, []int{0, 3, 7, 11, 12, 12}, []int{1, 2, 3, 0}},
	} {
		p := impl.Prog{Caps: []int{1}, Bodies: row.bodies}
		s, _ := impl.SourceNew(p)
		for who := range s.Threads {
			s.Threads[who].Regs[0] = 10 + who
		}
		for count, want := range row.done {
			d, done := rounds(t, p, s, count)
			if done != want {
				t.Error(count, "rounds", done, "not", want, d)
			}
			if count == len(row.done)-1 {
				var whos []int
				for _, note := range d.Trace {
					whos = append(whos, note.Who)
				}
				if !slices.Equal(whos, row.whos) {
					t.Error("notes", d.Trace)
				}
			}
		}
	}
}

// Rounds in which one goes on, one waits, one has ended and one faults.
func TestRoundsInWhichSomeWait(t *testing.T) {
	p := impl.Prog{Caps: []int{1, 1}, Bodies: [][]impl.Ins{
		{{Op: impl.SrAdd, R: 0, A: 0, B: 1}, {Op: impl.SrPrint, A: 0}, {Op: impl.SrJump}},
		{{Op: impl.SrTake, R: 0, B: 1, N: 0}, {Op: impl.SrEnd}},
		endsOf(1),
		{{Op: impl.SrClose, N: 1}, {Op: impl.SrSend, N: 1}, {Op: impl.SrEnd}}}}
	s, _ := impl.SourceNew(p)
	s.Threads[0].Regs[1] = 2
	for count, want := range []int{0, 3, 5, 6, 7, 8, 9} {
		d, done := rounds(t, p, s, count)
		if done != want || d.Threads[1].State != impl.StRun || d.Threads[1].At != 0 {
			t.Error(count, done, d)
		}
		if count >= 2 && (d.Threads[2].State != impl.StEnd || d.Threads[3].State != impl.StFault || d.Threads[3].At != 1) {
			t.Error(count, d)
		}
	}
}

func TestRoundsAtTheLimit(t *testing.T) {
	var p impl.Prog
	for range 3 {
		p.Bodies = append(p.Bodies, []impl.Ins{{Op: impl.SrAdd, R: 0, A: 0, B: 1}, {Op: impl.SrJump}})
	}
	s, _ := impl.SourceNew(p)
	for who := range s.Threads {
		s.Threads[who].Regs[1] = who + 1
	}
	counts := map[int]int{math.MinInt: 0, -200: 0, -1: 0, 0: 0, 1: 1, 2: 2, 199: 199, 200: 200, 201: 200, 202: 200, 100000: 200, math.MaxInt: 200}
	for asked, had := range counts {
		d, done := impl.Fair(p, s, asked)
		if done != 3*had {
			t.Error(asked, "done", done)
		}
		for who, th := range d.Threads {
			if th.At != had%2 || !slices.Equal(th.Regs, []int{(who + 1) * ((had + 1) / 2), who + 1, 0, 0}) {
				t.Error(asked, who, th)
			}
		}
		if had == 0 && !sameSource(d, s) {
			t.Error("no round", asked, d)
		}
	}
}

func TestRoundsAsTold(t *testing.T) {
	eachProg(func(p impl.Prog) {
		s, _ := impl.SourceNew(p)
		for _, count := range []int{-1, 0, 1, 2, 7} {
			rounds(t, p, s, count)
		}
	})
	eachStep(func(p impl.Prog, s impl.Source, who int) { rounds(t, p, s, 2) })
}

// Rounds are a run, and rounds behind rounds are the rounds.
func TestRoundsAreARun(t *testing.T) {
	eachProg(func(p impl.Prog) {
		s, _ := impl.SourceNew(p)
		var once []int
		for who := range p.Bodies {
			once = append(once, who)
		}
		const count = 17
		whole, done := impl.Fair(p, s, count)
		run, codes := impl.SourceRun(p, s, slices.Repeat(once, count))
		for _, code := range codes {
			if code == impl.PkDone {
				done--
			}
		}
		if done != 0 || !sameSource(run, whole) {
			t.Error("run", p, done)
		}
		half, first := impl.Fair(p, s, 5)
		end, second := impl.Fair(p, half, count-5)
		if _, all := impl.Fair(p, s, count); first+second != all || !sameSource(end, whole) {
			t.Error("halves", p, first, second, all)
		}
	})
}

// Where there are MaxTrace notes whoever would print stays, and the others go on.
func TestRunsWithoutRoom(t *testing.T) {
	p := impl.Prog{Caps: []int{1}, Bodies: [][]impl.Ins{
		{{Op: impl.SrPrint}, {Op: impl.SrJump}}, {{Op: impl.SrSet, N: 4}, {Op: impl.SrJump}}, {{Op: impl.SrPrint, A: 1}, {Op: impl.SrSend}, {Op: impl.SrEnd}}}}
	for _, room := range []int{0, 1, 2, 3} {
		s, _ := impl.SourceNew(p)
		s.Trace = slices.Repeat([]impl.Note{{Who: 1, V: 8}}, 4000-room)
		d, codes := runs(t, p, s, []int{0, 0, 0, 1, 2, 0, 1, 0})
		want := [][]int{{3, 3, 3, 0, 3, 3, 0, 3}, {0, 0, 3, 0, 3, 3, 0, 3}, {0, 0, 0, 0, 3, 0, 0, 3}, {0, 0, 0, 0, 0, 0, 0, 3}}[room]
		if !slices.Equal(codes, want) || len(d.Trace) != 4000 {
			t.Error(room, codes, len(d.Trace))
		}
		if able := impl.Able(p, d); !slices.Equal(able, [][]int{{1}, {1}, {1}, {1, 2}}[room]) || impl.Stuck(p, d) {
			t.Error(room, "able", able)
		}
		d.Threads[1].State, d.Threads[2].State = impl.StEnd, impl.StEnd
		if able := impl.Able(p, d); len(able) != 0 || !impl.Stuck(p, d) {
			t.Error(room, "stuck", able)
		}
		e, done := rounds(t, p, s, 200)
		if steps := []int{200, 202, 205, 207}[room]; done != steps || len(e.Trace) != 4000 {
			t.Error(room, "rounds", done, len(e.Trace))
		}
	}
}

func TestSaidInOrder(t *testing.T) {
	lo, hi := math.MinInt, math.MaxInt
	s := impl.Source{Threads: make([]impl.Thread, 4), Trace: []impl.Note{{Who: 2, V: 5}, {Who: 0, V: lo}, {Who: 2, V: 5}, {Who: 2, V: -1}, {Who: 0, V: 0}, {Who: 3, V: 9}, {Who: 2, V: hi}}}
	for who, want := range [][]int{{lo, 0}, nil, {5, 5, -1, hi}, {9}} {
		if said := impl.Said(s, who); !slices.Equal(said, want) {
			t.Error(who, said)
		}
	}
	for _, who := range []int{-1, 4, 5, 9, lo, hi} {
		if said := impl.Said(s, who); len(said) != 0 {
			t.Error("nobody", who, said)
		}
	}
	for _, who := range []int{lo, -1, 0, 1, hi} {
		if said := impl.Said(impl.Source{}, who); len(said) != 0 {
			t.Error("nothing", who, said)
		}
	}
}

func TestSaidOfRuns(t *testing.T) {
	said := 0
	eachProg(func(p impl.Prog) {
		s, _ := impl.SourceNew(p)
		s, _ = impl.Fair(p, s, 30)
		count := 0
		for who := -1; who <= len(p.Bodies); who++ {
			list := impl.Said(s, who)
			if !slices.Equal(list, saidWanted(s, who)) {
				t.Error(p, who, list)
			}
			count += len(list)
		}
		if count != len(s.Trace) {
			t.Error("notes of nobody", p, s.Trace)
		}
		said += count
	})
	if said == 0 {
		t.Error("nobody printed")
	}
	full := impl.Source{Trace: make([]impl.Note, 4000)}
	for i := range full.Trace {
		full.Trace[i] = impl.Note{Who: i % 4, V: i}
	}
	for who := range 4 {
		if list := impl.Said(full, who); len(list) != 1000 || list[0] != who || list[999] != 3996+who {
			t.Error("full", who, len(list))
		}
	}
}

// A trace that no program made is answered by its notes alone, however long.
func TestSaidOfAnyTrace(t *testing.T) {
	s := impl.Source{Trace: slices.Repeat([]impl.Note{{Who: 1, V: 3}, {Who: 7, V: 4}, {Who: -1, V: 5}}, 3000)}
	for who, v := range map[int]int{1: 3, 7: 4, -1: 5} {
		if said := impl.Said(s, who); !slices.Equal(said, slices.Repeat([]int{v}, 3000)) {
			t.Error(who, len(said))
		}
	}
}

// noRun asks what each of the chapter's functions answers of what is not SourceOk.
func noRun(t *testing.T, what string, p impl.Prog, s impl.Source) {
	t.Helper()
	for _, picks := range [][]int{nil, {0}, {0, 1, 2, -1, 9}, make([]int, 4000), make([]int, 4001)} {
		if d, codes := impl.SourceRun(p, s, picks); len(codes) != 0 || !sameSource(d, s) {
			t.Error(what, "run", len(picks), len(codes))
		}
	}
	if able := impl.Able(p, s); len(able) != 0 {
		t.Error(what, "able", able)
	}
	if impl.Stuck(p, s) {
		t.Error(what, "stuck")
	}
	for _, count := range []int{math.MinInt, -1, 0, 1, 200, 201, math.MaxInt} {
		if d, done := impl.Fair(p, s, count); done != 0 || !zeroSource(d) {
			t.Error(what, "rounds", count, done)
		}
	}
}

func TestRunsOfNoProgram(t *testing.T) {
	_, s := workProg()
	for _, p := range wrongProgs() {
		noRun(t, "no program", p, loose(p))
		noRun(t, "no program, no source", p, impl.Source{})
		noRun(t, "no program, another's source", p, s)
	}
}

// turnedSources are workProg's source, each time with one thing in it that is not as it should be.
func turnedSources() map[string]impl.Source {
	turns := map[string]func(*impl.Source){
		"none":                 func(s *impl.Source) { *s = impl.Source{} },
		"at below":             func(s *impl.Source) { s.Threads[1].At = -1 },
		"at beyond":            func(s *impl.Source) { s.Threads[2].At = 2 },
		"at far":               func(s *impl.Source) { s.Threads[0].At = math.MaxInt },
		"state below":          func(s *impl.Source) { s.Threads[2].State = -1 },
		"state beyond":         func(s *impl.Source) { s.Threads[1].State = 3 },
		"no registers":         func(s *impl.Source) { s.Threads[1].Regs = nil },
		"three registers":      func(s *impl.Source) { s.Threads[2].Regs = []int{1, 2, 3} },
		"five registers":       func(s *impl.Source) { s.Threads[0].Regs = []int{1, 2, 3, 4, 5} },
		"many registers":       func(s *impl.Source) { s.Threads[0].Regs = make([]int, 50000) },
		"a thread less":        func(s *impl.Source) { s.Threads = s.Threads[:2] },
		"a thread more":        func(s *impl.Source) { s.Threads = append(s.Threads, impl.Thread{Regs: make([]int, 4)}) },
		"no threads":           func(s *impl.Source) { s.Threads = nil },
		"many threads":         func(s *impl.Source) { s.Threads = make([]impl.Thread, 50000) },
		"a channel less":       func(s *impl.Source) { s.Chans = s.Chans[:1] },
		"a channel more":       func(s *impl.Source) { s.Chans = append(s.Chans, impl.Chan{Cap: 2}) },
		"many channels":        func(s *impl.Source) { s.Chans = make([]impl.Chan, 50000) },
		"another cap":          func(s *impl.Source) { s.Chans[1].Cap = 4 },
		"no cap":               func(s *impl.Source) { s.Chans[0].Cap = 0 },
		"too many numbers":     func(s *impl.Source) { s.Chans[1].List = []int{1, 2, 3, 4} },
		"a note of nobody":     func(s *impl.Source) { s.Trace[1].Who = 3 },
		"a note of nobody, -1": func(s *impl.Source) { s.Trace[0].Who = -1 },
		"too many notes":       func(s *impl.Source) { s.Trace = make([]impl.Note, 4001) },
		"far too many notes":   func(s *impl.Source) { s.Trace = make([]impl.Note, 50000) },
	}
	out := map[string]impl.Source{}
	for what, turn := range turns {
		_, s := workProg()
		turn(&s)
		out[what] = s
	}
	return out
}

func TestRunsOfNoSource(t *testing.T) {
	p, _ := workProg()
	for what, s := range turnedSources() {
		noRun(t, what, p, s)
	}
	q, s := mixedProg()
	noRun(t, "another's source", p, s)
	_, s = workProg()
	noRun(t, "another's source", q, s)
}

// eachRun calls look with programs, sources and picks, right ones and wrong ones.
func eachRun(look func(p impl.Prog, s impl.Source, picks []int)) {
	next, turn := picker(21), 0
	eachCall(func(p impl.Prog, s impl.Source, who int) {
		turn++
		if turn%5 == 0 {
			look(p, s, append([]int{who}, next.picks(3, turn%9)...))
		}
	})
	p, s := workProg()
	for _, count := range []int{0, 1, 4000, 4001} {
		look(p, s, make([]int, count))
	}
	for _, s := range turnedSources() {
		look(p, s, []int{1, 2, 0})
	}
	look(impl.Prog{}, s, []int{1, 2, 0})
}

// runAnswers are the answers of all that the chapter has, for one program, source and picks.
type runAnswers struct {
	run   impl.Source
	codes []int
	able  []int
	stuck bool
	fair  impl.Source
	done  int
	said  []int
}

func answersOf(p impl.Prog, s impl.Source, picks []int) runAnswers {
	var a runAnswers
	a.run, a.codes = impl.SourceRun(p, s, picks)
	a.able, a.stuck = impl.Able(p, s), impl.Stuck(p, s)
	a.fair, a.done = impl.Fair(p, s, 3)
	a.said = impl.Said(s, 2)
	return a
}

func wantedOf(p impl.Prog, s impl.Source, picks []int) runAnswers {
	var a runAnswers
	a.run, a.codes = runWanted(p, s, picks)
	a.able, a.stuck = ableWanted(p, s), stuckWanted(p, s)
	a.fair, a.done = fairWanted(p, s, 3)
	a.said = saidWanted(s, 2)
	return a
}

func sameAnswers(a runAnswers, b runAnswers) bool {
	return sameSource(a.run, b.run) && slices.Equal(a.codes, b.codes) && slices.Equal(a.able, b.able) && a.stuck == b.stuck &&
		sameSource(a.fair, b.fair) && a.done == b.done && slices.Equal(a.said, b.said)
}

func writeOverAnswers(a runAnswers) {
	writeOverSource(a.run)
	writeOverSource(a.fair)
	for _, list := range [][]int{a.codes, a.able, a.said} {
		scribble(list)
	}
}

// Promise 18: nothing is written into an argument, nor behind it, nor read there.
func TestChapterFiveWritesIntoNoArgument(t *testing.T) {
	eachRun(func(p impl.Prog, s impl.Source, picks []int) {
		spare, behind := spareSource(s), append(slices.Clone(picks), 0, 1, 2)
		before, prog, list := wholeSource(spare), wholeProg(p), slices.Clone(behind)
		got := answersOf(p, spare, behind[:len(picks)])
		if !reflect.DeepEqual(before, wholeSource(spare)) || !reflect.DeepEqual(prog, wholeProg(p)) || !slices.Equal(list, behind) {
			t.Error("written into", p, len(picks))
		}
		if !sameAnswers(got, wantedOf(p, s, picks)) {
			t.Error("read behind the list", p, len(picks))
		}
	})
	unwritten(t, func(p impl.Prog, right bool) {
		s := loose(p)
		got := answersOf(p, s, []int{0, 1, 0})
		if (len(got.codes) == 3) != right || (len(got.able) == 2) != right || got.stuck || (got.done > 0) != right {
			t.Error("answer", p, got)
		}
	})
}

// Promise 18: an answer is new memory, and nothing is kept between calls.
func TestChapterFiveAnswersNewMemory(t *testing.T) {
	eachRun(func(p impl.Prog, s impl.Source, picks []int) {
		spare, own := spareSource(s), slices.Clone(picks)
		before, prog, want := wholeSource(spare), wholeProg(p), wantedOf(p, cloneSource(s), picks)
		first, second := answersOf(p, spare, own), answersOf(p, spare, own)
		writeOverAnswers(first)
		if !reflect.DeepEqual(before, wholeSource(spare)) || !reflect.DeepEqual(prog, wholeProg(p)) || !slices.Equal(own, picks) {
			t.Error("the answer lies in the argument", p, len(picks))
		}
		if !sameAnswers(second, want) {
			t.Error("two answers share memory", p, len(picks))
		}
		writeOverSource(spare)
		scribble(own)
		if !sameAnswers(second, want) {
			t.Error("the argument lies in the answer", p, len(picks))
		}
		scribble(second.codes)
		if !sameSource(second.run, want.run) {
			t.Error("codes lie in the source", p, len(picks))
		}
		if len(innerLists(second.run)) < 100 {
			listsLieApart(t, second.run)
			listsLieApart(t, second.fair)
		}
		if !sameAnswers(answersOf(p, s, picks), want) {
			t.Error("something was kept", p, len(picks))
		}
	})
}

// Promise 18: what is run from one source twice makes two sources.
func TestRunsGoApart(t *testing.T) {
	p := impl.Prog{Caps: []int{4}, Bodies: [][]impl.Ins{{{Op: impl.SrPrint}, {Op: impl.SrSend}, {Op: impl.SrJump}}, {{Op: impl.SrSet, N: 8}, {Op: impl.SrPrint}, {Op: impl.SrSend}, {Op: impl.SrEnd}}}}
	s, _ := impl.SourceNew(p)
	s, _ = impl.SourceRun(p, s, []int{0, 0, 0, 1, 0})
	a, _ := impl.SourceRun(p, s, []int{0, 0, 0})
	b, _ := impl.SourceRun(p, s, []int{1, 1})
	c, _ := impl.Fair(p, s, 2)
	notes := func(list []impl.Note, vs ...int) bool {
		var got []int
		for _, note := range list {
			got = append(got, note.V)
		}
		return slices.Equal(got, vs)
	}
	if !notes(s.Trace, 0, 0) || !notes(a.Trace, 0, 0, 0) || !notes(b.Trace, 0, 0, 8) || !notes(c.Trace, 0, 0, 8) {
		t.Error(s.Trace, a.Trace, b.Trace, c.Trace)
	}
	if !slices.Equal(s.Chans[0].List, []int{0}) || !slices.Equal(a.Chans[0].List, []int{0, 0}) || !slices.Equal(b.Chans[0].List, []int{0, 8}) || !slices.Equal(c.Chans[0].List, []int{0, 0, 8}) {
		t.Error(s.Chans, a.Chans, b.Chans, c.Chans)
	}
}
