package tests

import (
	"fmt"
	"math"
	"reflect"
	"runtime"
	"slices"
	"strings"
	"sync"
	"testing"
	"time"

	"loop.example/g00238/impl"
)

// judgeNames are the functions of chapter 14, in its order.
var judgeNames = [5]string{"trace", "same", "late", "locks", "all"}

var allHold, noneHolds = [5]bool{true, true, true, true, true}, [5]bool{}

// judgesOf are what the functions of chapter 14 tell, in its order.
func judgesOf(p impl.Prog, picks []impl.Pick) [5]bool {
	return [5]bool{impl.JudgeTrace(p, picks), impl.JudgeSame(p, picks), impl.JudgeLate(p, picks), impl.JudgeLocks(p, picks), impl.JudgeAll(p, picks)}
}

// allLate are the picks with one Late for all.
func allLate(picks []impl.Pick, late int) []impl.Pick {
	list := slices.Clone(picks)
	for i := range list {
		list[i].Late = late
	}
	return list
}

func inTime(picks []impl.Pick) []impl.Pick { return allLate(picks, 0) }

// coresWanted asks whether two machines have the same registers and places.
func coresWanted(a []impl.Core, b []impl.Core) bool {
	return slices.EqualFunc(a, b, func(c impl.Core, d impl.Core) bool { return c.At == d.At && slices.Equal(c.Regs, d.Regs) })
}

// A telling is what a Witness tells.
type telling struct {
	Order []int
	Then  impl.Machine
	Ok    bool
}

func tellingOf(p impl.Prog, picks []impl.Pick) telling {
	order, m, ok := impl.Witness(p, picks)
	return telling{order, m, ok}
}

// toldWanted is the document's chapter 14 once more: of what the Witness of some picks tells, and what that of the same
// picks with Late 0 does.
func toldWanted(p impl.Prog, late telling, prompt telling) [5]bool {
	if !late.Ok {
		return noneHolds
	}
	s, _ := impl.SourceNew(p)
	s, codes := runWanted(p, s, late.Order)
	var out [5]bool
	out[0] = slices.Equal(s.Trace, late.Then.Trace)
	for _, code := range codes {
		out[0] = out[0] && (code == 0 || code == 4)
	}
	out[1] = sameWanted(p, late.Then, s)
	out[2] = prompt.Ok && slices.Equal(late.Order, prompt.Order) && slices.Equal(late.Then.Trace, prompt.Then.Trace) && coresWanted(late.Then.Cores, prompt.Then.Cores)
	out[3] = true
	for n := range p.Caps {
		_, there := chanInWanted(late.Then.Mem, p.Caps, n)
		out[3] = out[3] && (there || lockedWanted(late.Then.Mem, p.Caps, n))
	}
	out[4] = out[0] && out[1] && out[2] && out[3]
	return out
}

func judgesWanted(p impl.Prog, picks []impl.Pick) [5]bool {
	if !progRight(p) || len(picks) > 4000 {
		return noneHolds
	}
	return toldWanted(p, tellingOf(p, picks), tellingOf(p, inTime(picks)))
}

// judges holds all of chapter 14 against what is wanted, and answers it.
func judges(t *testing.T, what string, p impl.Prog, picks []impl.Pick) [5]bool {
	t.Helper()
	got, want := judgesOf(p, picks), judgesWanted(p, picks)
	if got != want {
		t.Errorf("%v: %v picks of %v: %v, not %v", what, len(picks), brief(p), got, want)
	}
	return got
}

// judgedRight asks that all four hold, and all together.
func judgedRight(t *testing.T, what string, p impl.Prog, picks []impl.Pick) {
	t.Helper()
	if got := judgesOf(p, picks); got != allHold {
		t.Fatalf("%v: %v picks of %v: %v of %v", what, len(picks), brief(p), got, judgeNames)
	}
}

// judgedNone asks that none of the four holds, nor all together.
func judgedNone(t *testing.T, what string, p impl.Prog, picks []impl.Pick) {
	t.Helper()
	if got := judgesOf(p, picks); got != noneHolds {
		t.Errorf("%v: %v picks of %v: %v of %v", what, len(picks), brief(p), got, judgeNames)
	}
}

// A tale is what a witness tells, and what the program does by it.
type tale struct {
	telling
	s     impl.Source
	codes []int
}

func taleOf(p impl.Prog, picks []impl.Pick) tale {
	told := tellingOf(p, picks)
	s, _ := impl.SourceNew(p)
	s, codes := impl.SourceRun(p, s, told.Order)
	return tale{told, s, codes}
}

// asOnPlainMemory asks for promise 14 without a judge: cores on a memory that is not weak do the same in the same order,
// the program by that order prints the same, and stands where they stand.
func asOnPlainMemory(t *testing.T, what string, p impl.Prog, picks []impl.Pick) tale {
	t.Helper()
	told, plain := taleOf(p, picks), newPlainMachine(p)
	order, m := plain.run(picks), told.Then
	if !told.Ok || !slices.Equal(told.Order, order) || !slices.Equal(m.Trace, plain.trace) || !coresWanted(m.Cores, plain.cores) {
		t.Fatalf("%v: %v: %v %v, not %v %v", what, brief(p), told.Order, m.Trace, order, plain.trace)
	}
	s, _ := impl.SourceNew(p)
	s, codes := runWanted(p, s, order)
	if !slices.Equal(s.Trace, plain.trace) || slices.ContainsFunc(codes, func(code int) bool { return code != 0 && code != 4 }) {
		t.Fatalf("%v: %v: %v, not %v; %v", what, brief(p), plain.trace, s.Trace, codes)
	}
	for who, c := range plain.cores {
		if c.State != m.Cores[who].State || !coreSameWanted(p, m, s, who) {
			t.Fatalf("%v: %v: core %v, thread %v", what, brief(p), c, s.Threads[who])
		}
	}
	for n := range p.Caps {
		if !chanSameWanted(p, m, s, n) {
			t.Fatalf("%v: %v: channel %v is not %v", what, brief(p), n, s.Chans[n])
		}
	}
	return told
}

// A count of what the rows of a test came to, so that it shows where they come to too little.
type count map[string]int

func (k count) add(p impl.Prog, told tale) {
	for _, c := range told.Then.Cores {
		k[fmt.Sprint("state ", c.State)]++
	}
	for who := range told.Then.Cores {
		k[fmt.Sprint("between ", impl.Between(p, told.Then, who))]++
	}
	for n := range p.Caps {
		k[fmt.Sprint("locked ", impl.Locked(told.Then.Mem, p.Caps, n))]++
	}
	for _, code := range told.codes {
		k[fmt.Sprint("code ", code)]++
	}
	k["notes"] += len(told.Then.Trace)
}

func (k count) atLeast(t *testing.T, least int, whats ...string) {
	t.Helper()
	for _, what := range whats {
		if k[what] < least {
			t.Error("too few", what, k)
		}
	}
}

// Promise 14 and what follows: whatever the memory answers, all four hold; by one core, by turns and in no order.
func TestAllFourHold(t *testing.T) {
	seen := count{}
	for i, p := range witnessProgs() {
		for _, length := range []int{40, 333} {
			for what, picks := range pickRows(len(p.Bodies), length, i+length) {
				what = fmt.Sprint(i, " ", what)
				if judges(t, what, p, picks) != allHold {
					t.Fatal(what, length)
				}
				seen.add(p, asOnPlainMemory(t, what, p, picks))
			}
		}
	}
	seen.atLeast(t, 40, "state 0", "state 1", "state 2", "between true", "between false", "locked true", "locked false", "code 0", "code 4", "notes")
}

// All four hold of programs of each count of channels, bodies and places.
func TestAllFourHoldOfManyProgs(t *testing.T) {
	turn, seen := 0, count{}
	eachCodedProg(func(p impl.Prog) {
		turn++
		next := picker(turn + 1400)
		picks := oddPicks(len(p.Bodies), 60+turn*13%400, &next)
		judgedRight(t, "coded", p, picks)
		seen.add(p, asOnPlainMemory(t, "coded", p, picks))
	})
	seen.atLeast(t, 50, "state 0", "state 1", "state 2", "between true", "between false", "locked true", "locked false", "code 0", "code 4", "notes")
}

// opBody has a place of one kind among such that turn its registers and print what it told, for ever.
func opBody(k kindRow, channel int, number int) []impl.Ins {
	x := k.plain()
	switch k.n {
	case "channel":
		x.N = channel
	case "place":
		x.N = 3
	case "number":
		x.N = number
	}
	return []impl.Ins{{Op: impl.SrSet, R: 1, N: number}, {Op: impl.SrSet, R: 2, N: 7}, x, {Op: impl.SrPrint, A: 1}, {Op: impl.SrPrint, A: 2}, {Op: impl.SrPrint, A: 3}, {Op: impl.SrJump, N: 2}}
}

// Each kind of place beside each other one, on a channel of each room, the first one and the last.
func TestAllFourHoldOfEachOp(t *testing.T) {
	seen := count{}
	for _, one := range insKinds() {
		for _, other := range insKinds() {
			for room := 1; room <= 4; room++ {
				channel := (one.op + room) % 3
				caps := []int{room, 1 + (room+1)%4, 1 + (room+2)%4}
				caps[0], caps[channel] = caps[channel], room
				p := impl.Prog{Caps: caps, Bodies: [][]impl.Ins{opBody(one, channel, 5), opBody(other, channel, -6)}}
				next := picker(one.op*100 + other.op*5 + room)
				what := fmt.Sprint(one.name, " ", other.name, " ", room)
				for _, picks := range [][]impl.Pick{oddPicks(2, 230, &next), slices.Concat(stepPicks(0, 99), allLate(stepPicks(1, 99), 3))} {
					judgedRight(t, what, p, picks)
					seen.add(p, asOnPlainMemory(t, what, p, picks))
				}
			}
		}
	}
	seen.atLeast(t, 200, "state 0", "state 1", "state 2", "between true", "between false", "locked true", "locked false", "code 0", "code 4", "notes")
}

// One thread alone, with a place of each kind, cut after each of its steps.
func TestAllFourHoldOfOneThread(t *testing.T) {
	for _, k := range insKinds() {
		for room := 1; room <= 4; room++ {
			p := impl.Prog{Caps: []int{room}, Bodies: [][]impl.Ins{opBody(k, 0, 9)}}
			for steps := range 80 {
				judgedRight(t, k.name, p, allLate(stepPicks(0, steps), steps%4))
			}
		}
	}
}

// breakProgs are of two threads that meet at one channel, in each of the ways.
func breakProgs() map[string]impl.Prog {
	out := map[string]impl.Prog{}
	for _, one := range insKinds()[4:9] {
		for _, other := range insKinds()[4:9] {
			out[one.name+" "+other.name] = impl.Prog{Caps: []int{1}, Bodies: [][]impl.Ins{opBody(one, 0, 5)[1:], opBody(other, 0, 6)[1:]}}
		}
	}
	for _, p := range out {
		for _, body := range p.Bodies {
			body[5].N = 1
		}
	}
	return out
}

// One thread is stopped after each of its steps, the other one goes on so far and is stopped too, then the first is
// through: wherever they meet, all four hold.
func TestAllFourHoldWhereverTheyAreStopped(t *testing.T) {
	seen := count{}
	for what, p := range breakProgs() {
		for first := range 32 {
			for second := 1; second < 40; second += 6 {
				picks := slices.Concat(stepPicks(0, first), allLate(stepPicks(1, second), 1), allLate(stepPicks(0, 30), 2), stepPicks(1, first))
				told := asOnPlainMemory(t, what, p, picks)
				seen.add(p, told)
				if got := impl.JudgeAll(p, picks); !got {
					t.Fatal(what, first, second, judgesOf(p, picks))
				}
			}
		}
	}
	seen.atLeast(t, 100, "state 0", "state 2", "between true", "between false", "locked true", "locked false", "code 0", "code 4", "notes")
}

// Late answers of each size turn nothing: all picks late, one of the cores late, and every other pick.
func TestAllFourHoldHoweverLate(t *testing.T) {
	lates := slices.Concat([]int{0, 1, 2, 3, 4, 5, 10, 50, 100, 3999, 4000, 4001, 1 << 31, 1 << 32, -1, -2, -4000, -1 << 32}, ends64)
	for i, p := range witnessProgs() {
		next := picker(i + 1440)
		picks := inTime(oddPicks(len(p.Bodies), 250, &next))
		prompt := asOnPlainMemory(t, "in time", p, picks)
		for k, late := range lates {
			one, other := slices.Clone(picks), slices.Clone(picks)
			for at := range picks {
				if picks[at].Who == k%len(p.Bodies) {
					one[at].Late = late
				}
				if at%2 == k%2 {
					other[at].Late = late
				}
			}
			for _, row := range [][]impl.Pick{allLate(picks, late), one, other} {
				judgedRight(t, fmt.Sprint(i, " late ", late), p, row)
				if told := taleOf(p, row); !slices.Equal(told.Order, prompt.Order) || !slices.Equal(told.Then.Trace, prompt.Then.Trace) || !coresWanted(told.Then.Cores, prompt.Then.Cores) {
					t.Fatal(i, late, told.Order, prompt.Order)
				}
			}
		}
	}
}

// No pick at all, one, MaxPicks and one more.
func TestJudgesAtTheLimits(t *testing.T) {
	if impl.MaxPicks != 4000 {
		t.Fatal(impl.MaxPicks)
	}
	for i, p := range witnessProgs() {
		judgedRight(t, "nil", p, nil)
		judgedRight(t, "none", p, []impl.Pick{})
		next := picker(i + 1470)
		picks := oddPicks(len(p.Bodies), 4001, &next)
		for _, length := range []int{1, 2, 3999, 4000} {
			judgedRight(t, "limits", p, picks[:length])
		}
		judgedRight(t, "as many of nobody", p, stepPicks(-1, 4000))
		judgedRight(t, "as many of one", p, stepPicks(0, 4000))
		for _, many := range [][]impl.Pick{picks, make([]impl.Pick, 4001), stepPicks(-1, 4001), stepPicks(4, 4001), make([]impl.Pick, 8000), make([]impl.Pick, 100000)} {
			judgedNone(t, "too long", p, many)
		}
	}
	judgedNone(t, "far too long", pairProg(), make([]impl.Pick, 5000000))
}

// As many notes as there may be, each pick of MaxPicks a place of its own, by each count of threads.
func TestJudgesOfTheLongestTrace(t *testing.T) {
	body := slices.Repeat([]impl.Ins{{Op: impl.SrPrint}}, 23)
	for threads := 1; threads <= 4; threads++ {
		p := impl.Prog{Bodies: slices.Repeat([][]impl.Ins{append(body, impl.Ins{Op: impl.SrJump})}, threads)}
		picks := make([]impl.Pick, 4000)
		for i := range picks {
			picks[i] = impl.Pick{Who: i / 5 % threads, Late: i}
		}
		judgedRight(t, "notes", p, picks)
		if told := taleOf(p, picks); len(told.Order) != 4000 || len(told.Then.Trace) < 3800 {
			t.Error(threads, len(told.Order), len(told.Then.Trace))
		}
	}
}

// Picks of a core that there is not, below nought and beyond the last, alone and among others, turn no answer.
func TestJudgesOfPicksOfNoCore(t *testing.T) {
	for i, p := range witnessProgs() {
		cores := len(p.Bodies)
		nobody := slices.Concat([]int{-1, -2, -cores, cores, cores + 1, 5, 256, 1 << 32, 1<<32 + 1}, ends64)
		next := picker(i + 1480)
		var picks []impl.Pick
		for _, who := range nobody {
			judgedRight(t, fmt.Sprint("core ", who), p, []impl.Pick{{Who: who, Late: who}})
			judgedRight(t, fmt.Sprint("core ", who), p, stepPicks(who, 5))
			picks = append(picks, impl.Pick{Who: who, Late: who})
			for range 9 {
				picks = append(picks, impl.Pick{Who: next.below(cores), Late: ends64[next.below(4)]})
			}
		}
		judgedRight(t, "among others", p, picks)
		asOnPlainMemory(t, "among others", p, picks)
	}
}

// A row that stops after each of its picks, on channels of each room.
func TestAllFourHoldAtEachPick(t *testing.T) {
	seen := count{}
	for i, p := range witnessProgs() {
		next := picker(i + 1490)
		picks := oddPicks(len(p.Bodies), 180, &next)
		for cut := range len(picks) + 1 {
			told := taleOf(p, picks[:cut])
			seen.add(p, told)
			if judges(t, fmt.Sprint(i, " cut ", cut), p, picks[:cut]) != allHold {
				t.Fatal(i, cut)
			}
		}
	}
	seen.atLeast(t, 200, "locked true", "locked false", "between true", "between false")
}

// The lock of each place of a channel, written out: ahead of it, with it, while what it has is half written, ahead of
// where it is let go, and behind that.
func TestAllFourHoldAroundTheLock(t *testing.T) {
	rows := []struct {
		op     int
		before int // steps until the lock is got, of a channel that has one number and room for one more
		locked int // steps that are under it
	}{{impl.SrSend, 2, 18}, {impl.SrTake, 2, 16}, {impl.SrTrySend, 2, 18}, {impl.SrTryTake, 2, 16}, {impl.SrClose, 2, 7}}
	for _, row := range rows {
		x := insKinds()[row.op-1].plain()
		p := impl.Prog{Caps: []int{2}, Bodies: [][]impl.Ins{{{Op: impl.SrSet, R: 1, N: 8}, {Op: impl.SrSend, A: 1}, x, {Op: impl.SrEnd}}, {{Op: impl.SrTryTake, R: 1, B: 2}, {Op: impl.SrJump}}}}
		through := 0
		for steps := 1; steps < 60; steps++ {
			told := taleOf(p, stepPicks(0, steps))
			if told.Then.Cores[0].At == impl.Starts(p, 0)[2] {
				through = steps
			}
		}
		for steps := range 30 {
			picks := stepPicks(0, through+steps)
			told := asOnPlainMemory(t, "lock", p, picks)
			want := steps >= row.before && steps < row.before+row.locked
			if impl.Locked(told.Then.Mem, p.Caps, 0) != want {
				t.Error(x, steps, "locked", !want)
			}
			judgedRight(t, fmt.Sprint(x, steps), p, picks)
			judgedRight(t, fmt.Sprint(x, steps, " tried"), p, slices.Concat(picks, allLate(stepPicks(1, 50), 2)))
		}
	}
}

// An ending is a program, and the State of all of its threads when nothing can go on.
type ending struct {
	p     impl.Prog
	state int
}

// endings are programs of which nothing is printed or something, and whose threads all end, are stuck, or fault.
func endings() map[string]ending {
	take, send, end := impl.Ins{Op: impl.SrTake, R: 1, B: 2}, impl.Ins{Op: impl.SrSend, A: 3}, impl.Ins{Op: impl.SrEnd}
	print, shut := impl.Ins{Op: impl.SrPrint, A: 3}, impl.Ins{Op: impl.SrClose}
	return map[string]ending{
		"nothing printed, ended":        {impl.Prog{Bodies: [][]impl.Ins{endsOf(1), endsOf(3)}}, impl.StEnd},
		"printed, ended":                {impl.Prog{Caps: []int{1}, Bodies: [][]impl.Ins{{print, send, end}, {take, print, end}, {print, end}, {print, end}}}, impl.StEnd},
		"stuck, all take":               {impl.Prog{Caps: []int{1, 4}, Bodies: [][]impl.Ins{{take, end}, {print, take, end}, {take, end}}}, impl.StRun},
		"stuck, all send":               {impl.Prog{Caps: []int{3}, Bodies: slices.Repeat([][]impl.Ins{{print, send, send, send, send, end}}, 4)}, impl.StRun},
		"nothing printed, stuck, alone": {impl.Prog{Caps: []int{1}, Bodies: [][]impl.Ins{{send, send, end}}}, impl.StRun},
		"faulted, closed twice":         {impl.Prog{Caps: []int{2}, Bodies: [][]impl.Ins{{print, shut, shut, end}, {take, shut, end}}}, impl.StFault},
		"nothing printed, faulted":      {impl.Prog{Caps: []int{2}, Bodies: [][]impl.Ins{{shut, send, end}, {take, send, end}, {take, {Op: impl.SrTrySend, R: 1, A: 1}, end}}}, impl.StFault},
	}
}

// Threads that have all ended, that are stuck, that have faulted, with something printed and with nothing.
func TestAllFourHoldAtTheEnd(t *testing.T) {
	for what, row := range endings() {
		cores := len(row.p.Bodies)
		for run := 1; run <= 90; run += 8 {
			picks := make([]impl.Pick, 1500)
			for i := range picks {
				picks[i] = impl.Pick{Who: i / run % cores, Late: i % 5}
			}
			told := asOnPlainMemory(t, what, row.p, picks)
			for who, th := range told.s.Threads {
				if th.State != row.state {
					t.Error(what, run, who, th)
				}
			}
			if impl.Stuck(row.p, told.s) != (row.state == impl.StRun) {
				t.Error(what, run, "stuck")
			}
			if strings.HasPrefix(what, "nothing printed") != (len(told.Then.Trace) == 0) {
				t.Error(what, run, told.Then.Trace)
			}
			if judges(t, what, row.p, picks) != allHold {
				t.Error(what, run)
			}
		}
	}
}

// A program that is not ProgOk has no witness, in each of the ways, with picks and without.
func TestJudgesOfWrongProgs(t *testing.T) {
	rows := [][]impl.Pick{nil, {}, {{}}, {{Who: 1, Late: 2}, {}, {Who: -1}}, stepPicks(0, 4000), make([]impl.Pick, 4001)}
	wrong := 0
	eachWrongProg(func(what string, p impl.Prog) {
		wrong++
		for _, picks := range rows {
			judgedNone(t, what, p, picks)
		}
	})
	if wrong < 500 {
		t.Error("too few", wrong)
	}
	for _, picks := range rows[:5] {
		judgedRight(t, "a right one", pairProg(), picks)
	}
	judgedNone(t, "too many picks of a right one", pairProg(), rows[5])
}

// JudgeAll is true just where the four are; nothing else than that there is no witness takes them away.
func TestAllIsTheFour(t *testing.T) {
	answers := map[bool]int{}
	for i, p := range append(witnessProgs(), wrongProgs()...) {
		next := picker(i + 1500)
		picks := oddPicks(max(1, min(len(p.Bodies), 4)), 4002, &next)
		for _, length := range []int{0, 1, 77, 4000, 4001, 4002} {
			got := judges(t, "all", p, picks[:length])
			if got[4] != (got[0] && got[1] && got[2] && got[3]) || got[4] != (progRight(p) && length <= 4000) {
				t.Error(i, length, got)
			}
			answers[got[4]]++
		}
	}
	if answers[true] < 40 || answers[false] < 100 {
		t.Error("too few", answers)
	}
}

// eachJudgeCall calls look with programs and picks, right ones and wrong ones, with room behind each list.
func eachJudgeCall(look func(p impl.Prog, picks []impl.Pick)) {
	for i, p := range append(witnessProgs(), wrongProgs()...) {
		next := picker(i + 1510)
		picks := oddPicks(max(1, min(len(p.Bodies), 4)), 4003, &next)
		for _, length := range []int{0, 1, 60, 300, 4000, 4001} {
			look(roomyProg(p), slices.Clone(picks[:length+2])[:length])
		}
	}
}

// Promise 18: nothing is written into an argument, nor into the room behind its lists, nor read there.
func TestChapterFourteenWritesIntoNoArgument(t *testing.T) {
	eachJudgeCall(func(p impl.Prog, picks []impl.Pick) {
		prog, list := wholeProg(p), slices.Clone(picks[:cap(picks)])
		got := judgesOf(p, picks)
		if want := progRight(p) && len(picks) <= 4000; got != [5]bool{want, want, want, want, want} {
			t.Errorf("%v picks of %v: %v", len(picks), brief(p), got)
		}
		if !reflect.DeepEqual(prog, wholeProg(p)) || !slices.Equal(list, picks[:cap(picks)]) {
			t.Errorf("an argument was written into: %v", brief(p))
		}
	})
}

// Promise 18: from call to call the same, in whatever order it is asked, and of many calls at once.
func TestChapterFourteenAnswersTheSame(t *testing.T) {
	type call struct {
		p     impl.Prog
		picks []impl.Pick
		want  [5]bool
	}
	var all []call
	eachJudgeCall(func(p impl.Prog, picks []impl.Pick) {
		if len(picks) != 4000 {
			all = append(all, call{p, picks, judgesOf(p, picks)})
		}
	})
	var calls sync.WaitGroup
	same := make([]bool, 4)
	for k := range same {
		calls.Go(func() {
			same[k] = true
			for i := range all {
				c := all[(i*(2*k+1)+k)%len(all)]
				same[k] = same[k] && judgesOf(c.p, c.picks) == c.want
			}
		})
	}
	calls.Wait()
	if slices.Contains(same, false) {
		t.Error("another answer", same)
	}
}

// No goroutine is left behind a call; one that is through may still be on its way out, so there is some time for that.
func TestJudgesLeaveNoGoroutineBehind(t *testing.T) {
	before := runtime.NumGoroutine()
	for i, p := range append(witnessProgs(), wrongProgs()...) {
		next := picker(i)
		for _, picks := range [][]impl.Pick{nil, {{Who: -1}}, {{Who: math.MaxInt}}, oddPicks(4, 200, &next), make([]impl.Pick, 4001)} {
			judgesOf(p, picks)
		}
	}
	for range 5000 {
		if runtime.NumGoroutine() <= before {
			return
		}
		time.Sleep(time.Millisecond)
	}
	t.Error("goroutines", before, runtime.NumGoroutine())
}
