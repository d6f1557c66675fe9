package tests

import (
	"fmt"
	"math"
	"reflect"
	"slices"
	"testing"

	"loop.example/g00238/impl"
)

// brief is the first part of what a value shows, for one may be long.
func brief(v any) string { return fmt.Sprintf("%.300s", fmt.Sprint(v)) }

// progRight is the document's ProgOk once more, by numbers.
func progRight(p impl.Prog) bool {
	right := len(p.Caps) <= 3 && len(p.Bodies) >= 1 && len(p.Bodies) <= 4
	for _, room := range p.Caps {
		right = right && room >= 1 && room <= 4
	}
	for _, body := range p.Bodies {
		right = right && len(body) >= 1 && len(body) <= 24 && (body[len(body)-1].Op == 11 || body[len(body)-1].Op == 13)
		for _, x := range body {
			right = right && insWanted(x, len(body), len(p.Caps))
		}
	}
	return right
}

// ownersWanted has for each step of a body's code its place; nothing where there is no such body.
func ownersWanted(p impl.Prog, body int) []int {
	if !progRight(p) || body < 0 || body >= len(p.Bodies) {
		return nil
	}
	var owners []int
	for place, x := range p.Bodies[body] {
		owners = append(owners, slices.Repeat([]int{place}, sizesWanted()[x.Op])...)
	}
	return owners
}

// startsWanted is the document's Starts once more: how many steps stand ahead of each place.
func startsWanted(p impl.Prog, body int) []int {
	var starts []int
	for at, place := range ownersWanted(p, body) {
		if place == len(starts) {
			starts = append(starts, at)
		}
	}
	return starts
}

// compileWanted is the document's Compile once more, by the listings of chapter 10.
func compileWanted(p impl.Prog) ([][]impl.Step, bool) {
	if !progRight(p) {
		return nil, false
	}
	var codes [][]impl.Step
	for body, list := range p.Bodies {
		var code []impl.Step
		for _, x := range list {
			code = append(code, emitWanted(p.Caps, x, len(code), startsWanted(p, body))...)
		}
		codes = append(codes, code)
	}
	return codes, true
}

// placeWanted is the document's PlaceOf once more.
func placeWanted(p impl.Prog, body int, at int) (int, bool) {
	owners := ownersWanted(p, body)
	if at < 0 || at >= len(owners) {
		return -1, false
	}
	return owners[at], at == 0 || owners[at-1] != owners[at]
}

func sameCodes(a [][]impl.Step, b [][]impl.Step) bool {
	return slices.EqualFunc(a, b, slices.Equal[[]impl.Step])
}

// starts holds Starts against what is wanted, and answers it.
func starts(t *testing.T, p impl.Prog, body int) []int {
	t.Helper()
	got := impl.Starts(p, body)
	if want := startsWanted(p, body); !slices.Equal(got, want) {
		t.Errorf("body %v of %v: %v, not %v", body, brief(p), got, want)
	}
	return got
}

// compiles holds Compile against what is wanted, and answers it.
func compiles(t *testing.T, p impl.Prog) ([][]impl.Step, bool) {
	t.Helper()
	got, ok := impl.Compile(p)
	if want, right := compileWanted(p); ok != right || !sameCodes(got, want) {
		t.Errorf("%v: %v %v, not %v %v", brief(p), got, ok, want, right)
	}
	return got, ok
}

// belongs holds PlaceOf against what is wanted, and answers it.
func belongs(t *testing.T, p impl.Prog, body int, at int) (int, bool) {
	t.Helper()
	got, first := impl.PlaceOf(p, body, at)
	if want, head := placeWanted(p, body, at); got != want || first != head {
		t.Errorf("step %v of body %v of %v: %v %v, not %v %v", at, body, brief(p), got, first, want, head)
	}
	return got, first
}

// noBody asks that a program has no such body: no first steps, and no step that belongs to a place.
func noBody(t *testing.T, what string, p impl.Prog, body int) {
	t.Helper()
	if got := impl.Starts(p, body); len(got) != 0 {
		t.Error(what, body, got)
	}
	for _, at := range slices.Concat([]int{-1, 0, 1, 29, 72, 799, 800}, ends64) {
		if place, first := impl.PlaceOf(p, body, at); place != -1 || first {
			t.Error(what, body, at, place, first)
		}
	}
}

// noCode asks that a program has no code, and none of its bodies first steps.
func noCode(t *testing.T, what string, p impl.Prog) {
	t.Helper()
	if codes, ok := impl.Compile(p); ok || len(codes) != 0 {
		t.Error(what, codes, ok)
	}
	for _, body := range slices.Concat([]int{-1, 0, 1, 2, 3, 4, 5}, ends64) {
		noBody(t, what, p, body)
	}
}

// eachCodedProg goes through right programs: of all counts of channels, bodies and places, and a place of each kind with
// all registers and with N near to an edge, 23 of them a body.
func eachCodedProg(look func(p impl.Prog)) {
	eachProg(look)
	for _, caps := range [][]int{nil, {1}, {4, 3}, {2, 1, 3}, {4, 4, 4}} {
		var list []impl.Ins
		eachKindOf(24, len(caps), func(x impl.Ins) { list = append(list, x) })
		var bodies [][]impl.Ins
		for part := range slices.Chunk(list, 23) {
			body := append(endsOf(23-len(part)), part...)
			bodies = append(bodies, append(body, impl.Ins{Op: impl.SrJump, N: len(bodies) % 24}))
		}
		for part := range slices.Chunk(bodies, impl.MaxBodies) {
			look(impl.Prog{Caps: caps, Bodies: part})
		}
	}
}

// kindsProg has in its second body a place of each kind, in the order of the ops.
func kindsProg() impl.Prog {
	var body []impl.Ins
	for _, k := range insKinds() {
		body = append(body, k.plain())
	}
	return impl.Prog{Caps: []int{2}, Bodies: [][]impl.Ins{endsOf(3), body}}
}

func TestStartsRows(t *testing.T) {
	p := kindsProg()
	if got := starts(t, p, 0); !slices.Equal(got, []int{0, 1, 2}) {
		t.Error("ends", got)
	}
	if got := starts(t, p, 1); !slices.Equal(got, []int{0, 1, 2, 3, 4, 33, 63, 94, 126, 139, 140, 141, 142}) {
		t.Error("each kind", got)
	}
	slices.Reverse(p.Bodies[1][:12])
	if got := starts(t, p, 1); !slices.Equal(got, []int{0, 1, 2, 3, 16, 48, 79, 109, 138, 139, 140, 141, 142}) {
		t.Error("each kind, from the last on", got)
	}
	s, _ := sampleProg()
	if got := starts(t, s, 0); !slices.Equal(got, []int{0, 1, 30, 61, 74}) {
		t.Error("one that sends", got)
	}
	if got := starts(t, s, 1); !slices.Equal(got, []int{0, 30, 31, 32, 33}) {
		t.Error("one that takes", got)
	}
}

// Each first step is the one ahead and as many more as EmitSize tells of the place ahead; the first one is 0.
func TestStartsAsTold(t *testing.T) {
	eachCodedProg(func(p impl.Prog) {
		for body, list := range p.Bodies {
			got := starts(t, p, body)
			if len(got) != len(list) || got[0] != 0 {
				t.Fatal("body", body, p, got)
			}
			for i := 1; i < len(got); i++ {
				if got[i] != got[i-1]+impl.EmitSize(list[i-1]) {
					t.Fatal("place", i, body, p, got)
				}
			}
		}
	})
}

// Code, written out: the channel 1 begins at cell 6, and the jumps go to first steps.
func TestCompileRows(t *testing.T) {
	p := impl.Prog{Caps: []int{2, 1}, Bodies: [][]impl.Ins{
		{{Op: impl.SrEnd}},
		{{Op: impl.SrZero, A: 2, N: 3}, {Op: impl.SrClose, N: 1}, {Op: impl.SrPrint, A: 3}, {Op: impl.SrJump, N: 2}},
		{{Op: impl.SrJump}}}}
	want := [][]impl.Step{
		{{Op: impl.MaEnd}},
		{{Op: impl.MaZero, A: 2, N: 15},
			{Op: impl.MaSet, R: 7, N: 1}, {Op: impl.MaSwap, R: 6, B: 7, N: 6}, {Op: impl.MaZero, A: 6, N: 5}, {Op: impl.MaJump, N: 1},
			{Op: impl.MaLoad, R: 4, A: -1, N: 9}, {Op: impl.MaZero, A: 4, N: 10}, {Op: impl.MaSet, R: 7}, {Op: impl.MaLet, A: -1, B: 7, N: 6}, {Op: impl.MaFault},
			{Op: impl.MaSet, R: 7, N: 1}, {Op: impl.MaStore, A: -1, B: 7, N: 9}, {Op: impl.MaSet, R: 7}, {Op: impl.MaLet, A: -1, B: 7, N: 6},
			{Op: impl.MaPrint, A: 3}, {Op: impl.MaJump, N: 14}},
		{{Op: impl.MaJump}}}
	if got, ok := compiles(t, p); !ok || !sameCodes(got, want) {
		t.Error(got, ok)
	}
}

// For each body what is compiled is Emit of each place, one behind the other, with the starts of that body.
func TestCompileAsTold(t *testing.T) {
	count := 0
	eachCodedProg(func(p impl.Prog) {
		count++
		codes, ok := compiles(t, p)
		if !ok || len(codes) != len(p.Bodies) {
			t.Fatal("refused", p, ok, len(codes))
		}
		for body, code := range codes {
			firsts := impl.Starts(p, body)
			behind := 0
			for place, x := range p.Bodies[body] {
				part := impl.Emit(p.Caps, x, firsts[place], firsts)
				behind = firsts[place] + len(part)
				if behind > len(code) || !slices.Equal(code[firsts[place]:behind], part) {
					t.Fatal("place", place, body, p)
				}
			}
			if behind != len(code) || !codeRight(code) || !impl.CodeOk(code) {
				t.Fatal("code", body, p, behind, len(code))
			}
		}
	})
	if count < 400 {
		t.Error("too few programs", count)
	}
}

// Promise 11: each step of what was compiled belongs to one place, the one that has the greatest first step that is not
// beyond it; just the first steps are told as first; what is ahead of all and behind all belongs to none.
func TestEachStepBelongsToOnePlace(t *testing.T) {
	eachCodedProg(func(p impl.Prog) {
		codes, _ := impl.Compile(p)
		for body, code := range codes {
			firsts, owners := impl.Starts(p, body), ownersWanted(p, body)
			if len(owners) != len(code) || len(firsts) != len(p.Bodies[body]) {
				t.Fatal("steps", body, p, len(owners), len(code), firsts)
			}
			steps, heads := make([]int, len(p.Bodies[body])), []int{}
			for at := -3; at < len(code)+3; at++ {
				place, first := impl.PlaceOf(p, body, at)
				if at < 0 || at >= len(code) {
					if place != -1 || first {
						t.Fatal("no step", at, body, p, place, first)
					}
					continue
				}
				if place != owners[at] || firsts[place] > at || place+1 < len(firsts) && firsts[place+1] <= at {
					t.Fatal("step", at, body, p, place)
				}
				steps[place]++
				if first {
					heads = append(heads, at)
				}
			}
			for place, x := range p.Bodies[body] {
				if steps[place] != impl.EmitSize(x) {
					t.Fatal("steps of", place, body, p, steps)
				}
			}
			if !slices.Equal(heads, firsts) {
				t.Fatal("first steps", body, p, heads, firsts)
			}
		}
	})
}

// Promise 11 and promise 10, of whole code: a step of a place jumps to steps of that place, or to first steps; those of
// the program's jumps go to the place that is named.
func TestCodeJumpsWithinAPlaceOrToFirstSteps(t *testing.T) {
	jumps := 0
	eachCodedProg(func(p impl.Prog) {
		codes, _ := impl.Compile(p)
		for body, code := range codes {
			for at, s := range code {
				if s.Op != impl.MaJump && s.Op != impl.MaZero {
					continue
				}
				jumps++
				from, _ := impl.PlaceOf(p, body, at)
				to, first := impl.PlaceOf(p, body, s.N)
				if to == -1 || !first && from != to {
					t.Fatal("jump", at, s, body, p, from, to)
				}
				if x := p.Bodies[body][from]; !isChanOp(x.Op) && (to != x.N || !first) {
					t.Fatal("to another place", at, s, body, p, x)
				}
				if x := p.Bodies[body][from]; isChanOp(x.Op) && to != from && to != from+1 {
					t.Fatal("further than the next place", at, s, body, p, x)
				}
			}
		}
	})
	if jumps < 10000 {
		t.Error("too few jumps", jumps)
	}
}

// The last step of one place and the first of the next, for each two kinds one behind the other.
func TestStepsAtTheEdgeOfTwoPlaces(t *testing.T) {
	for _, a := range insKinds() {
		for _, b := range insKinds() {
			p := impl.Prog{Caps: []int{3}, Bodies: [][]impl.Ins{{a.plain(), b.plain(), {Op: impl.SrEnd}}}}
			sa, sb := sizesWanted()[a.op], sizesWanted()[b.op]
			rows := []struct {
				at, place int
				first     bool
			}{{-1, -1, false}, {0, 0, true}, {sa - 1, 0, sa == 1}, {sa, 1, true}, {sa + sb - 1, 1, sb == 1}, {sa + sb, 2, true}, {sa + sb + 1, -1, false}}
			for _, row := range rows {
				if place, first := belongs(t, p, 0, row.at); place != row.place || first != row.first {
					t.Error(a.name, b.name, row, place, first)
				}
			}
			if sa > 1 {
				if place, first := belongs(t, p, 0, 1); place != 0 || first {
					t.Error(a.name, "second step", place, first)
				}
			}
		}
	}
}

// What is beyond the last step belongs to none, of each last place, and however far it is.
func TestBeyondTheLastStep(t *testing.T) {
	for places := 1; places <= 24; places++ {
		for _, last := range []impl.Ins{{Op: impl.SrEnd}, {Op: impl.SrJump, N: places - 1}} {
			p := impl.Prog{Caps: []int{1}, Bodies: [][]impl.Ins{slices.Repeat([]impl.Ins{{Op: impl.SrTryTake, R: 1, B: 2}}, places)}}
			p.Bodies[0][places-1] = last
			end := 32 * (places - 1)
			if place, first := belongs(t, p, 0, end); place != places-1 || !first {
				t.Error("last", places, place, first)
			}
			for _, at := range slices.Concat([]int{end + 1, end + 2, end + 32, 737, 799, 800, 801, 1 << 32, 1<<32 + end, -1, -2, -end - 1}, ends64) {
				if place, first := belongs(t, p, 0, at); place != -1 || first {
					t.Error("beyond", places, at, place, first)
				}
			}
		}
	}
}

// The first and the last body, one below and one beyond, of one thread and of as many as there may be.
func TestBodiesAtTheEdge(t *testing.T) {
	for count := 1; count <= impl.MaxBodies; count++ {
		p := impl.Prog{Caps: []int{2}}
		for i := range count {
			p.Bodies = append(p.Bodies, append(slices.Repeat([]impl.Ins{{Op: impl.SrClose}}, i), impl.Ins{Op: impl.SrEnd}))
		}
		for body := range count {
			if got := starts(t, p, body); len(got) != body+1 || got[body] != 13*body {
				t.Error(count, body, got)
			}
			if place, first := belongs(t, p, body, 13*body); place != body || !first {
				t.Error(count, body, place, first)
			}
			if place, first := belongs(t, p, body, 13*body+1); place != -1 || first {
				t.Error(count, body, place, first)
			}
		}
		for _, body := range slices.Concat([]int{-1, -2, -count, count, count + 1, 256, 1 << 32}, ends64) {
			noBody(t, "no body", p, body)
		}
		if codes, ok := compiles(t, p); !ok || len(codes) != count {
			t.Error(count, len(codes), ok)
		}
	}
}

// A body of one place: it ends, or goes round for ever.
func TestBodiesOfOnePlace(t *testing.T) {
	for _, x := range []impl.Ins{{Op: impl.SrEnd}, {Op: impl.SrJump}} {
		p := impl.Prog{Bodies: [][]impl.Ins{{x}}}
		codes, ok := compiles(t, p)
		if !ok || len(codes) != 1 || len(codes[0]) != 1 || !slices.Equal(starts(t, p, 0), []int{0}) {
			t.Error(x, codes, ok)
		}
		for at := -2; at < 3; at++ {
			if place, first := belongs(t, p, 0, at); first != (at == 0) || first != (place == 0) {
				t.Error(x, at, place, first)
			}
		}
	}
}

// longBody has so many places of 32 steps, and behind them those that are told.
func longBody(tries int, more ...impl.Ins) []impl.Ins {
	return append(slices.Repeat([]impl.Ins{{Op: impl.SrTryTake, R: 1, B: 2}}, tries), more...)
}

// The longest code of all has 737 steps: MaxIns is met ahead of MaxCode. Code of just MaxCode steps, and of one more, is
// that of bodies that have more than MaxIns places, so those have none.
func TestTheLongestCode(t *testing.T) {
	longest := impl.Prog{Caps: []int{4, 4, 4}, Bodies: slices.Repeat([][]impl.Ins{longBody(23, impl.Ins{Op: impl.SrEnd})}, 4)}
	codes, ok := compiles(t, longest)
	if !ok || len(codes) != 4 {
		t.Fatal("refused", len(codes), ok)
	}
	for body, code := range codes {
		if len(code) != 737 || len(code) > impl.MaxCode {
			t.Error(body, len(code))
		}
		if place, first := belongs(t, longest, body, 736); place != 23 || !first {
			t.Error(body, place, first)
		}
		if place, first := belongs(t, longest, body, 735); place != 22 || first {
			t.Error(body, place, first)
		}
	}
	try, end := impl.Ins{Op: impl.SrTrySend, R: 1, A: 2}, impl.Ins{Op: impl.SrEnd}
	for steps, list := range map[int][]impl.Ins{768: longBody(24), 769: longBody(24, end), 800: longBody(24, try, end), 801: longBody(24, try, end, end), 3201: longBody(100, end)} {
		count := 0
		for _, x := range list {
			count += impl.EmitSize(x)
		}
		if count != steps {
			t.Error("steps", count, steps)
		}
		noCode(t, "too long", impl.Prog{Caps: []int{1}, Bodies: [][]impl.Ins{list}})
		noCode(t, "too long, first", impl.Prog{Caps: []int{1}, Bodies: [][]impl.Ins{list, endsOf(1)}})
		noCode(t, "too long, last", impl.Prog{Caps: []int{1}, Bodies: [][]impl.Ins{endsOf(1), endsOf(1), endsOf(1), list}})
	}
}

// All caps that there are: each channel's places go to its own cells, up to the last one of all where just Cells are
// taken, as three of MaxCap do.
func TestCompileOfAllCaps(t *testing.T) {
	eachCaps(3, 1, 4, func(caps []int) {
		p, most := impl.Prog{Caps: caps, Bodies: [][]impl.Ins{endsOf(2)}}, 0
		for n, room := range caps {
			body := endsOf(6)
			for i := range 5 {
				body[i] = with(insKinds()[4+i].plain(), 'N', n)
			}
			p.Bodies = append(p.Bodies, body)
			most += room + 4
		}
		codes, ok := compiles(t, p)
		if !ok || len(codes) != len(caps)+1 || most > impl.Cells {
			t.Fatal(caps, ok, len(codes), most)
		}
		for n, room := range caps {
			base := impl.Base(caps, n)
			for _, s := range codes[n+1] {
				if stepKinds()[s.Op-1].n == "cell" && (s.N < base || s.N > base+4) || s.Op == impl.MaSet && s.N > 2 && s.N != room {
					t.Fatal(caps, n, s)
				}
			}
		}
	})
	full := impl.Prog{Caps: []int{4, 4, 4}, Bodies: [][]impl.Ins{{{Op: impl.SrSend, N: 2}, {Op: impl.SrEnd}}}}
	codes, ok := compiles(t, full)
	if !ok || codes[0][1].N != 16 || codes[0][19] != (impl.Step{Op: impl.MaStore, A: 4, N: 20}) {
		t.Error("all cells", ok, codes)
	}
	noCode(t, "more than all cells", impl.Prog{Caps: []int{4, 4, 4, 1}, Bodies: full.Bodies})
	noCode(t, "more than all cells, in three", impl.Prog{Caps: []int{4, 4, 5}, Bodies: full.Bodies})
}

// Whatever is compiled is the code of a machine, whose cores stand at steps of places all along.
func TestCoresStandAtStepsOfPlaces(t *testing.T) {
	for seed := range 6 {
		send, take := handers(5, 0, seed%2 == 1, true)
		p := impl.Prog{Caps: []int{1 + seed%4}, Bodies: [][]impl.Ins{send, take}}
		codes, _ := compiles(t, p)
		m, ok := impl.MachineNew(codes)
		if !ok {
			t.Fatal("no machine", p)
		}
		next := picker(seed)
		for _, x := range oddPicks(2, 900, &next) {
			m, _ = impl.CoreStep(m, x)
			for who, c := range m.Cores {
				if place, _ := belongs(t, p, who, c.At); place == -1 {
					t.Fatal("no place", seed, who, c.At)
				}
			}
		}
		for i, note := range m.Trace {
			if note != (impl.Note{Who: 1, V: i + 1}) {
				t.Error("notes", seed, m.Trace)
			}
		}
		if len(m.Trace) == 0 {
			t.Error("nothing printed", seed)
		}
	}
}

// What is compiled does what the program does: one place of a thread is done by its core, from a first step to the next.
func TestCompiledCodeDoesWhatTheProgramDoes(t *testing.T) {
	progs := []impl.Prog{lineProg(), kindsProg()}
	s, _ := sampleProg()
	w, _ := workProg()
	for i, p := range append(progs, s, w) {
		codes, _ := impl.Compile(p)
		m, ok := impl.MachineNew(codes)
		src, right := impl.SourceNew(p)
		if !ok || !right {
			t.Fatal("no machine", i, ok, right)
		}
		next := picker(i)
		for range 60 {
			who := next.below(len(p.Bodies))
			if src.Threads[who].State != impl.StRun {
				continue
			}
			src, _ = impl.SourceStep(p, src, who)
			m = goOn(t, p, m, who, next.below(3))
			asThreads(t, p, m, src)
			at := m.Cores[who].At
			if place, first := belongs(t, p, who, at); m.Cores[who].State == impl.StRun && (place != src.Threads[who].At || !first) {
				t.Fatal("place", i, who, at, place, first)
			}
		}
	}
}

// wrongBodies are bodies that are wrong in one way each, with one channel.
func wrongBodies() map[string][]impl.Ins {
	end := impl.Ins{Op: impl.SrEnd}
	out := map[string][]impl.Ins{"no places": nil, "an empty list": {}, "too many places": endsOf(25), "far too many places": endsOf(100000),
		"too many places, the last a jump": append(endsOf(24), impl.Ins{Op: impl.SrJump}), "no op": {{}, end}, "op 14": {{Op: 14}, end}, "op -1": {{Op: -1}, end},
		"an op of 64 bits": {{Op: math.MinInt}, end}, "a last op of 64 bits": {end, {Op: math.MaxInt}}, "one register": {{Op: impl.SrTake, R: 3, B: 3}, end},
		"one register of a try": {{Op: impl.SrTryTake}, end}, "too great a number": {{Op: impl.SrSet, N: 1000000001}, end}, "too small a number": {{Op: impl.SrSet, N: -1000000001}, end},
		"a jump beyond": {{Op: impl.SrJump, N: 2}, end}, "a last jump beyond": {end, {Op: impl.SrJump, N: 2}}, "a jump below": {{Op: impl.SrZero, N: -1}, end}}
	for _, k := range insKinds() {
		if k.op != impl.SrEnd && k.op != impl.SrJump {
			out["last "+k.name] = []impl.Ins{end, k.plain()}
		}
		for _, f := range []byte("RAB") {
			for name, v := range map[string]int{"4": 4, "-1": -1, "least": math.MinInt, "most": math.MaxInt} {
				out[k.name+" "+string(f)+" "+name] = []impl.Ins{with(k.plain(), f, v), end}
			}
			if !k.names(f) {
				out[k.name+" "+string(f)+" not named"] = []impl.Ins{with(k.plain(), f, 1), end}
			}
		}
		if k.n != "number" {
			for name, v := range map[string]int{"3": 3, "-1": -1, "least": math.MinInt, "most": math.MaxInt} {
				out[k.name+" N "+name] = []impl.Ins{with(k.plain(), 'N', v), end}
			}
		}
		if k.n == "channel" {
			out[k.name+" beyond the channels"] = []impl.Ins{with(k.plain(), 'N', 1), end}
		}
	}
	return out
}

// A program of which one body is wrong has no code, and none of its bodies has first steps, the right ones neither.
func TestWrongBodies(t *testing.T) {
	right := []impl.Ins{{Op: impl.SrSend}, {Op: impl.SrEnd}}
	for what, list := range wrongBodies() {
		if progRight(impl.Prog{Caps: []int{2}, Bodies: [][]impl.Ins{list}}) {
			t.Fatal("not wrong", what)
		}
		noCode(t, what, impl.Prog{Caps: []int{2}, Bodies: [][]impl.Ins{list}})
		for at := range 4 {
			bodies := slices.Repeat([][]impl.Ins{right}, 4)
			bodies[at] = list
			noCode(t, what+" among four", impl.Prog{Caps: []int{2}, Bodies: bodies})
		}
	}
	if _, ok := compiles(t, impl.Prog{Caps: []int{2}, Bodies: slices.Repeat([][]impl.Ins{right}, 4)}); !ok {
		t.Error("all right")
	}
}

// Caps that are wrong, and counts of channels and bodies: all of them have none, though no place be of a channel.
func TestWrongProgs(t *testing.T) {
	for _, p := range wrongProgs() {
		noCode(t, "no program", p)
	}
	for _, bodies := range [][][]impl.Ins{{endsOf(1)}, {{{Op: impl.SrSend}, {Op: impl.SrEnd}}}, slices.Repeat([][]impl.Ins{endsOf(24)}, 4)} {
		for _, wrong := range slices.Concat([]int{0, -1, -4, 5, 6, 24}, ends64) {
			for _, caps := range [][]int{{wrong}, {wrong, 1}, {1, wrong}, {wrong, 1, 1}, {1, wrong, 1}, {1, 1, wrong}, {wrong, wrong, wrong}} {
				noCode(t, "caps", impl.Prog{Caps: caps, Bodies: bodies})
			}
		}
		for _, caps := range [][]int{{1, 1, 1, 1}, {4, 4, 4, 4}, slices.Repeat([]int{1}, 5), slices.Repeat([]int{1}, 100000)} {
			noCode(t, "channels", impl.Prog{Caps: caps, Bodies: bodies})
		}
		for _, caps := range [][]int{{1}, {4}, {1, 4}, {4, 4, 4}, {1, 1, 1}} {
			if _, ok := compiles(t, impl.Prog{Caps: caps, Bodies: bodies}); !ok {
				t.Error("refused", caps)
			}
		}
	}
	for _, count := range []int{0, 5, 6, 1000} {
		noCode(t, "bodies", impl.Prog{Caps: []int{1}, Bodies: slices.Repeat([][]impl.Ins{endsOf(1)}, count)})
	}
}

// One place of a body is any, right or wrong: the program has code just if it is right.
func TestCompileOfAnyPlace(t *testing.T) {
	turn, right := 0, 0
	eachIns(func(x impl.Ins) {
		turn++
		p := impl.Prog{Caps: []int{1, 2, 3}[:turn%4], Bodies: [][]impl.Ins{endsOf(2), {{Op: impl.SrSet}, x, {Op: impl.SrEnd}}}}
		codes, ok := impl.Compile(p)
		place, first := impl.PlaceOf(p, 1, 1)
		if want := insWanted(x, 3, turn%4); ok != want || first != want || (place == 1) != want || (place == -1) == want {
			t.Fatal(x, turn%4, ok, place, first)
		}
		if !ok {
			if got := impl.Starts(p, 1); len(codes) != 0 || len(got) != 0 {
				t.Fatal(x, turn%4, codes, got)
			}
			return
		}
		right++
		if size := sizesWanted()[x.Op]; len(codes) != 2 || len(codes[1]) != size+2 || !slices.Equal(impl.Starts(p, 1), []int{0, 1, 1 + size}) {
			t.Fatal(x, turn%4, codes)
		}
	})
	if right < 100 {
		t.Error("too few right ones", right)
	}
}

// roomyProg is p with room behind each of its lists, in which more stands that would be right.
func roomyProg(p impl.Prog) impl.Prog {
	d := impl.Prog{Caps: slices.Concat(p.Caps, []int{1, 2})[:len(p.Caps)]}
	d.Bodies = slices.Concat(p.Bodies, [][]impl.Ins{endsOf(2)})[:len(p.Bodies)]
	for i, body := range d.Bodies {
		d.Bodies[i] = slices.Concat(body, endsOf(2))[:len(body)]
	}
	return d
}

// eachCompileCall calls look with right and wrong programs, bodies and steps, with room behind each list.
func eachCompileCall(look func(p impl.Prog, body int, at int)) {
	s, _ := sampleProg()
	w, _ := workProg()
	m, _ := mixedProg()
	progs := []impl.Prog{s, w, m, kindsProg(), lineProg(), {Bodies: [][]impl.Ins{endsOf(1)}}, {Caps: []int{4, 4, 4}, Bodies: slices.Repeat([][]impl.Ins{longBody(23, impl.Ins{Op: impl.SrEnd})}, 4)}}
	turn := 0
	for _, p := range append(progs, wrongProgs()...) {
		for _, body := range slices.Concat([]int{-1, 0, 1, 2, 3, 4}, ends64) {
			turn++
			for _, at := range []int{-1, 0, 1, 30, 73, turn % 143, ends64[turn%4]} {
				look(roomyProg(p), body, at)
			}
		}
	}
}

// Promise 18: nothing is written into an argument, nor into the room behind its lists, nor read there.
func TestChapterElevenWritesIntoNoArgument(t *testing.T) {
	eachCompileCall(func(p impl.Prog, body int, at int) {
		if len(p.Caps) > 1000 && at != 0 {
			return
		}
		before := wholeProg(p)
		starts(t, p, body)
		compiles(t, p)
		belongs(t, p, body, at)
		if !reflect.DeepEqual(before, wholeProg(p)) {
			t.Errorf("an argument was written into: %v", brief(p))
		}
	})
}

// writeOverCodes writes into every list of what was compiled, to the end of its room.
func writeOverCodes(codes [][]impl.Step) {
	for _, code := range codes {
		fill(code, impl.Step{Op: -77, R: -77, A: -77, B: -77, N: -77})
	}
	fill(codes, nil)
}

// Promise 18: no answer shares memory with an argument or with another answer, and nothing is kept.
func TestChapterElevenAnswersNewMemory(t *testing.T) {
	eachCompileCall(func(p impl.Prog, body int, at int) {
		if at != 0 {
			return
		}
		firsts := startsWanted(p, body)
		codes, ok := compileWanted(p)
		place, first := placeWanted(p, body, at)
		list, again := impl.Starts(p, body), impl.Starts(p, body)
		code, _ := impl.Compile(p)
		other, _ := impl.Compile(p)
		scribble(list)
		writeOverCodes(code)
		if !slices.Equal(again, firsts) || !sameCodes(other, codes) {
			t.Errorf("two answers share memory: %v", brief(p))
		}
		last, right := impl.Compile(p)
		own, head := impl.PlaceOf(p, body, at)
		if !slices.Equal(impl.Starts(p, body), firsts) || right != ok || !sameCodes(last, codes) || own != place || head != first {
			t.Errorf("something was kept: %v", brief(p))
		}
		writeOver(p)
		if !slices.Equal(again, firsts) || !sameCodes(other, codes) {
			t.Errorf("the argument lies in the answer: %v", brief(p))
		}
	})
}

// Promise 18: the codes of one answer share no memory, nor the room behind them, though their bodies be one list.
func TestCodesLieApart(t *testing.T) {
	body := []impl.Ins{{Op: impl.SrSend}, {Op: impl.SrTake, R: 1, B: 2}, {Op: impl.SrEnd}}
	p := impl.Prog{Caps: []int{2}, Bodies: [][]impl.Ins{body, body, body, body}}
	for _, back := range []bool{false, true} {
		codes, _ := compiles(t, p)
		if len(codes) != 4 {
			t.Fatal("codes", len(codes))
		}
		for i := range codes {
			if back {
				i = 3 - i
			}
			fill(codes[i], impl.Step{Op: 100 + i})
		}
		for i, code := range codes {
			if slices.ContainsFunc(code, func(s impl.Step) bool { return s.Op != 100+i }) {
				t.Error("codes share memory", i, back)
			}
		}
	}
}

// Promise 18: from call to call the same, in whatever order first steps are gone through.
func TestChapterElevenAnswersTheSame(t *testing.T) {
	p := impl.Prog{Caps: []int{1, 2, 3}, Bodies: [][]impl.Ins{turnedBody(3, 24, 1), turnedBody(3, 24, 5), turnedBody(3, 23, 9)}}
	for range 12 {
		compiles(t, p)
		for body := range p.Bodies {
			starts(t, p, body)
			for at := range len(ownersWanted(p, body)) + 2 {
				belongs(t, p, body, at)
			}
		}
	}
}
