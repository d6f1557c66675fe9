package tests

import (
	"math"
	"slices"
	"testing"

	"loop.example/g00238/impl"
)

// stepRow says of one kind of step what the document names: fields by their
// letters, what N is, and the least that A may be.
type stepRow struct {
	name   string
	op     int
	named  string
	n      string
	leastA int
}

// stepKinds lists the kinds by numbers, so that a change of the constants shows.
func stepKinds() []stepRow {
	return []stepRow{
		{"set", 1, "RN", "number", 0},
		{"add", 2, "RAB", "", 0},
		{"sub", 3, "RAB", "", 0},
		{"less", 4, "RAB", "", 0},
		{"load", 5, "RAN", "cell", -1},
		{"store", 6, "ABN", "cell", -1},
		{"let", 7, "ABN", "cell", -1},
		{"swap", 8, "RBN", "cell", 0},
		{"print", 9, "A", "", 0},
		{"jump", 10, "N", "place", 0},
		{"zero", 11, "AN", "place", 0},
		{"end", 12, "", "", 0},
		{"fault", 13, "", "", 0},
	}
}

func (k stepRow) names(field byte) bool { return slices.Contains([]byte(k.named), field) }

// plain is the kind with registers that differ and N 0.
func (k stepRow) plain() impl.Step {
	s := impl.Step{Op: k.op}
	for i, f := range []byte(k.named) {
		if f != 'N' {
			s = stepWith(s, f, i+4)
		}
	}
	return s
}

func stepWith(s impl.Step, field byte, v int) impl.Step {
	return impl.Step(with(impl.Ins(s), field, v))
}

func stepField(s impl.Step, field byte) int { return fieldOf(impl.Ins(s), field) }

// bounds of a field: what it may be in a code of so many places, from its least
// to its greatest; 0 alone where it is not named.
func (k stepRow) bounds(field byte, places int) (int, int) {
	switch {
	case !k.names(field):
		return 0, 0
	case field == 'A':
		return k.leastA, 7
	case field != 'N':
		return 0, 7
	case k.n == "number":
		return -1000000000, 1000000000
	case k.n == "cell":
		return 0, 23
	}
	return 0, max(places, 0) - 1
}

// stepRight is StepOk by the table of kinds.
func stepRight(s impl.Step, places int) bool {
	if s.Op < 1 || s.Op > 13 {
		return false
	}
	k := stepKinds()[s.Op-1]
	for _, f := range []byte("RABN") {
		least, most := k.bounds(f, places)
		if v := stepField(s, f); v < least || v > most {
			return false
		}
	}
	return true
}

func codeRight(list []impl.Step) bool {
	if len(list) == 0 || len(list) > 800 {
		return false
	}
	for _, s := range list {
		if !stepRight(s, len(list)) {
			return false
		}
	}
	last := list[len(list)-1].Op
	return last == 10 || last == 12 || last == 13
}

// wordOf is the word of fields, whether they are a step's or not; n stands for N
// and MaxNum together, a for A and 1.
func wordOf(op int, r int, a int, b int, n int) int { return op + 16*r + 256*a + 4096*b + 65536*n }

func wordWanted(s impl.Step) (int, bool) {
	if !stepRight(s, 800) {
		return 0, false
	}
	return wordOf(s.Op, s.R, s.A+1, s.B, s.N+1000000000), true
}

func words(t *testing.T, s impl.Step) (int, bool) {
	t.Helper()
	w, ok := impl.StepWord(s)
	want, right := wordWanted(s)
	if w != want || ok != right {
		t.Error("word", s, w, ok, "wanted", want, right)
	}
	return w, ok
}

// readsStep: a word is read as that step.
func readsStep(t *testing.T, w int, s impl.Step) {
	t.Helper()
	if got, ok := impl.WordStep(w); !ok || got != s {
		t.Error("read", w, got, ok, "wanted", s)
	}
}

func readsNone(t *testing.T, what string, w int) {
	t.Helper()
	if got, ok := impl.WordStep(w); ok || got != (impl.Step{}) {
		t.Error(what, w, got, ok)
	}
}

// fewSteps is every step that is right for 800 places, but for those of MaSet,
// of which there are too many.
func fewSteps() []impl.Step {
	var list []impl.Step
	for _, k := range stepKinds()[1:] {
		kind := []impl.Step{{Op: k.op}}
		for _, f := range []byte("RABN") {
			least, most := k.bounds(f, 800)
			var more []impl.Step
			for _, s := range kind {
				for v := least; v <= most; v++ {
					more = append(more, stepWith(s, f, v))
				}
			}
			kind = more
		}
		list = append(list, kind...)
	}
	return list
}

// eachStepOf goes through steps of each op and of none, right and wrong.
func eachStepOf(look func(s impl.Step)) {
	regs := []int{math.MinInt, -2, -1, 0, 1, 4, 7, 8, math.MaxInt}
	ns := []int{math.MinInt, -1000000001, -1000000000, -1, 0, 1, 4, 5, 23, 24, 799, 800, 1000000000, 1000000001, math.MaxInt}
	ops := []int{math.MinInt, -1, 14, 15, 16, 17, math.MaxInt}
	for op := 0; op <= 13; op++ {
		ops = append(ops, op)
	}
	for _, op := range ops {
		for _, r := range regs {
			for _, a := range regs {
				for _, b := range regs {
					for _, n := range ns {
						look(impl.Step{Op: op, R: r, A: a, B: b, N: n})
					}
				}
			}
		}
	}
}

// wide picks as below does, where count is beyond what a picker picks from.
func (k *picker) wide(count int) int {
	var bits uint64
	for range 4 {
		bits = bits<<16 | uint64(k.below(1<<16))
	}
	return int(bits % uint64(count))
}

// ends is a code of so many steps, all of them ends.
func ends(steps int) []impl.Step {
	list := make([]impl.Step, steps)
	for i := range list {
		list[i].Op = impl.MaEnd
	}
	return list
}

func TestNumbersOfChapterSeven(t *testing.T) {
	if impl.MaxCode != 800 {
		t.Error(impl.MaxCode)
	}
	ops := []int{impl.MaSet, impl.MaAdd, impl.MaSub, impl.MaLess, impl.MaLoad, impl.MaStore, impl.MaLet,
		impl.MaSwap, impl.MaPrint, impl.MaJump, impl.MaZero, impl.MaEnd, impl.MaFault}
	for i, op := range ops {
		if op != i+1 {
			t.Error("op", i, op)
		}
	}
}

func TestStepOkRegisters(t *testing.T) {
	for _, k := range stepKinds() {
		if !impl.StepOk(k.plain(), 1) {
			t.Error(k.name, "plain", k.plain())
		}
		for _, f := range []byte("RAB") {
			if !k.names(f) {
				continue
			}
			for v := 0; v <= 7; v++ {
				if s := stepWith(k.plain(), f, v); !impl.StepOk(s, 1) {
					t.Error(k.name, "register", s)
				}
			}
			for _, v := range []int{-2, 8, 9, 15, 16, math.MinInt, math.MaxInt} {
				if s := stepWith(k.plain(), f, v); impl.StepOk(s, 1) {
					t.Error(k.name, "no register", s)
				}
			}
			mayBeNone := f == 'A' && (k.name == "load" || k.name == "store" || k.name == "let")
			if s := stepWith(k.plain(), f, -1); impl.StepOk(s, 1) != mayBeNone {
				t.Error(k.name, "one below the first register", s)
			}
		}
	}
}

func TestStepOkFieldsNotNamed(t *testing.T) {
	for _, k := range stepKinds() {
		for _, f := range []byte("RABN") {
			if k.names(f) {
				continue
			}
			for _, v := range []int{math.MinInt, -1000000000, -2, -1, 1, 2, 7, 8, 1000000000, math.MaxInt} {
				s := stepWith(k.plain(), f, v)
				if impl.StepOk(s, 800) || impl.CodeOk([]impl.Step{s, {Op: impl.MaEnd}}) {
					t.Error(k.name, "a field that is not named", s)
				}
				if w, ok := impl.StepWord(s); w != 0 || ok {
					t.Error(k.name, "the word of it", s, w)
				}
			}
		}
	}
}

// Registers may be the same one, of every kind.
func TestStepOkRegistersThatAreOne(t *testing.T) {
	for _, k := range stepKinds() {
		for reg := 0; reg <= 7; reg++ {
			s := impl.Step{Op: k.op}
			for _, f := range []byte(k.named) {
				if f != 'N' {
					s = stepWith(s, f, reg)
				}
			}
			if !impl.StepOk(s, 1) {
				t.Error(k.name, s)
			}
		}
	}
}

func TestStepOkOfN(t *testing.T) {
	for _, k := range stepKinds() {
		right, wrong := []int{0}, []int{-1, 1, math.MinInt, math.MaxInt}
		switch k.n {
		case "number":
			right = []int{-1000000000, -999999999, -1, 0, 1, 24, 800, 999999999, 1000000000}
			wrong = []int{-1000000001, 1000000001, math.MinInt, math.MaxInt}
		case "cell":
			right, wrong = []int{0, 1, 22, 23}, []int{-1, 24, 25, math.MinInt, math.MaxInt}
		case "place":
			right, wrong = []int{0, 1, 3, 4}, []int{-1, 5, 6, 799, math.MinInt, math.MaxInt}
		}
		for _, n := range right {
			if s := stepWith(k.plain(), 'N', n); !impl.StepOk(s, 5) {
				t.Error(k.name, "refused N", n)
			}
		}
		for _, n := range wrong {
			if s := stepWith(k.plain(), 'N', n); impl.StepOk(s, 5) {
				t.Error(k.name, "accepted N", n)
			}
		}
	}
}

// A count of places bounds nothing but the jumps, and has no limit of its own.
func TestStepOkPlaces(t *testing.T) {
	for _, k := range stepKinds() {
		for _, places := range []int{math.MinInt, -1, 0} {
			if impl.StepOk(k.plain(), places) != (k.n != "place") {
				t.Error(k.name, places)
			}
		}
		for _, places := range []int{1, 2, 24, 800, 801, math.MaxInt} {
			if !impl.StepOk(k.plain(), places) {
				t.Error(k.name, places)
			}
			last := stepWith(k.plain(), 'N', places-1)
			beyond := stepWith(k.plain(), 'N', places)
			if k.n == "place" && (!impl.StepOk(last, places) || impl.StepOk(beyond, places)) {
				t.Error(k.name, "the last of", places)
			}
		}
	}
}

func TestStepOkOpsThatThereAreNot(t *testing.T) {
	for _, op := range []int{math.MinInt, -13, -1, 0, 14, 15, 16, 17, 256, math.MaxInt} {
		for _, s := range []impl.Step{{Op: op}, {Op: op, R: 1}, {Op: op, A: 1}, {Op: op, A: -1}, {Op: op, B: 1}, {Op: op, N: 1}} {
			if impl.StepOk(s, 800) || impl.CodeOk([]impl.Step{s}) || impl.CodeOk([]impl.Step{s, {Op: impl.MaEnd}}) {
				t.Error(s)
			}
			if w, ok := impl.StepWord(s); w != 0 || ok {
				t.Error("word", s, w)
			}
		}
	}
}

func TestStepOkAsTold(t *testing.T) {
	for _, places := range []int{math.MinInt, -1, 0, 5, 800, math.MaxInt} {
		eachStepOf(func(s impl.Step) {
			if got := impl.StepOk(s, places); got != stepRight(s, places) {
				t.Error(s, places, got)
			}
		})
	}
}

func TestCodeOkLength(t *testing.T) {
	for _, steps := range []int{0, 1, 2, 799, 800, 801, 802, 100000} {
		if impl.CodeOk(ends(steps)) != (steps >= 1 && steps <= 800) {
			t.Error(steps)
		}
	}
	if impl.CodeOk(nil) || impl.CodeOk([]impl.Step{}) {
		t.Error("none")
	}
}

func TestCodeOkLastStep(t *testing.T) {
	for _, k := range stepKinds() {
		last := k.name == "jump" || k.name == "end" || k.name == "fault"
		if impl.CodeOk([]impl.Step{k.plain()}) != last {
			t.Error(k.name, "alone")
		}
		for _, ahead := range []int{1, 2, 799} {
			if impl.CodeOk(append(ends(ahead), k.plain())) != last {
				t.Error(k.name, "behind", ahead)
			}
		}
		for _, end := range []int{impl.MaJump, impl.MaEnd, impl.MaFault} {
			if !impl.CodeOk([]impl.Step{k.plain(), {Op: end}}) {
				t.Error(k.name, "ahead of", end)
			}
		}
	}
	for _, op := range []int{impl.MaJump, impl.MaEnd, impl.MaFault} {
		if impl.CodeOk([]impl.Step{{Op: op, R: 1}}) || impl.CodeOk([]impl.Step{{Op: op, A: -1}}) || impl.CodeOk([]impl.Step{{Op: op, N: 1}}) {
			t.Error("a last step that is not right", op)
		}
	}
}

func TestCodeOkEachStep(t *testing.T) {
	wrong := []impl.Step{{}, {Op: 14}, {Op: impl.MaEnd, N: 1}, {Op: impl.MaJump, N: 6}, {Op: impl.MaZero, N: -1},
		{Op: impl.MaLoad, N: 24}, {Op: impl.MaSwap, A: -1}, {Op: impl.MaSet, N: 1000000001}, {Op: impl.MaAdd, R: 8}}
	for at := range 6 {
		for _, s := range wrong {
			list := ends(6)
			list[at] = s
			if impl.CodeOk(list) {
				t.Error("step", at, s)
			}
		}
		list := ends(6)
		list[at] = impl.Step{Op: impl.MaJump, N: 5}
		if !impl.CodeOk(list) {
			t.Error("a jump to the last step", at)
		}
	}
}

// Jumps of a code go to its own steps, however long codes may be.
func TestCodeOkJumps(t *testing.T) {
	for _, steps := range []int{2, 3, 40, 799, 800} {
		for _, op := range []int{impl.MaJump, impl.MaZero} {
			for _, n := range []int{-1, 0, 1, steps - 1, steps, steps + 1, 800} {
				list := ends(steps)
				list[0] = impl.Step{Op: op, N: n}
				if impl.CodeOk(list) != (n >= 0 && n < steps) {
					t.Error(steps, op, n)
				}
			}
		}
	}
}

func TestCodesAsTold(t *testing.T) {
	next, right := picker(7), 0
	steps := []impl.Step{{}, {Op: impl.MaJump, N: 4}, {Op: impl.MaZero, A: 2, N: 5}, {Op: impl.MaEnd}, {Op: impl.MaFault}}
	for _, k := range stepKinds() {
		steps = append(steps, k.plain())
	}
	for range 4000 {
		list := make([]impl.Step, next.below(8))
		for i := range list {
			list[i] = steps[next.below(len(steps))]
		}
		got := impl.CodeOk(list)
		if got != codeRight(list) {
			t.Error(list, got)
		}
		if got {
			right++
		}
	}
	if right < 100 {
		t.Error("too few are right", right)
	}
}

// Words that were worked out by hand.
func TestWordRows(t *testing.T) {
	for _, row := range []struct {
		s impl.Step
		w int
	}{
		{impl.Step{Op: impl.MaSet, N: -1000000000}, 257},
		{impl.Step{Op: impl.MaSet}, 65536000000257},
		{impl.Step{Op: impl.MaSet, R: 7, N: 1000000000}, 131072000000369},
		{impl.Step{Op: impl.MaAdd, R: 1, A: 2, B: 3}, 65536000013074},
		{impl.Step{Op: impl.MaSub, R: 7, A: 7, B: 7}, 65536000030835},
		{impl.Step{Op: impl.MaLess, R: 3, A: 2, B: 1}, 65536000004916},
		{impl.Step{Op: impl.MaLoad, A: -1}, 65536000000005},
		{impl.Step{Op: impl.MaLoad, R: 3, A: -1, N: 5}, 65536000327733},
		{impl.Step{Op: impl.MaStore, A: 7, B: 7, N: 23}, 65536001538054},
		{impl.Step{Op: impl.MaLet, A: -1, B: 7, N: 8}, 65536000552967},
		{impl.Step{Op: impl.MaSwap, R: 6, B: 7, N: 8}, 65536000553320},
		{impl.Step{Op: impl.MaPrint, A: 3}, 65536000001033},
		{impl.Step{Op: impl.MaJump, N: 799}, 65536052363530},
		{impl.Step{Op: impl.MaZero, A: 6, N: 4}, 65536000263947},
		{impl.Step{Op: impl.MaEnd}, 65536000000268},
		{impl.Step{Op: impl.MaFault}, 65536000000269},
	} {
		if w, ok := impl.StepWord(row.s); w != row.w || !ok {
			t.Error(row.s, w, ok, "wanted", row.w)
		}
		readsStep(t, row.w, row.s)
	}
}

func TestWordsAsTold(t *testing.T) {
	right := 0
	eachStepOf(func(s impl.Step) {
		w, ok := words(t, s)
		if !ok {
			return
		}
		right++
		readsStep(t, w, s)
	})
	if right < 500 {
		t.Error("too few are right", right)
	}
}

// Promise 7, of all words but those of MaSet: each is read as it was, no two
// steps have one word, and what no step has beside them is none.
func TestWordsAreReadAsTheyWere(t *testing.T) {
	steps := fewSteps()
	of := map[int]impl.Step{}
	for _, s := range steps {
		w, ok := words(t, s)
		if other, had := of[w]; !ok || had {
			t.Fatal("one word of two steps", w, s, other)
		}
		of[w] = s
		readsStep(t, w, s)
	}
	if len(of) != 3*512+8*9*24+2*9*8*24+8*8*24+8+800+8*800+2 {
		t.Error("how many", len(of))
	}
	for w := range of {
		for _, by := range []int{1, 16, 256, 4096, 65536, 65536 * 24, 65536 * 800} {
			for _, near := range []int{w - by, w + by} {
				s, is := of[near]
				if is {
					readsStep(t, near, s)
				} else if near%16 != impl.MaSet {
					readsNone(t, "beside a word", near)
				}
			}
		}
	}
}

// Promise 7, of MaSet: every register, and numbers from the least to the greatest.
func TestWordsOfSet(t *testing.T) {
	next := picker(11)
	for r := range 8 {
		ns := []int{-1000000000, -999999999, -65536, -1, 0, 1, 65535, 65536, 999999999, 1000000000}
		for range 200 {
			ns = append(ns, next.wide(1000000001), -next.wide(1000000001))
		}
		for _, n := range ns {
			s := impl.Step{Op: impl.MaSet, R: r, N: n}
			w, ok := words(t, s)
			if !ok || w != wordOf(1, r, 1, 0, n+1000000000) {
				t.Error(s, w)
			}
			readsStep(t, w, s)
		}
	}
}

// The least and the greatest word of each op, and the numbers beside them.
func TestLeastAndGreatestWords(t *testing.T) {
	const zero = 1000000000
	for _, row := range []struct {
		op       int
		least    int
		greatest int
	}{
		{1, wordOf(1, 0, 1, 0, 0), wordOf(1, 7, 1, 0, 2*zero)},
		{2, wordOf(2, 0, 1, 0, zero), wordOf(2, 7, 8, 7, zero)},
		{3, wordOf(3, 0, 1, 0, zero), wordOf(3, 7, 8, 7, zero)},
		{4, wordOf(4, 0, 1, 0, zero), wordOf(4, 7, 8, 7, zero)},
		{5, wordOf(5, 0, 0, 0, zero), wordOf(5, 7, 8, 0, zero+23)},
		{6, wordOf(6, 0, 0, 0, zero), wordOf(6, 0, 8, 7, zero+23)},
		{7, wordOf(7, 0, 0, 0, zero), wordOf(7, 0, 8, 7, zero+23)},
		{8, wordOf(8, 0, 1, 0, zero), wordOf(8, 7, 1, 7, zero+23)},
		{9, wordOf(9, 0, 1, 0, zero), wordOf(9, 0, 8, 0, zero)},
		{10, wordOf(10, 0, 1, 0, zero), wordOf(10, 0, 1, 0, zero+799)},
		{11, wordOf(11, 0, 1, 0, zero), wordOf(11, 0, 8, 0, zero+799)},
		{12, wordOf(12, 0, 1, 0, zero), wordOf(12, 0, 1, 0, zero)},
		{13, wordOf(13, 0, 1, 0, zero), wordOf(13, 0, 1, 0, zero)},
	} {
		for _, w := range []int{row.least, row.greatest} {
			s, ok := impl.WordStep(w)
			if back, is := impl.StepWord(s); !ok || !is || back != w || s.Op != row.op {
				t.Error("no word", row.op, w, s)
			}
		}
		// Words of one op are 16 apart: what is nearest below and above is of no step.
		for _, by := range []int{16, 32, 16 * 16, 4096, 65536, 65536 * zero} {
			readsNone(t, "below the least", row.least-by)
			readsNone(t, "above the greatest", row.greatest+by)
		}
		for w := row.least - 300; w <= row.least+300; w++ {
			besideWord(t, w)
		}
		for w := row.greatest - 300; w <= row.greatest+300; w++ {
			besideWord(t, w)
		}
	}
	for by := 1; by <= 100000; by++ {
		readsNone(t, "above the greatest of all", 131072000000369+by)
		readsNone(t, "below the least of all", 257-by)
	}
}

// besideWord: a number is read just if the step that its fields tell, which are
// cut as digits of 16 here, is right.
func besideWord(t *testing.T, w int) {
	t.Helper()
	if w < 0 {
		readsNone(t, "below 0", w)
		return
	}
	bits := uint64(w)
	s := impl.Step{Op: int(bits & 15), R: int(bits >> 4 & 15), A: int(bits>>8&15) - 1, B: int(bits >> 12 & 15), N: int(bits>>16) - 1000000000}
	if stepRight(s, 800) {
		readsStep(t, w, s)
	} else {
		readsNone(t, "no step", w)
	}
}

func TestNumbersThatAreNoWords(t *testing.T) {
	wrong := []int{math.MinInt, math.MinInt + 1, math.MinInt + 257, math.MinInt + 65536000000257, -65536000000268, -257, -16, -15, -1,
		0, 1, 12, 13, 15, 16, 256, 258, 268, 1 << 32, 65536 * 1000000000, math.MaxInt - 1, math.MaxInt}
	for _, w := range wrong {
		readsNone(t, "no word", w)
	}
	for _, k := range stepKinds() {
		w, ok := words(t, k.plain())
		if !ok {
			t.Fatal(k.name)
		}
		readsNone(t, "below 0", -w)
		readsNone(t, "with a sign", w|math.MinInt)
		readsNone(t, "with a bit that is too high", w|1<<62)
		readsNone(t, "with a bit that is too high", w|1<<48)
	}
}

// Each field of a word of each op, at all that it may hold.
func TestWordsOfStepsThatAreNotRight(t *testing.T) {
	const zero = 1000000000
	for _, k := range stepKinds() {
		for r := range 16 {
			for a := range 16 {
				for b := range 16 {
					for _, n := range []int{0, zero - 1, zero, zero + 1, zero + 23, zero + 24, zero + 799, zero + 800, 2 * zero, 2*zero + 1, 1 << 46} {
						besideWord(t, wordOf(k.op, r, a, b, n))
					}
				}
			}
		}
		w, _ := words(t, k.plain())
		s := k.plain()
		for field := 8; field < 16; field++ {
			readsNone(t, "a register R", w+16*(field-s.R))
			readsNone(t, "a register B", w+4096*(field-s.B))
			if field > 8 {
				readsNone(t, "a register A", w+256*(field-s.A-1))
			}
		}
		readsNone(t, "an N beyond", wordOf(k.op, s.R, s.A+1, s.B, 2*zero+1))
	}
	for _, op := range []int{0, 14, 15} {
		for r := range 8 {
			readsNone(t, "an op that there is not", wordOf(op, r, 1, 0, zero))
		}
	}
}

func TestWordsPickedAtRandom(t *testing.T) {
	next := picker(13)
	for range 200000 {
		w := wordOf(next.below(16), next.below(9), next.below(10), next.below(9), 1000000000+next.below(30))
		besideWord(t, w)
		besideWord(t, next.wide(math.MaxInt)-next.wide(math.MaxInt))
	}
}

// What is read has the word that it was read from, however it was come by.
func TestReadingAndWriting(t *testing.T) {
	next, right := picker(17), 0
	for range 40000 {
		op, n := 1+next.below(13), 1000000000
		if op == impl.MaSet {
			n = next.wide(2000000002)
		}
		w := wordOf(op, next.below(2), next.below(2), next.below(2), n)
		s, ok := impl.WordStep(w)
		if !ok {
			continue
		}
		right++
		if back, is := impl.StepWord(s); !is || back != w || !impl.StepOk(s, 800) {
			t.Error("read", w, s, back)
		}
	}
	if right < 5000 {
		t.Error("too few are words", right)
	}
}

// Promise 18, of a code: it is not written into, nor is the room behind it.
func TestChapterSevenWritesIntoNoArgument(t *testing.T) {
	var codes [][]impl.Step
	for _, k := range stepKinds() {
		codes = append(codes, []impl.Step{k.plain()}, append(ends(3), k.plain()), append(ends(800), k.plain()))
	}
	codes = append(codes, nil, []impl.Step{{}}, []impl.Step{{Op: -1, R: math.MinInt, A: math.MaxInt}}, ends(799), ends(100000))
	for _, code := range codes {
		whole := slices.Concat(code, []impl.Step{{Op: -31}, {R: -32}, {N: -33}})
		was := slices.Clone(whole)
		given := whole[:len(code)]
		first, second := impl.CodeOk(given), impl.CodeOk(given)
		if !slices.Equal(whole, was) {
			t.Error("written", len(code))
		}
		if first != codeRight(code) || first != second {
			t.Error("answered", len(code), first, second)
		}
	}
}

// Promise 18, of steps and words: each is answered, twice the same.
func TestChapterSevenAnswersAnything(t *testing.T) {
	odd := []int{math.MinInt, math.MinInt + 1, -1 << 32, -1, 0, 1, 1 << 32, math.MaxInt - 1, math.MaxInt}
	for _, op := range append([]int{5, 6, 8, 11, 12}, odd...) {
		for _, v := range odd {
			for _, n := range odd {
				s := impl.Step{Op: op, R: v, A: n, B: v, N: n}
				if impl.StepOk(s, v) != stepRight(s, v) || impl.StepOk(s, n) != stepRight(s, n) {
					t.Error(s, v, n)
				}
				words(t, s)
				besideWord(t, v+n)
				besideWord(t, v*n+op)
			}
		}
	}
}
