package tests

import (
	"fmt"
	"maps"
	"math"
	"reflect"
	"runtime"
	"slices"
	"strings"
	"sync"
	"testing"

	"loop.example/g00238/impl"
)

// stepForms is how the document writes steps, by their ops; [N] of those that may go without A is [N+rA] with one.
func stepForms() []string {
	return []string{"", "set rR N", "add rR rA rB", "sub rR rA rB", "less rR rA rB", "load rR [N]", "store [N] rB", "let [N] rB",
		"swap rR [N] rB", "print rA", "jump N", "zero rA N", "end", "fault"}
}

// stepTextWanted is the document's StepText once more, from its own lines.
func stepTextWanted(s impl.Step) string {
	if !stepRight(s, 800) {
		return ""
	}
	form := stepForms()[s.Op]
	if s.Op >= 5 && s.Op <= 7 && s.A >= 0 {
		form = strings.ReplaceAll(form, "[N]", "[N+rA]")
	}
	number := func(v int) string { return fmt.Sprintf("%d", v) }
	return strings.NewReplacer("R", number(s.R), "A", number(s.A), "B", number(s.B), "N", number(s.N)).Replace(form)
}

func codeTextWanted(list []impl.Step) string {
	if !codeRight(list) {
		return ""
	}
	text := ""
	for _, s := range list {
		text += stepTextWanted(s) + "\n"
	}
	return text
}

func traceTextWanted(list []impl.Note) string {
	var notes []string
	for _, n := range list {
		notes = append(notes, fmt.Sprintf("%d:%d", n.Who, n.V))
	}
	if notes == nil {
		return "-"
	}
	return strings.Join(notes, " ")
}

func chanTextWanted(c impl.Chan) string {
	if !chanRight(c) {
		return ""
	}
	text := fmt.Sprintf("%v%d", slices.Concat([]int{}, c.List), c.Cap-len(c.List))
	if c.Closed {
		return text + "!"
	}
	return text
}

func showsStep(t *testing.T, s impl.Step) string {
	t.Helper()
	text := impl.StepText(s)
	if want := stepTextWanted(s); text != want {
		t.Errorf("%v: %q, wanted %q", s, text, want)
	}
	return text
}

func showsCode(t *testing.T, list []impl.Step) string {
	t.Helper()
	text := impl.CodeText(list)
	if want := codeTextWanted(list); text != want {
		t.Errorf("code of %d: %q, wanted %q", len(list), text, want)
	}
	return text
}

func showsTrace(t *testing.T, list []impl.Note) string {
	t.Helper()
	text := impl.TraceText(list)
	if want := traceTextWanted(list); text != want {
		t.Errorf("trace of %d: %q, wanted %q", len(list), text, want)
	}
	return text
}

func showsChan(t *testing.T, c impl.Chan) string {
	t.Helper()
	text := impl.ChanText(c)
	if want := chanTextWanted(c); text != want {
		t.Errorf("channel %d %d %v: %q, wanted %q", c.Cap, len(c.List), c.Closed, text, want)
	}
	return text
}

// Steps of each op, written by hand.
func TestStepTextRows(t *testing.T) {
	for text, s := range map[string]impl.Step{
		"set r0 0":           {Op: 1},
		"set r7 -1":          {Op: 1, R: 7, N: -1},
		"set r1 10":          {Op: 1, R: 1, N: 10},
		"set r2 1000000000":  {Op: 1, R: 2, N: 1000000000},
		"set r3 -1000000000": {Op: 1, R: 3, N: -1000000000},
		"set r4 -100":        {Op: 1, R: 4, N: -100},
		"add r0 r0 r0":       {Op: 2},
		"add r1 r2 r3":       {Op: 2, R: 1, A: 2, B: 3},
		"sub r7 r5 r6":       {Op: 3, R: 7, A: 5, B: 6},
		"less r6 r5 r7":      {Op: 4, R: 6, A: 5, B: 7},
		"load r0 [0]":        {Op: 5, A: -1},
		"load r4 [3]":        {Op: 5, R: 4, A: -1, N: 3},
		"load r0 [0+r0]":     {Op: 5},
		"load r2 [23+r7]":    {Op: 5, R: 2, A: 7, N: 23},
		"store [0] r0":       {Op: 6, A: -1},
		"store [12] r5":      {Op: 6, A: -1, B: 5, N: 12},
		"store [9+r4] r1":    {Op: 6, A: 4, B: 1, N: 9},
		"store [0+r0] r0":    {Op: 6},
		"let [0] r7":         {Op: 7, A: -1, B: 7},
		"let [23] r0":        {Op: 7, A: -1, N: 23},
		"let [1+r0] r3":      {Op: 7, B: 3, N: 1},
		"swap r6 [2] r7":     {Op: 8, R: 6, B: 7, N: 2},
		"swap r0 [0] r0":     {Op: 8},
		"swap r1 [23] r2":    {Op: 8, R: 1, B: 2, N: 23},
		"print r0":           {Op: 9},
		"print r7":           {Op: 9, A: 7},
		"jump 0":             {Op: 10},
		"jump 9":             {Op: 10, N: 9},
		"jump 799":           {Op: 10, N: 799},
		"zero r0 0":          {Op: 11},
		"zero r6 5":          {Op: 11, A: 6, N: 5},
		"zero r1 799":        {Op: 11, A: 1, N: 799},
		"end":                {Op: 12},
		"fault":              {Op: 13},
	} {
		if got := impl.StepText(s); got != text {
			t.Errorf("%v: %q, wanted %q", s, got, text)
		}
		showsStep(t, s)
	}
}

// Each register that an op names, at each that it may be, the others as they are.
func TestStepTextRegisters(t *testing.T) {
	for _, k := range stepKinds() {
		for _, f := range []byte("RAB") {
			if !k.names(f) {
				continue
			}
			for v := range 8 {
				s := stepWith(k.plain(), f, v)
				if text := showsStep(t, s); !strings.Contains(text, fmt.Sprintf("r%d", v)) {
					t.Errorf("%v: %q has no register %d", s, text, v)
				}
			}
			for _, v := range []int{math.MinInt, -9, -8, -2, 8, 9, 10, 16, 256, math.MaxInt} {
				if s := stepWith(k.plain(), f, v); impl.StepText(s) != "" {
					t.Error("no register", s, impl.StepText(s))
				}
			}
		}
	}
}

// What may go without A is shown without it, and all else is none with an A of -1.
func TestStepTextWithoutA(t *testing.T) {
	for _, k := range stepKinds() {
		text := showsStep(t, stepWith(k.plain(), 'A', -1))
		if k.leastA < 0 != (text != "") || strings.Contains(text, "+") || strings.Contains(text, "-") {
			t.Errorf("%s: %q", k.name, text)
		}
		with := showsStep(t, k.plain())
		if k.leastA < 0 != strings.Contains(with, "+r") {
			t.Errorf("%s: %q", k.name, with)
		}
	}
}

// Numbers, cells and places: the last one is shown, one beyond is not.
func TestStepTextOfN(t *testing.T) {
	for _, k := range stepKinds() {
		least, most := k.bounds('N', 800)
		for _, n := range []int{least, least + 1, -1, 0, 1, 9, 10, 22, 99, 100, most - 1, most} {
			s := stepWith(k.plain(), 'N', n)
			text := showsStep(t, s)
			if is := n >= least && n <= most; is != (text != "") || is && k.n != "" && !strings.Contains(text, fmt.Sprint(n)) {
				t.Errorf("%s %d: %q", k.name, n, text)
			}
		}
		for _, n := range []int{math.MinInt, math.MinInt + 1, least - 1, most + 1, math.MaxInt - 1, math.MaxInt} {
			if s := stepWith(k.plain(), 'N', n); impl.StepText(s) != "" {
				t.Error("beyond", s, impl.StepText(s))
			}
		}
	}
}

// Promise 16: a step that is not StepOk, in each of the ways that chapter 7 names, is not shown.
func TestStepTextOfNone(t *testing.T) {
	var wrong []impl.Step
	for _, op := range []int{math.MinInt, -13, -1, 0, 14, 15, 16, 17, 256 + 1, math.MaxInt} {
		wrong = append(wrong, impl.Step{Op: op}, impl.Step{Op: op, R: 1, A: 2, B: 3, N: 4}, impl.Step{Op: op, A: -1})
	}
	for _, k := range stepKinds() {
		for _, f := range []byte("RAB") {
			wrong = append(wrong, stepWith(k.plain(), f, 8), stepWith(k.plain(), f, -2))
			if f != 'A' || k.leastA == 0 {
				wrong = append(wrong, stepWith(k.plain(), f, -1))
			}
		}
		for _, f := range []byte("RABN") {
			if !k.names(f) {
				wrong = append(wrong, stepWith(k.plain(), f, 1), stepWith(k.plain(), f, 7), stepWith(k.plain(), f, -1))
			}
		}
		_, most := k.bounds('N', 800)
		wrong = append(wrong, stepWith(k.plain(), 'N', most+1), stepWith(k.plain(), 'N', -1000000001))
	}
	for _, s := range wrong {
		if impl.StepOk(s, 800) || impl.StepText(s) != "" {
			t.Errorf("%v: %q", s, impl.StepText(s))
		}
		if code := []impl.Step{s, {Op: 12}}; impl.CodeText(code) != "" {
			t.Errorf("in code, %v: %q", s, impl.CodeText(code))
		}
	}
}

func TestStepTextsAsTold(t *testing.T) {
	shown := 0
	eachStepOf(func(s impl.Step) {
		if showsStep(t, s) != "" {
			shown++
		}
	})
	if shown < 500 {
		t.Error("too few are shown", shown)
	}
}

// Promise 16: all steps but those of MaSet are shown, no two by one text.
func TestStepTextsAreApart(t *testing.T) {
	of := map[string]impl.Step{}
	for _, s := range fewSteps() {
		text := showsStep(t, s)
		if other, had := of[text]; had || text == "" {
			t.Fatalf("one text of two: %q %v %v", text, s, other)
		}
		of[text] = s
	}
	next := picker(161)
	for r := range 8 {
		for range 300 {
			showsStep(t, impl.Step{Op: impl.MaSet, R: r, N: next.wide(1000000001)})
			showsStep(t, impl.Step{Op: impl.MaSet, R: r, N: -next.wide(1000000001)})
		}
	}
}

// Code written by hand: of one step and of many.
func TestCodeTextRows(t *testing.T) {
	for text, code := range map[string][]impl.Step{
		"end\n":                {{Op: 12}},
		"fault\n":              {{Op: 13}},
		"jump 0\n":             {{Op: 10}},
		"end\nend\n":           {{Op: 12}, {Op: 12}},
		"zero r3 1\njump 0\n":  {{Op: 11, A: 3, N: 1}, {Op: 10}},
		"end\nfault\njump 2\n": {{Op: 12}, {Op: 13}, {Op: 10, N: 2}},
		"set r7 1\nswap r6 [5] r7\nzero r6 4\njump 0\nload r4 [6]\nload r2 [9+r4]\nstore [7] r5\nstore [9+r4] r0\nset r7 0\nlet [5] r7\nlet [5+r1] r7\nprint r2\nadd r0 r1 r2\nsub r3 r4 r5\nless r6 r7 r0\nset r1 -42\nend\n": {
			{Op: 1, R: 7, N: 1}, {Op: 8, R: 6, B: 7, N: 5}, {Op: 11, A: 6, N: 4}, {Op: 10}, {Op: 5, R: 4, A: -1, N: 6}, {Op: 5, R: 2, A: 4, N: 9},
			{Op: 6, A: -1, B: 5, N: 7}, {Op: 6, A: 4, N: 9}, {Op: 1, R: 7}, {Op: 7, A: -1, B: 7, N: 5}, {Op: 7, A: 1, B: 7, N: 5}, {Op: 9, A: 2},
			{Op: 2, A: 1, B: 2}, {Op: 3, R: 3, A: 4, B: 5}, {Op: 4, R: 6, A: 7}, {Op: 1, R: 1, N: -42}, {Op: 12}},
	} {
		if got := impl.CodeText(code); got != text {
			t.Errorf("%q, wanted %q", got, text)
		}
		showsCode(t, code)
	}
}

// Code of each length that the document names: from none to MaxCode and one more.
func TestCodeTextLength(t *testing.T) {
	for _, steps := range []int{0, 1, 2, 3, 100, 799, 800, 801, 802, 100000} {
		text := showsCode(t, ends(steps))
		want := strings.Repeat("end\n", steps)
		if steps < 1 || steps > 800 {
			want = ""
		}
		if text != want {
			t.Error(steps, len(text))
		}
	}
	for _, steps := range []int{1, 5, 799, 800} {
		list := ends(steps)
		for i := range list {
			list[i] = impl.Step{Op: impl.MaJump, N: steps - 1 - i}
		}
		lines := strings.Split(showsCode(t, list), "\n")
		if len(lines) != steps+1 || lines[0] != fmt.Sprint("jump ", steps-1) || lines[steps-1] != "jump 0" || lines[steps] != "" {
			t.Error(steps, len(lines))
		}
	}
	if impl.CodeText(nil) != "" || impl.CodeText([]impl.Step{}) != "" {
		t.Error("no step")
	}
}

// Promise 16: code that is not CodeOk, in each of its ways, is not shown, though its steps may be.
func TestCodeTextOfNone(t *testing.T) {
	for what, code := range wrongCodes() {
		if text := showsCode(t, code); text != "" {
			t.Errorf("%s: %q", what, text)
		}
		behind := slices.Concat(ends(3), code)
		if text := showsCode(t, behind); what != "no code" && what != "an empty code" && what != "a jump beyond" && what != "a zero beyond" && text != "" {
			t.Errorf("%s behind ends: %q", what, text)
		}
	}
	for _, k := range stepKinds() {
		last := k.op == impl.MaJump || k.op == impl.MaEnd || k.op == impl.MaFault
		for _, ahead := range []int{0, 1, 5, 799} {
			if text := showsCode(t, append(ends(ahead), k.plain())); last != (text != "") {
				t.Errorf("%s is last, behind %d: %q", k.name, ahead, text)
			}
		}
	}
	for _, steps := range []int{1, 2, 6, 799, 800} {
		for at := range steps {
			list := ends(steps)
			list[at] = impl.Step{Op: impl.MaFault, R: 1}
			if impl.CodeText(list) != "" {
				t.Error("a step that is none", steps, at)
			}
			list[at] = impl.Step{}
			if impl.CodeText(list) != "" {
				t.Error("no step", steps, at)
			}
		}
	}
}

// Jumps of a code go to its own steps: one that a step alone may have need not be one of the code.
func TestCodeTextJumps(t *testing.T) {
	for _, steps := range []int{1, 2, 40, 799, 800} {
		for _, op := range []int{impl.MaJump, impl.MaZero} {
			for _, n := range []int{-1, 0, steps - 1, steps, steps + 1, 799, 800} {
				list := append([]impl.Step{{Op: op, N: n}}, ends(steps-1)...)
				right := n >= 0 && n < steps && (op == impl.MaJump || steps > 1)
				if text := showsCode(t, list); right != (text != "") {
					t.Errorf("%d %d %d: %q", steps, op, n, text)
				}
			}
		}
	}
}

// Code is StepText of each step, behind each a byte 10: of programs, and of steps that were picked.
func TestCodeTextIsThatOfItsSteps(t *testing.T) {
	var codes [][]impl.Step
	for _, p := range witnessProgs() {
		compiled, ok := impl.Compile(p)
		if !ok {
			t.Fatal("no code", brief(p))
		}
		codes = append(codes, compiled...)
	}
	next := picker(163)
	for range 400 {
		codes = append(codes, oddCode(&next))
	}
	long := 0
	for _, code := range codes {
		text := ""
		for _, s := range code {
			line := impl.StepText(s)
			if line == "" || strings.Contains(line, "\n") {
				t.Errorf("%v: %q", s, line)
			}
			text += line + "\n"
		}
		if got := showsCode(t, code); got != text || got == "" {
			t.Errorf("%q, wanted %q", got, text)
		}
		long = max(long, len(code))
	}
	if long < 100 {
		t.Error("no long code", long)
	}
}

// Traces written by hand: of no note, of one and of many; numbers at both ends of 64 bits.
func TestTraceTextRows(t *testing.T) {
	for text, list := range map[string][]impl.Note{
		"-":                       nil,
		"0:0":                     {{}},
		"1:-5":                    {{Who: 1, V: -5}},
		"3:10":                    {{Who: 3, V: 10}},
		"0:9223372036854775807":   {{V: math.MaxInt}},
		"0:-9223372036854775808":  {{V: math.MinInt}},
		"0:-9223372036854775807":  {{V: -math.MaxInt}},
		"-1:7":                    {{Who: -1, V: 7}},
		"-9223372036854775808:-1": {{Who: math.MinInt, V: -1}},
		"9223372036854775807:0":   {{Who: math.MaxInt}},
		"0:1 0:1":                 {{V: 1}, {V: 1}},
		"1:2 0:-30 4:400":         {{Who: 1, V: 2}, {V: -30}, {Who: 4, V: 400}},
		"1:-5 0:-9223372036854775808 2:1000000001 -2:0": {{Who: 1, V: -5}, {V: math.MinInt}, {Who: 2, V: 1000000001}, {Who: -2}},
	} {
		if got := impl.TraceText(list); got != text {
			t.Errorf("%v: %q, wanted %q", list, got, text)
		}
		showsTrace(t, list)
	}
	if impl.TraceText([]impl.Note{}) != "-" || impl.TraceText(make([]impl.Note, 0, 5)) != "-" {
		t.Error("an empty trace")
	}
}

// someNumbers are of one digit and of many, below nought, nought, and at both ends of 64 bits.
func someNumbers() []int {
	list := []int{math.MinInt, math.MinInt + 1, math.MaxInt - 1, math.MaxInt, 0, 1, -1}
	for v := 1; v <= math.MaxInt/10; v *= 10 {
		list = append(list, v, -v, 10*v, -10*v, 10*v-1, 1-10*v, 7*v, -3*v)
	}
	return list
}

func TestTraceTextNumbers(t *testing.T) {
	var all []impl.Note
	for _, v := range someNumbers() {
		for _, who := range []int{0, 1, 3, 4, 10, -1, -10, math.MinInt, math.MaxInt} {
			notes := []impl.Note{{Who: who, V: v}, {Who: v, V: who}}
			showsTrace(t, notes[:1])
			showsTrace(t, notes)
			all = append(all, notes...)
		}
	}
	if text := showsTrace(t, all); strings.Count(text, " ") != len(all)-1 || strings.Count(text, ":") != len(all) {
		t.Error("how many", len(all), strings.Count(text, " "))
	}
}

// A trace has no limit and no threads of its own here: one beyond MaxTrace is shown, too.
func TestTraceTextOfManyNotes(t *testing.T) {
	next := picker(167)
	for _, count := range []int{1, 2, 3, 10, 3999, 4000, 4001, 100000} {
		list := make([]impl.Note, count)
		for i := range list {
			list[i] = impl.Note{Who: next.below(6) - 1, V: next.below(2001) - 1000}
		}
		if text := showsTrace(t, list); len(strings.Split(text, " ")) != count {
			t.Error(count, len(text))
		}
	}
}

// The trace of a program that ran is shown as it printed.
func TestTraceTextOfRuns(t *testing.T) {
	for _, p := range witnessProgs() {
		s, _ := impl.SourceNew(p)
		s, _ = impl.Fair(p, s, 200)
		showsTrace(t, s.Trace)
		m, _ := impl.Launch(p)
		m, _ = impl.Finish(p, m, 5)
		showsTrace(t, m.Trace)
		for n, c := range s.Chans {
			if text := showsChan(t, c); text == "" {
				t.Error("no channel", n)
			}
		}
	}
	p := impl.Prog{Bodies: [][]impl.Ins{{{Op: impl.SrPrint}, {Op: impl.SrEnd}}, {{Op: impl.SrSet, N: -12}, {Op: impl.SrPrint}, {Op: impl.SrEnd}}}}
	s, _ := impl.SourceNew(p)
	if text := impl.TraceText(s.Trace); text != "-" {
		t.Error("nothing was printed", text)
	}
	s, _ = impl.Fair(p, s, 3)
	if text := impl.TraceText(s.Trace); text != "0:0 1:-12" {
		t.Error("printed", text)
	}
}

// Channels written by hand: of each room, empty, with some and full, open and closed.
func TestChanTextRows(t *testing.T) {
	for text, c := range map[string]impl.Chan{
		"[]1":                      {Cap: 1},
		"[]2":                      {Cap: 2},
		"[]3":                      {Cap: 3},
		"[]4":                      {Cap: 4},
		"[]1!":                     {Cap: 1, Closed: true},
		"[]4!":                     {Cap: 4, Closed: true},
		"[0]0":                     {Cap: 1, List: []int{0}},
		"[-7]0!":                   {Cap: 1, List: []int{-7}, Closed: true},
		"[5]1":                     {Cap: 2, List: []int{5}},
		"[5 6]0":                   {Cap: 2, List: []int{5, 6}},
		"[6 5]0!":                  {Cap: 2, List: []int{6, 5}, Closed: true},
		"[4 -1]1!":                 {Cap: 3, List: []int{4, -1}, Closed: true},
		"[1 1 1]0":                 {Cap: 3, List: []int{1, 1, 1}},
		"[9]3!":                    {Cap: 4, List: []int{9}, Closed: true},
		"[10 0 -3]1":               {Cap: 4, List: []int{10, 0, -3}},
		"[-9223372036854775808]0!": {Cap: 1, List: []int{math.MinInt}, Closed: true},
		"[-9223372036854775808 9223372036854775807]2":               {Cap: 4, List: []int{math.MinInt, math.MaxInt}},
		"[1000000001 -100 0 -9223372036854775807]0":                 {Cap: 4, List: []int{1000000001, -100, 0, -math.MaxInt}},
		"[9223372036854775807 9223372036854775807 0 -1000000000]0!": {Cap: 4, List: []int{math.MaxInt, math.MaxInt, 0, -1000000000}, Closed: true},
	} {
		if got := impl.ChanText(c); got != text {
			t.Errorf("%v: %q, wanted %q", c, got, text)
		}
		showsChan(t, c)
	}
	if impl.ChanText(impl.Chan{Cap: 2, List: []int{}}) != "[]2" || impl.ChanText(impl.Chan{Cap: 2, List: []int{}, Closed: true}) != "[]2!" {
		t.Error("an empty list")
	}
}

func TestChanTextsAsTold(t *testing.T) {
	shown := 0
	eachChan(func(c impl.Chan) {
		if showsChan(t, c) != "" {
			shown++
		}
	})
	if shown < 50 {
		t.Error("too few are shown", shown)
	}
	for _, v := range someNumbers() {
		for room := 1; room <= 4; room++ {
			for count := range room + 1 {
				list := slices.Repeat([]int{v}, count)
				showsChan(t, impl.Chan{Cap: room, List: list})
				showsChan(t, impl.Chan{Cap: room, List: list, Closed: true})
			}
		}
	}
}

// Promise 16: a channel that is not ChanOk, in each of the ways that chapter 3 names, is not shown.
func TestChanTextOfNone(t *testing.T) {
	for _, closed := range []bool{false, true} {
		for _, room := range []int{math.MinInt, -4, -1, 0, 5, 6, 100, math.MaxInt} {
			for _, count := range []int{0, 1, 4, 5, 100} {
				if c := (impl.Chan{Cap: room, List: make([]int, count), Closed: closed}); impl.ChanText(c) != "" {
					t.Error("no room", room, count, closed, impl.ChanText(c))
				}
			}
		}
		for room := 1; room <= 4; room++ {
			for _, more := range []int{1, 2, 4, 100000} {
				if c := (impl.Chan{Cap: room, List: make([]int, room+more), Closed: closed}); impl.ChanText(c) != "" {
					t.Error("more than there is room for", room, more, closed, impl.ChanText(c))
				}
			}
			if c := (impl.Chan{Cap: room, List: make([]int, room), Closed: closed}); impl.ChanText(c) == "" {
				t.Error("full", room, closed)
			}
		}
	}
}

// Promise 16: what is sent, taken and closed shows, one after the other.
func TestChanTextBesideWhatIsDone(t *testing.T) {
	c := impl.Chan{Cap: 2}
	told := []string{impl.ChanText(c)}
	do := func(d impl.Chan, _ int) {
		c = d
		told = append(told, impl.ChanText(c))
	}
	take := func() {
		d, _, code := impl.ChanTake(c)
		do(d, code)
	}
	do(impl.ChanSend(c, 8))
	do(impl.ChanSend(c, -9))
	do(impl.ChanSend(c, 1))
	take()
	do(impl.ChanClose(c))
	do(impl.ChanSend(c, 1))
	take()
	take()
	if want := []string{"[]2", "[8]1", "[8 -9]0", "[8 -9]0", "[-9]1", "[-9]1!", "[-9]1!", "[]2!", "[]2!"}; !slices.Equal(told, want) {
		t.Error(told)
	}
}

// A showing is one of each that can be shown, with room behind its lists.
type showing struct {
	s     impl.Step
	code  []impl.Step
	trace []impl.Note
	c     impl.Chan
}

func (x showing) texts() [4]string {
	return [4]string{impl.StepText(x.s), impl.CodeText(x.code), impl.TraceText(x.trace), impl.ChanText(x.c)}
}

func (x showing) wanted() [4]string {
	return [4]string{stepTextWanted(x.s), codeTextWanted(x.code), traceTextWanted(x.trace), chanTextWanted(x.c)}
}

// whole is all that the lists hold, with what stands behind them.
func (x showing) whole() []any {
	return []any{slices.Clone(x.code[:cap(x.code)]), slices.Clone(x.trace[:cap(x.trace)]), x.c.Cap, slices.Clone(x.c.List[:cap(x.c.List)]), x.c.Closed}
}

func (x showing) writeOver() {
	fill(x.code[:cap(x.code)], impl.Step{Op: impl.MaFault})
	fill(x.trace[:cap(x.trace)], impl.Note{Who: 9, V: 9})
	scribble(x.c.List)
}

func spareCode(list []impl.Step) []impl.Step {
	return slices.Concat(list, []impl.Step{{Op: 12}, {Op: -31}, {Op: 13}})[:len(list)]
}

func spareTrace(list []impl.Note) []impl.Note {
	return slices.Concat(list, []impl.Note{{Who: -31, V: -32}, {Who: 1, V: 2}})[:len(list)]
}

// eachShowing goes through right ones and wrong ones of each.
func eachShowing(look func(x showing)) {
	var codes [][]impl.Step
	for _, k := range stepKinds() {
		codes = append(codes, []impl.Step{k.plain()}, append(ends(3), k.plain()), append(ends(799), k.plain()), append(ends(800), k.plain()))
	}
	wrong := wrongCodes()
	for _, name := range slices.Sorted(maps.Keys(wrong)) {
		codes = append(codes, wrong[name])
	}
	next := picker(173)
	at := 0
	eachChan(func(c impl.Chan) {
		x := showing{code: codes[at%len(codes)], c: spareChan(c)}
		x.s = impl.Step{Op: next.below(15), R: next.below(9), A: next.below(10) - 1, B: next.below(9), N: next.below(810) - 5}
		if at%3 > 0 {
			x.s = stepKinds()[at%13].plain()
		}
		if at%4 == 0 {
			x.code = oddCode(&next)
		}
		for range at % 7 {
			x.trace = append(x.trace, impl.Note{Who: next.below(7) - 2, V: someNumbers()[next.below(len(someNumbers()))]})
		}
		x.code, x.trace = spareCode(x.code), spareTrace(x.trace)
		look(x)
		at++
	})
}

// Promise 18: nothing is written into an argument, nor into the room behind its lists, nor read there.
func TestChapterSixteenWritesIntoNoArgument(t *testing.T) {
	shown := [4]int{}
	eachShowing(func(x showing) {
		whole := x.whole()
		texts := x.texts()
		if !reflect.DeepEqual(whole, x.whole()) {
			t.Errorf("an argument was written into: %v", x.c)
		}
		if texts != x.wanted() {
			t.Errorf("%q, wanted %q", texts, x.wanted())
		}
		for i, text := range texts {
			if text != "" {
				shown[i]++
			}
		}
	})
	if slices.Min(shown[:]) < 50 {
		t.Error("too few are shown", shown)
	}
}

// Promise 18: what was told stays as it was, whatever becomes of the argument, and nothing is kept.
func TestChapterSixteenKeepsNothing(t *testing.T) {
	eachShowing(func(x showing) {
		want := x.wanted()
		first, second := x.texts(), x.texts()
		x.writeOver()
		over := x.texts()
		if first != want || second != want {
			t.Errorf("%q %q, wanted %q", first, second, want)
		}
		if over != x.wanted() {
			t.Errorf("what was is told: %q, wanted %q", over, x.wanted())
		}
	})
}

// Promise 18: from call to call the same, in whatever order it is asked, and of many calls at once; nothing goes on
// behind a call.
func TestChapterSixteenAnswersTheSame(t *testing.T) {
	before := runtime.NumGoroutine()
	var all []showing
	var want [][4]string
	eachShowing(func(x showing) { all, want = append(all, x), append(want, x.texts()) })
	if after := runtime.NumGoroutine(); after > before {
		t.Error("goroutines", before, after)
	}
	var calls sync.WaitGroup
	same := make([]bool, 8)
	for k := range same {
		calls.Go(func() {
			same[k] = true
			for i := range all {
				at := (i*(2*k+1) + k) % len(all)
				same[k] = same[k] && all[at].texts() == want[at] && want[at] == all[at].wanted()
			}
		})
	}
	calls.Wait()
	if slices.Contains(same, false) {
		t.Error("another answer", same)
	}
}

// Promise 18: anything is answered, at any numbers, and of long lists.
func TestChapterSixteenAnswersAnything(t *testing.T) {
	odd := []int{math.MinInt, math.MinInt + 1, -1 << 32, -1, 0, 1, 5, 1 << 32, math.MaxInt - 1, math.MaxInt}
	for _, op := range append([]int{2, 6, 7, 8, 11, 12, 13, 14}, odd...) {
		for _, v := range odd {
			for _, n := range odd {
				s := impl.Step{Op: op, R: v, A: n, B: v, N: n}
				showsStep(t, s)
				showsCode(t, []impl.Step{s})
				showsCode(t, []impl.Step{s, {Op: impl.MaEnd}})
				showsTrace(t, []impl.Note{{Who: v, V: n}, {Who: n, V: op}})
				showsChan(t, impl.Chan{Cap: op, List: []int{v, n}, Closed: v > n})
			}
		}
	}
	showsCode(t, make([]impl.Step, 100000))
	showsChan(t, impl.Chan{Cap: 100000, List: make([]int, 100000)})
	showsChan(t, impl.Chan{Cap: 4, List: make([]int, 100000), Closed: true})
}
