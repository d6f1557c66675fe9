package tests

import (
	"fmt"
	"math"
	"regexp"
	"slices"
	"strconv"
	"strings"
	"testing"

	"loop.example/g00238/impl"
)

func cloneProg(p impl.Prog) impl.Prog {
	q := impl.Prog{Caps: slices.Clone(p.Caps)}
	for _, body := range p.Bodies {
		q.Bodies = append(q.Bodies, slices.Clone(body))
	}
	return q
}

func cloneDesk(d impl.Desk) impl.Desk {
	return impl.Desk{P: cloneProg(d.P), S: cloneSource(d.S), M: cloneMachine(d.M), Order: slices.Clone(d.Order)}
}

func sameDesk(a impl.Desk, b impl.Desk) bool {
	return sameProg(a.P, b.P) && sameSource(a.S, b.S) && sameMachine(a.M, b.M) && slices.Equal(a.Order, b.Order)
}

func zeroDesk(d impl.Desk) bool { return sameDesk(d, impl.Desk{}) }

// deskRight is what DeskLine asks of a desk.
func deskRight(d impl.Desk) bool { return sourceRight(d.P, d.S) && fits(d.P, d.M) }

// lineForms are the lines that there are, but for those that tell nothing.
var lineForms = func() map[string]*regexp.Regexp {
	forms := map[string]*regexp.Regexp{}
	for word, numbers := range map[string]int{"step": 1, "core": 3, "rest": 0, "trace": 0, "said": 0, "chan": 1, "same": 0} {
		forms[word] = regexp.MustCompile("^" + word + strings.Repeat(` (0|[1-9][0-9]?[0-9]?)`, numbers) + `\z`)
	}
	return forms
}()

// partsWanted are the word of a line and its numbers; no word is of a line that is none.
func partsWanted(line string) (string, [3]int) {
	for word, form := range lineForms {
		if found := form.FindStringSubmatch(line); found != nil {
			var n [3]int
			for i, digits := range found[1:] {
				n[i], _ = strconv.Atoi(digits)
			}
			if n[2] <= 40 {
				return word, n
			}
		}
	}
	return "", [3]int{}
}

// coresGoOn has steps of cores at a desk, with the witness, and answers the last code.
func coresGoOn(d *impl.Desk, picks []impl.Pick) int {
	code := 0
	for _, x := range picks {
		then, did := coreStepWanted(d.M, x)
		if did == 0 && commitsWanted(d.P, d.M, then, x.Who) {
			d.Order = append(d.Order, x.Who)
		}
		d.M, code = then, did
	}
	return code
}

func restPicks(p impl.Prog, m impl.Machine) []impl.Pick {
	k := newCalmer(p, m)
	k.rest()
	return k.picks
}

func orderSameWanted(d impl.Desk) bool {
	s, _ := impl.SourceNew(d.P)
	s, _ = runWanted(d.P, s, d.Order)
	return sameWanted(d.P, d.M, s)
}

var codeWords = [5]string{"ok", "bad", "none", "over", "wait"}

// deskLineWanted is the document's DeskLine once more, by what is wanted of the chapters ahead.
func deskLineWanted(d impl.Desk, line string) (impl.Desk, string) {
	e := cloneDesk(d)
	if !deskRight(d) {
		return e, "bad"
	}
	if line == "" || line[0] == ';' {
		return e, ""
	}
	word, n := partsWanted(line)
	switch word {
	case "step":
		s, code := stepWanted(e.P, e.S, n[0])
		e.S = s
		return e, codeWords[code]
	case "core":
		code := coresGoOn(&e, slices.Repeat([]impl.Pick{{Who: n[0], Late: n[1]}}, n[2]))
		return e, codeWords[code]
	case "rest":
		coresGoOn(&e, restPicks(e.P, e.M))
		return e, "ok"
	case "trace":
		return e, traceTextWanted(e.S.Trace)
	case "said":
		return e, traceTextWanted(e.M.Trace)
	case "chan":
		if n[0] >= len(e.S.Chans) {
			return e, "none"
		}
		return e, chanTextWanted(e.S.Chans[n[0]])
	case "same":
		return e, map[bool]string{true: "yes", false: "no"}[orderSameWanted(e)]
	}
	return e, "what"
}

// deskNewWanted is the document's DeskNew once more, of a text that is read as p.
func deskNewWanted(p impl.Prog) impl.Desk {
	s, _ := impl.SourceNew(p)
	m, _ := launchWanted(p)
	return impl.Desk{P: p, S: s, M: m}
}

// briefDesk tells enough of a desk to find out what is wrong with it.
func briefDesk(d impl.Desk) string {
	return brief(d.S) + " | " + brief(d.M.Cores) + " | " + brief(d.M.Trace) + " | " + brief(d.Order)
}

// tellsLine holds DeskLine against what is wanted, and answers it.
func tellsLine(t *testing.T, d impl.Desk, line string) (impl.Desk, string) {
	t.Helper()
	got, told := impl.DeskLine(d, line)
	want, wanted := deskLineWanted(d, line)
	if told != wanted || !sameDesk(got, want) {
		t.Errorf("%.80q of %v: %q %v, not %q %v", line, brief(d.P), told, briefDesk(got), wanted, briefDesk(want))
	}
	return got, told
}

// tellsLines has lines at a desk one behind the other, held against what is wanted.
func tellsLines(t *testing.T, d impl.Desk, lines ...string) (impl.Desk, []string) {
	t.Helper()
	var all []string
	for _, line := range lines {
		e, told := tellsLine(t, d, line)
		d, all = e, append(all, told)
	}
	return d, all
}

func deskOf(t *testing.T, p impl.Prog) impl.Desk {
	t.Helper()
	d, ok := impl.DeskNew(impl.ProgText(p))
	if !ok || !sameDesk(d, deskNewWanted(p)) {
		t.Fatal("no desk", brief(p))
	}
	return d
}

// sessionWanted is the document's Session once more: what DeskLine is to tell, line by line.
func sessionWanted(text string, lines string) (string, int) {
	p, ok := impl.ProgRead(text)
	if !ok {
		return "", -1
	}
	list := strings.SplitAfter(lines, "\n")
	if last := len(list) - 1; list[last] == "" {
		list = list[:last]
	}
	if len(list) > 100 {
		return "", -2
	}
	d, all := deskNewWanted(p), ""
	for _, line := range list {
		e, told := deskLineWanted(d, strings.TrimSuffix(line, "\n"))
		d = e
		if told != "" {
			all += told + "\n"
		}
	}
	return all, len(list)
}

// holdsSession holds Session against what is wanted, and answers it.
func holdsSession(t *testing.T, text string, lines string) (string, int) {
	t.Helper()
	got, n := impl.Session(text, lines)
	want, wanted := sessionWanted(text, lines)
	if n != wanted || got != want {
		t.Errorf("%.80q %.300q: %q %v, not %q %v", text, lines, got, n, want, wanted)
	}
	return got, n
}

func TestNumbersOfChapterSeventeen(t *testing.T) {
	if impl.MaxLines != 100 {
		t.Error(impl.MaxLines)
	}
}

// deskProg sends three numbers through a channel of room 1 and closes it; thread 1 prints what comes.
const deskProg = "caps 1 2\nbody\nset 0 7\nsend 0 0\nset 0 -8\nsend 0 0\nclose 0\nend\nbody\ntake 0 1 0\nzero 1 4\nprint 0\njump 0\nend\nbody\nclose 1\nclose 1\nend\n"

func TestDeskNewRows(t *testing.T) {
	d, ok := impl.DeskNew(deskProg)
	if !ok || impl.ProgText(d.P) != deskProg || len(d.Order) != 0 || !impl.SourceOk(d.P, d.S) || !impl.MachineOk(d.M) {
		t.Fatal(ok, brief(d))
	}
	if len(d.S.Threads) != 3 || len(d.S.Chans) != 2 || len(d.S.Trace) != 0 || len(d.M.Cores) != 3 || len(d.M.Trace) != 0 || !impl.Same(d.P, d.M, d.S) {
		t.Error(brief(d.S), brief(d.M))
	}
	d, ok = impl.DeskNew("caps\nbody\nend\n")
	if !ok || len(d.P.Caps) != 0 || len(d.S.Chans) != 0 || len(d.M.Codes) != 1 || !slices.Equal(d.M.Codes[0], []impl.Step{{Op: impl.MaEnd}}) {
		t.Error(ok, brief(d))
	}
}

func TestDeskNewAsTold(t *testing.T) {
	eachProg(func(p impl.Prog) { deskOf(t, p) })
	eachCodedProg(func(p impl.Prog) { deskOf(t, p) })
	for _, p := range witnessProgs() {
		deskOf(t, p)
	}
}

// noDesk asks that a text has no desk, and no session either.
func noDesk(t *testing.T, text string) {
	t.Helper()
	if d, ok := impl.DeskNew(text); ok || !zeroDesk(d) {
		t.Errorf("%.80q: %v %v", text, ok, brief(d))
	}
	for _, lines := range []string{"", "same\n", strings.Repeat("\n", 101)} {
		if said, n := impl.Session(text, lines); said != "" || n != -1 {
			t.Errorf("%.80q: %q %v", text, said, n)
		}
	}
}

// A text that is no program: none at all, one byte away from one, and one that is wrong in other ways.
func TestDesksOfNoProgram(t *testing.T) {
	for _, text := range []string{"", "\n", "caps 1\n", "caps 1", "caps 0\nbody\nend\n", "caps 5\nbody\nend\n", "caps 1 1 1 1\nbody\nend\n", "caps\nbody\n", "caps\nbody\nend",
		"caps\nbody\nend\n\n", " caps\nbody\nend\n", "caps\r\nbody\r\nend\r\n", "Caps\nbody\nend\n", "caps\nbody\nprint 0\n", "caps\nbody\njump 1\n", "caps\nbody\nclose 0\nend\n",
		"caps" + strings.Repeat("\nbody\nend", 5) + "\n", "caps\nbody" + strings.Repeat("\nend", 25) + "\n", "same", "\xff\xfe", strings.Repeat("caps", 100000), strings.Repeat("\n", 100000)} {
		noDesk(t, text)
	}
	right := 0
	for _, text := range []string{deskProg, "caps\nbody\nend\n", "caps 4\nbody\nset 0 10\nend\n"} {
		edits(text, func(near string) {
			if !progWanted(near) {
				noDesk(t, near)
				return
			}
			right++
			if d, ok := impl.DeskNew(near); !ok || impl.ProgText(d.P) != near || !sameDesk(d, deskNewWanted(d.P)) {
				t.Errorf("%q: %v", near, ok)
			}
		})
	}
	if right < 20 {
		t.Error("too few are right", right)
	}
}

// Each kind of line, with what it tells and what becomes of the desk written by hand.
func TestDeskLineRows(t *testing.T) {
	d, _ := impl.DeskNew(deskProg)
	for _, row := range []struct {
		line, told, order string
		trace, said       int
	}{
		{"same", "yes", "", 0, 0},
		{"trace", "-", "", 0, 0},
		{"said", "-", "", 0, 0},
		{"chan 0", "[]1", "", 0, 0},
		{"chan 1", "[]2", "", 0, 0},
		{"chan 2", "none", "", 0, 0},
		{"step 1", "wait", "", 0, 0},
		{"step 0", "ok", "", 0, 0},
		{"step 0", "ok", "", 0, 0},
		{"chan 0", "[7]0", "", 0, 0},
		{"step 0", "ok", "", 0, 0},
		{"step 0", "wait", "", 0, 0},
		{"step 1", "ok", "", 0, 0},
		{"step 0", "ok", "", 0, 0},
		{"step 0", "ok", "", 0, 0},
		{"chan 0", "[-8]0!", "", 0, 0},
		{"step 1", "ok", "", 0, 0},
		{"step 1", "ok", "", 1, 0},
		{"trace", "1:7", "", 1, 0},
		{"said", "-", "", 1, 0},
		{"same", "yes", "", 1, 0},
		{"step 2", "ok", "", 1, 0},
		{"step 2", "ok", "", 1, 0},
		{"step 2", "over", "", 1, 0},
		{"step 3", "none", "", 1, 0},
		{"", "", "", 1, 0},
		{"; step 0", "", "", 1, 0},
		{"core 0 0 0", "ok", "", 1, 0},
		{"core 0 5 1", "ok", "0", 1, 0},
		{"core 0 0 2", "ok", "00", 1, 0},
		{"same", "yes", "00", 1, 0},
		{"core 1 9 3", "ok", "00", 1, 0},
		{"rest", "ok", "00", 1, 0},
		{"core 1 0 2", "ok", "001", 1, 0},
		{"said", "-", "001", 1, 0},
		{"rest", "ok", "001", 1, 0},
		{"rest", "ok", "001", 1, 0},
		{"core 1 0 2", "ok", "00111", 1, 1},
		{"said", "1:7", "00111", 1, 1},
		{"core 0 3 2", "ok", "001110", 1, 1},
		{"rest", "ok", "0011100", 1, 1},
		{"same", "yes", "0011100", 1, 1},
		{"core 2 0 40", "over", "001110022", 1, 1},
		{"core 2 0 1", "over", "001110022", 1, 1},
		{"core 2 0 0", "ok", "001110022", 1, 1},
		{"core 3 0 0", "ok", "001110022", 1, 1},
		{"core 3 0 1", "none", "001110022", 1, 1},
		{"same", "yes", "001110022", 1, 1},
		{"help", "what", "001110022", 1, 1},
		{"core 0 0 41", "what", "001110022", 1, 1},
		{"trace", "1:7", "001110022", 1, 1},
	} {
		e, told := impl.DeskLine(d, row.line)
		order := strings.Trim(strings.ReplaceAll(fmt.Sprint(e.Order), " ", ""), "[]")
		if told != row.told || order != row.order || len(e.S.Trace) != row.trace || len(e.M.Trace) != row.said || !sameProg(d.P, e.P) {
			t.Errorf("%v: %q %v %v %v, wanted %v", row.line, told, order, e.S.Trace, e.M.Trace, row)
		}
		d, _ = tellsLine(t, d, row.line)
	}
}

// desksOnTheirWay are desks behind some lines, of many programs: cores and threads go on apart, some to rest.
func desksOnTheirWay() []impl.Desk {
	var out []impl.Desk
	three := impl.Prog{Caps: []int{2, 1, 3}, Bodies: [][]impl.Ins{{{Op: impl.SrSet, R: 1, N: -40}, {Op: impl.SrTrySend, R: 0, A: 1, N: 2}, {Op: impl.SrSend, A: 1, N: 1}, {Op: impl.SrJump, N: 1}}, {{Op: impl.SrTake, R: 0, B: 1, N: 1}, {Op: impl.SrClose, N: 2}, {Op: impl.SrPrint}, {Op: impl.SrEnd}}}}
	for i, p := range append(witnessProgs(), three) {
		d, next := deskNewWanted(p), picker(i+1700)
		for k := range 12 {
			if k%3 == 0 {
				out = append(out, cloneDesk(d))
			}
			cores := len(p.Bodies)
			d.S, _ = runWanted(p, d.S, next.picks(cores, next.below(6)))
			coresGoOn(&d, oddPicks(cores, next.below(40), &next))
			if k%4 == 3 {
				coresGoOn(&d, restPicks(p, d.M))
			}
		}
		out = append(out, d)
	}
	return out
}

var askLines = []string{"trace", "said", "chan 0", "chan 1", "chan 2", "chan 3", "chan 999", "same"}

var turnLines = []string{"step 0", "step 1", "step 3", "step 4", "step 999", "core 0 0 1", "core 1 2 7", "core 2 999 40", "core 0 1 40", "core 3 0 13", "core 4 0 1", "core 999 999 1", "core 0 0 0", "core 9 0 0", "rest"}

var noLines = []string{"what", "core 0 0 41", "step", "step 00", "same ", " trace"}

func someLines() []string {
	return slices.Concat(askLines, turnLines, noLines, []string{"", ";", "; step 0", ";;\xff"})
}

// Each kind of line at desks of many programs, with each word that is told.
func TestDeskLinesAsTold(t *testing.T) {
	told := count{}
	for _, d := range desksOnTheirWay() {
		for _, line := range someLines() {
			_, said := tellsLine(t, d, line)
			told[line+": "+said]++
			told[said]++
		}
	}
	told.atLeast(t, 20, "ok", "none", "over", "yes", "what", "", "-", "core 9 0 0: ok", "core 0 0 0: ok")
	told.atLeast(t, 3, "step 0: ok", "step 0: wait", "step 0: over", "step 3: none", "core 0 0 1: over", "core 0 1 40: over", "core 0 1 40: ok", "core 3 0 13: none", "chan 2: none")
	if told["chan 2: []3"]+told["chan 2: [-40]2"]+told["chan 2: [-40 -40]1"]+told["chan 2: [-40]2!"]+told["chan 2: [-40 -40]1!"] == 0 {
		t.Error("no third channel", told)
	}
}

// numerals are all that a line may have, and such as it may not.
func numerals(look func(digits string, n int, right bool)) {
	for n := range 1000 {
		look(strconv.Itoa(n), n, true)
		look("0"+strconv.Itoa(n), 0, false)
		look("-"+strconv.Itoa(n), 0, false)
		look("+"+strconv.Itoa(n), 0, false)
	}
	for _, digits := range []string{"", " ", "00", "000", "01", "007", "010", "0000", "1000", "1001", "9999", "10000", "4294967296", "9223372036854775807", "9223372036854775808",
		"18446744073709551616", "99999999999999999999999999", "+0", "-0", "+1", "-1", "--1", "1-", "0x1", "0b1", "0o1", "1e0", "1.0", "1.", ".1", "1,0", "1_0", "_1", "1 ", " 1", "1\t", "\t1", "1\r", "1\n", "\n1", "1\x00",
		"a", "l", "O", "\u0661", "\uff11", "\u00b2", "1\u00a0", "\u00a01", "\xff", "1\xff", "\xc0\xb1", strings.Repeat("0", 100), strings.Repeat("1", 100000)} {
		look(digits, 0, false)
	}
}

// Numbers are of one, two or three digits without needless noughts, in each place of each line; N is at most 40.
func TestNumbersOfLines(t *testing.T) {
	d := deskOf(t, mustRead(t, deskProg))
	numerals(func(digits string, n int, right bool) {
		for form, told := range map[string]string{"step %": "none", "chan %": "none", "core % 0 0": "ok", "core % 7 1": "none", "core 0 % 0": "ok", "core 9 % 0": "ok", "core 9 % 40": "none", "core 0 0 %": "ok"} {
			switch {
			case !right:
				told = "what"
			case form == "core 0 0 %" && n > 40:
				told = "what"
			case n < 3 && form == "step %":
				told = []string{"ok", "wait", "ok"}[n]
			case n < 2 && form == "chan %":
				told = []string{"[]1", "[]2"}[n]
			case n < 3 && form == "core % 7 1":
				told = "ok"
			}
			line := strings.ReplaceAll(form, "%", digits)
			if e, got := impl.DeskLine(d, line); got != told || told == "what" && !sameDesk(d, e) {
				t.Errorf("%.40q: %q, wanted %q", line, got, told)
			}
		}
	})
}

func mustRead(t *testing.T, text string) impl.Prog {
	t.Helper()
	p, ok := impl.ProgRead(text)
	if !ok {
		t.Fatalf("%q", text)
	}
	return p
}

// Lines that are one byte away from one: most of them are none, and turn nothing.
func TestLinesBesideLines(t *testing.T) {
	d, _ := tellsLines(t, deskOf(t, mustRead(t, deskProg)), "step 0", "step 0", "core 0 0 3", "core 2 0 9")
	told := count{}
	for _, line := range []string{"step 0", "step 10", "core 0 0 2", "core 2 10 40", "rest", "trace", "said", "chan 0", "chan 100", "same", ";", "x"} {
		edits(line, func(near string) {
			e, said := tellsLine(t, d, near)
			told[said]++
			if said == "what" && !sameDesk(d, e) {
				t.Errorf("%q turned something", near)
			}
		})
	}
	told.atLeast(t, 10, "what", "ok", "none", "")
	told.atLeast(t, 2000, "what")
}

// Words that are none: such as begin as one, capital letters, numbers too many and too few, blanks, bytes that are not ASCII.
func TestLinesThatAreNone(t *testing.T) {
	d, _ := tellsLines(t, deskOf(t, mustRead(t, deskProg)), "step 0", "core 0 0 2")
	none := []string{" ", "  ", "\n", "\t", "\x00", "0", "1 2 3", "-", "*", "%", "what", "bad", "ok", "none", "over", "wait", "yes", "no", "help", "end", "body", "caps", "caps 1", "print 0", "send 0 0",
		" ;", "\n;", "#", "//", "st", "ste", "steps", "steps 0", "ste 0", "step", "step ", "step  0", " step 0", "step 0 ", "step 0 0", "step0", "step:0", "step\t0", "step 0\n", "\nstep 0", "step 0;", "step 0 ;",
		"Step 0", "STEP 0", "sTEP 0", "step O", "step -", "step x", "step 0x", "step\u00a00", "step\u20030", "\ufeffstep 0", "st\u00e9p 0", "\uff53tep 0", "step \u0660", "step\xff0", "\xffstep 0", "step 0\xff",
		"core", "core ", "core 0", "core 0 0", "core 0 0 ", "core 0 0 0 0", "core  0 0 0", "core 0  0 0", "core 0 0  0", "core 0 0 0 ", "core 0 0 41", "core 0 0 99", "core 0 0 100", "core 9 0 41", "core 0,0,0", "Core 0 0 0", "cores 0 0 0",
		"rest ", " rest", "rest 0", "rest 1", "Rest", "REST", "res", "rests", "rest\n", "rest\r", "rest;", "rest rest", "trace ", "trace 0", "Trace", "traces", "trac", "TRACE", "trace\r", "trace trace",
		"said ", "said 0", "Said", "sai", "saids", "said\x00", "chan", "chan ", "chan  0", "chan 0 ", "chan 0 0", "Chan 0", "channel 0", "cha 0", "chan 00", "chan -1", "same ", "same 0", "Same", "sam", "sames", "same same", "same yes",
		"\u0455ame", "sa\u200bme", "\xc3", "\xf0\x9f\x98\x80", strings.Repeat("step 0 ", 3), strings.Repeat("core", 3), strings.Repeat(" ", 100000), strings.Repeat(" 1", 100000), "step" + strings.Repeat(" 1", 100000), strings.Repeat("x", 1000000)}
	for _, line := range none {
		if e, told := tellsLine(t, d, line); told != "what" || !sameDesk(d, e) {
			t.Errorf("%.40q: %q", line, told)
		}
	}
	for _, line := range []string{"", ";", ";;", "; ", ";\n", ";step 0", "; rest", ";\xff", ";" + strings.Repeat("x", 1000000)} {
		if e, told := tellsLine(t, d, line); told != "" || !sameDesk(d, e) {
			t.Errorf("%.40q: %q", line, told)
		}
	}
}

// A core line is so many steps of a core with that Late: from each N to the next one, of cores that go on, end, fault, and
// wait for a lock, and of none.
func TestCoreLines(t *testing.T) {
	codes := count{}
	for i, d := range desksOnTheirWay() {
		if i%5 > 1 {
			continue
		}
		for who := range len(d.M.Cores) + 1 {
			for _, late := range []int{0, 1, 5, 999} {
				e := cloneDesk(d)
				for n := range 41 {
					told := "ok"
					if n > 0 {
						told = codeWords[coresGoOn(&e, []impl.Pick{{Who: who, Late: late}})]
					}
					got, said := impl.DeskLine(d, fmt.Sprint("core ", who, " ", late, " ", n))
					if said != told || !sameDesk(got, e) {
						t.Fatalf("core %v %v %v of %v: %q %v, not %q %v", who, late, n, brief(d.P), said, briefDesk(got), told, briefDesk(e))
					}
					codes[said]++
				}
				tellsLine(t, d, fmt.Sprint("core ", who, " ", late, " ", 41))
			}
		}
	}
	codes.atLeast(t, 500, "ok", "over", "none")
}

// A step line is a step of a thread, and of the machine nothing; of all threads, and one beyond.
func TestStepLines(t *testing.T) {
	codes := count{}
	for _, d := range desksOnTheirWay() {
		for who := range len(d.P.Bodies) + 2 {
			s, code := stepWanted(d.P, d.S, who)
			e, told := impl.DeskLine(d, fmt.Sprint("step ", who))
			if told != codeWords[code] || !sameSource(e.S, s) || !sameMachine(e.M, d.M) || !slices.Equal(e.Order, d.Order) {
				t.Errorf("step %v of %v: %q %v", who, brief(d.P), told, briefDesk(e))
			}
			codes[told]++
		}
	}
	codes.atLeast(t, 10, "ok", "over", "none", "wait")
}

// The witness behind lines of cores is that of their steps, and behind rest that of the steps to rest, too.
func TestWitnessOfTheDesk(t *testing.T) {
	rested := 0
	for i, p := range witnessProgs() {
		d, next := deskOf(t, p), picker(i+1750)
		var picks []impl.Pick
		for k := range 40 {
			if k%3 == 2 {
				more, order := restPicks(p, d.M), len(d.Order)
				picks = append(picks, more...)
				d, _ = impl.DeskLine(d, "rest")
				if len(d.Order) > order {
					rested++
				}
			} else {
				who, late, n := next.below(len(p.Bodies)+1), next.below(4), next.below([]int{6, 41}[k%2])
				picks = append(picks, slices.Repeat([]impl.Pick{{Who: who, Late: late}}, n)...)
				d, _ = impl.DeskLine(d, fmt.Sprint("core ", who, " ", late, " ", n))
			}
			order, m, ok := impl.Witness(p, picks)
			if !ok || !slices.Equal(d.Order, order) || !sameMachine(d.M, m) {
				t.Fatalf("%v %v: %v, not %v", i, k, briefDesk(d), brief(order))
			}
			if _, told := impl.DeskLine(d, "same"); told != "yes" {
				t.Fatalf("%v %v: %q %v", i, k, told, briefDesk(d))
			}
		}
	}
	if rested < 8 {
		t.Error("too few did a place on their way to rest", rested)
	}
}

// Behind rest the machine is the Rest of what it was; the source is as it was.
func TestRestLines(t *testing.T) {
	moved := 0
	for _, d := range desksOnTheirWay() {
		e, told := tellsLine(t, d, "rest")
		if told != "ok" || !sameMachine(e.M, impl.Rest(d.P, d.M)) || !sameSource(e.S, d.S) || !slices.Equal(e.Order[:len(d.Order)], d.Order) {
			t.Errorf("%v: %q %v", brief(d.P), told, briefDesk(e))
		}
		for n := range d.P.Caps {
			if impl.Locked(e.M.Mem, d.P.Caps, n) {
				t.Error("locked", n, brief(d.P))
			}
		}
		if !sameMachine(d.M, e.M) {
			moved++
		}
		if f, told := impl.DeskLine(e, "rest"); told != "ok" || !sameDesk(e, f) {
			t.Errorf("rest of what rests: %q %v", told, briefDesk(f))
		}
	}
	if moved < 15 {
		t.Error("too few were on their way", moved)
	}
}

// A core that ends, faults or is over within its steps: over is told where steps are left.
func TestCoresThatEndWithinTheirSteps(t *testing.T) {
	for _, row := range []struct {
		text  string
		steps int // until it does not run
		order int
		state int
	}{
		{"caps\nbody\nend\n", 1, 1, impl.StEnd},
		{"caps\nbody\nset 0 1\nprint 0\nend\n", 3, 3, impl.StEnd},
		{"caps 1\nbody\nclose 0\nend\n", 10, 2, impl.StEnd},
		{"caps 1\nbody\nclose 0\nclose 0\nend\n", 17, 2, impl.StFault},
	} {
		d, _ := impl.DeskNew(row.text)
		for n := range 41 {
			e, told := tellsLine(t, d, fmt.Sprint("core 0 0 ", n))
			ran := e.M.Cores[0].State == impl.StRun
			if ran != (n < row.steps) || (told == "ok") != (n <= row.steps) || told != "ok" && told != "over" {
				t.Errorf("%q %v: %q %v", row.text, n, told, briefDesk(e))
			}
			if n >= row.steps && (len(e.Order) != row.order || e.M.Cores[0].State != row.state) {
				t.Errorf("%q %v: %v", row.text, n, briefDesk(e))
			}
			if f, again := impl.DeskLine(e, "core 0 0 1"); n >= row.steps && (again != "over" || !sameDesk(e, f)) {
				t.Errorf("%q %v: again %q", row.text, n, again)
			}
		}
	}
}

// There is no room: of notes of a source and of a machine, of writes to a cell. What is refused is over, and no place was done.
func TestLinesWithoutRoom(t *testing.T) {
	p := mustRead(t, "caps 1\nbody\nprint 0\nclose 0\njump 0\n")
	for _, notes := range []int{3998, 3999, 4000} {
		d := deskNewWanted(p)
		d.S.Trace, d.M.Trace = make([]impl.Note, notes), make([]impl.Note, notes)
		for _, line := range []string{"step 0", "core 0 0 1", "core 0 0 40", "rest"} {
			e, told := tellsLine(t, d, line)
			switch {
			case notes == 4000 && line != "rest":
				if told != "over" || !sameDesk(d, e) {
					t.Error(notes, line, told, len(e.Order))
				}
			case line != "core 0 0 40" && told != "ok":
				t.Error(notes, line, told)
			}
		}
		tellsLines(t, d, "trace", "said", "same")
	}
	for _, row := range []struct{ cell, writes, over int }{{0, 3998, 14}, {0, 3999, 10}, {0, 4000, 3}, {3, 3998, 21}, {3, 3999, 21}, {3, 4000, 8}} {
		d := deskNewWanted(p)
		list := writtenTo(row.cell, row.writes).Cells[row.cell]
		for i := range list {
			list[i].V = 0
		}
		d.M.Mem.Cells[row.cell] = list
		for _, n := range []int{1, row.over - 1, row.over, row.over + 1, 40} {
			e, told := tellsLine(t, d, fmt.Sprint("core 0 0 ", n))
			if (told == "over") != (n >= row.over) {
				t.Error("writes", row, n, told)
			}
			tellsLine(t, e, "rest")
		}
	}
}

// Same goes by the machine and the witness: the source of the desk goes its own way. A witness that is another is told.
func TestSameLines(t *testing.T) {
	d := deskOf(t, mustRead(t, "caps 1\nbody\nset 0 7\nprint 0\nclose 0\nset 1 1\nend\nbody\nset 0 1\nprint 0\nprint 1\nend\nbody\ntake 0 1 0\nend\n"))
	same := func(what string, e impl.Desk, want string) {
		t.Helper()
		if f, told := tellsLine(t, e, "same"); told != want || !sameDesk(e, f) {
			t.Errorf("%v: %q, wanted %q", what, told, want)
		}
	}
	moved, _ := tellsLines(t, d, "core 0 0 40", "core 2 0 40", "core 1 0 1")
	if !slices.Equal(moved.Order, []int{0, 0, 0, 0, 0, 2, 2, 1}) {
		t.Fatal(moved.Order)
	}
	same("at first", d, "yes")
	same("on", moved, "yes")
	stepped, _ := tellsLines(t, moved, "step 0", "step 0", "step 1")
	same("the source went on", stepped, "yes")
	stepped.S = deskNewWanted(d.P).S
	same("another source", stepped, "yes")
	for at := range moved.Order {
		e := cloneDesk(moved)
		e.Order = slices.Delete(e.Order, at, at+1)
		same(fmt.Sprint("without one, ", at), e, "no")
	}
	for what, order := range map[string][]int{"none": nil, "of nobody": {3, -1}, "another's": {2, 2, 2}, "one more": append(slices.Clone(moved.Order), 1), "another's first": {1, 2}} {
		e := cloneDesk(moved)
		e.Order = order
		same(what, e, "no")
	}
	for what, order := range map[string][]int{"of nobody": {3, -1, math.MaxInt, math.MinInt}, "who waits": {2, 2, 2}, "too many, that no run has": make([]int, 4001), "far too many": make([]int, 100000)} {
		e := cloneDesk(d)
		e.Order = order
		same(what, e, "yes")
	}
	e := cloneDesk(d)
	e.Order = make([]int, 4000)
	same("as many as a run has", e, "no")
	e = cloneDesk(moved)
	e.Order = append(e.Order, 0, 2, 3)
	same("more of who is over", e, "yes")
	e.Order = append(slices.Clone(moved.Order), slices.Repeat([]int{3}, 4000-len(moved.Order))...)
	same("of nobody, up to as many as a run has", e, "yes")
	e.Order = append(e.Order, 3)
	same("of nobody, one beyond: it is not run", e, "no")
	e = cloneDesk(d)
	e.Order = slices.Repeat([]int{2}, 4000)
	same("as many as a run has, who wait", e, "yes")
	e = cloneDesk(moved)
	e.M.Cores[1].Regs[0]++
	same("a register", e, "no")
	e = cloneDesk(moved)
	e.M.Trace = append(e.M.Trace, impl.Note{})
	same("a note", e, "no")
}

// A channel line is of the source's channel, not of the machine's: each channel, and one beyond.
func TestChanLines(t *testing.T) {
	for _, row := range stands() {
		d := impl.Desk{P: row.p, S: row.s, M: row.m}
		for n := range len(row.s.Chans) + 2 {
			want := "none"
			if n < len(row.s.Chans) {
				want = chanTextWanted(row.s.Chans[n])
			}
			if _, told := tellsLine(t, d, fmt.Sprint("chan ", n)); told != want {
				t.Errorf("%v %v: %q, wanted %q", row.what, n, told, want)
			}
		}
	}
	d, told := tellsLines(t, deskOf(t, mustRead(t, "caps 2\nbody\nset 1 -3\nsend 0 1\nsend 0 2\nclose 0\nend\n")), "core 0 0 40", "chan 0", "step 0", "step 0", "chan 0", "step 0", "chan 0", "step 0", "chan 0", "chan 1", "chan 999")
	if want := []string{"ok", "[]2", "ok", "ok", "[-3]1", "ok", "[-3 0]0", "ok", "[-3 0]0!", "none", "none"}; !slices.Equal(told, want) || len(d.Order) != 3 {
		t.Error(told, d.Order)
	}
}

// Promise 17: a line that asks turns nothing, however often it is asked, and so does one that is none or tells nothing.
func TestWhatAsksTurnsNothing(t *testing.T) {
	for _, d := range desksOnTheirWay() {
		for _, line := range slices.Concat(askLines, noLines, []string{"", ";"}) {
			e, first := impl.DeskLine(d, line)
			f, second := impl.DeskLine(e, line)
			if first != second || !sameDesk(d, e) || !sameDesk(d, f) {
				t.Errorf("%q of %v: %q %q", line, brief(d.P), first, second)
			}
		}
		for _, line := range turnLines {
			want, told := impl.DeskLine(d, line)
			e := d
			for _, ask := range askLines {
				e, _ = impl.DeskLine(e, ask)
			}
			if got, said := impl.DeskLine(e, line); said != told || !sameDesk(got, want) {
				t.Errorf("%q behind what asks: %q, not %q", line, said, told)
			}
		}
	}
}

// badDesk asks that a desk is not right, and is told so of any line, ahead of all that may be wrong with that.
func badDesk(t *testing.T, what string, d impl.Desk) {
	t.Helper()
	if deskRight(d) {
		t.Fatal(what, "is right")
	}
	want := cloneDesk(d)
	for _, line := range []string{"", ";", "; step 0", "step 0", "step 999", "step", "core 0 0 0", "core 0 0 1", "core 0 0 41", "rest", "trace", "said", "chan 0", "chan 9", "same", "what", "\xff"} {
		if e, told := impl.DeskLine(d, line); told != "bad" || !sameDesk(e, want) {
			t.Errorf("%v: %q: %q %v", what, line, told, briefDesk(e))
		}
	}
}

// A desk whose P is not ProgOk, in each of the ways that chapter 1 names.
func TestDesksOfWrongProgs(t *testing.T) {
	badDesk(t, "nothing", impl.Desk{})
	turn := 0
	eachWrongProg(func(what string, p impl.Prog) {
		turn++
		m, _ := impl.MachineNew(slices.Repeat([][]impl.Step{ends(2)}, max(1, min(4, len(p.Bodies)))))
		d := impl.Desk{P: p, S: loose(p), M: m, Order: []int{0, 1, -5}}
		if turn%3 == 0 || len(p.Bodies) > 1000 || len(p.Caps) > 1000 {
			badDesk(t, what, d)
		} else if e, told := impl.DeskLine(d, []string{"", "same"}[turn%2]); told != "bad" || !sameDesk(d, e) {
			t.Errorf("%v: %q", what, told)
		}
	})
}

// threeDesk has a program of three bodies with its source at work, and a machine of three cores of other code.
func threeDesk() impl.Desk {
	p, s := workProg()
	return impl.Desk{P: p, S: s, M: machineAt(impl.Step{Op: impl.MaEnd}, 0, 2), Order: []int{2, 0}}
}

// A desk whose S is not SourceOk of P, in each of the ways that chapter 4 names.
func TestDesksOfWrongSources(t *testing.T) {
	if d := threeDesk(); !deskRight(d) {
		t.Fatal("the right one")
	}
	for what, s := range turnedSources() {
		d := threeDesk()
		d.S = s
		badDesk(t, what, d)
	}
	d := threeDesk()
	_, d.S = mixedProg()
	badDesk(t, "another's", d)
}

// A desk whose M is not MachineOk, in each of the ways that chapter 8 names.
func TestDesksOfWrongMachines(t *testing.T) {
	for what, m := range turnedMachines() {
		d := threeDesk()
		d.M = m
		badDesk(t, what, d)
	}
	for what, code := range wrongCodes() {
		d := threeDesk()
		d.M.Codes[1] = code
		badDesk(t, what, d)
	}
	for what, mem := range wrongMemories() {
		d := threeDesk()
		d.M.Mem = mem
		badDesk(t, what, d)
	}
	wrong := 0
	for what, turn := range machineTurns() {
		d := deskNewWanted(pairProg())
		if turn(&d.M); !machineRight(d.M) {
			badDesk(t, what, d)
			wrong++
		}
	}
	if wrong < 30 {
		t.Error("too few", wrong)
	}
}

// A desk with fewer or more cores than bodies.
func TestDesksOfFewerAndMoreCores(t *testing.T) {
	for bodies := 1; bodies <= 4; bodies++ {
		for cores := 1; cores <= 4; cores++ {
			d := deskNewWanted(impl.Prog{Caps: []int{2}, Bodies: pairProg().Bodies[:bodies]})
			d.M = deskNewWanted(impl.Prog{Caps: []int{2}, Bodies: pairProg().Bodies[:cores]}).M
			if bodies != cores {
				badDesk(t, fmt.Sprint(bodies, " bodies, ", cores, " cores"), d)
				continue
			}
			for _, line := range someLines() {
				tellsLine(t, d, line)
			}
		}
	}
}

// A desk whose machine has other code than its program: it is right, and its steps belong to the program's places.
func TestDesksOfOtherCode(t *testing.T) {
	long := 0
	for seed := range 60 {
		m := oddMachine(picker(seed + 1760))
		count := len(m.Cores)
		for _, p := range []impl.Prog{farProg(count), {Caps: []int{2}, Bodies: pairProg().Bodies[:count]}, {Bodies: slices.Repeat([][]impl.Ins{endsOf(3)}, count)}, {Caps: []int{1}, Bodies: slices.Repeat([][]impl.Ins{{{Op: impl.SrSet}, {Op: impl.SrClose}, {Op: impl.SrEnd}}}, count)}} {
			if !progRight(p) {
				continue
			}
			s, _ := impl.SourceNew(p)
			d := impl.Desk{P: p, S: s, M: m, Order: []int{-1}}
			for _, line := range []string{"core 0 1 7", "core 1 0 40", "rest", "same", "said", "step 0", "core 3 3 3"} {
				e, _ := tellsLine(t, d, line)
				long += len(e.Order) - 1
			}
			tellsLines(t, d, "core 0 0 5", "rest", "core 1 2 9", "rest", "same")
		}
	}
	if long < 100 {
		t.Error("too few places", long)
	}
	d := threeDesk()
	tellsLines(t, d, someLines()...)
}
