package tests

import (
	"fmt"
	"reflect"
	"runtime"
	"slices"
	"strings"
	"sync"
	"testing"

	"loop.example/g00238/impl"
)

// A session written out: each kind of line, and each word that is told but bad, which no session comes to.
func TestSessionRows(t *testing.T) {
	lines := []string{"same", "trace", "said", "chan 0", "chan 1", "chan 2", "step 1", "step 0", "step 0", "chan 0", "", "; step 0", "step 2", "step 2", "step 2", "step 3",
		"core 0 9 2", "core 0 0 40", "core 1 4 3", "rest", "core 2 0 40", "core 3 0 1", "core 0 0 0", "same", "core 0 0 41", "step 00", "Step 0", "trace", "said"}
	want := []string{"yes", "-", "-", "[]1", "[]2", "none", "wait", "ok", "ok", "[7]0", "ok", "ok", "over", "none",
		"ok", "ok", "ok", "ok", "over", "none", "ok", "yes", "what", "what", "what", "-", "-"}
	said, n := holdsSession(t, deskProg, strings.Join(lines, "\n"))
	if said != strings.Join(want, "\n")+"\n" || n != len(lines) {
		t.Errorf("%q %v", said, n)
	}
	if said, n := holdsSession(t, "caps\nbody\nset 0 -5\nprint 0\nend\n", "step 0\nstep 0\ntrace\nstep 0\nstep 0\ncore 0 1 2\nsaid\nsame\n"); said != "ok\nok\n0:-5\nok\nover\nok\n0:-5\nyes\n" || n != 8 {
		t.Errorf("%q %v", said, n)
	}
}

// Lines with and without a byte 10 at the end, two of them in a row, none at all.
func TestLinesOfSessions(t *testing.T) {
	for _, row := range []struct {
		lines, said string
		count       int
	}{
		{"", "", 0},
		{"\n", "", 1},
		{"\n\n", "", 2},
		{"\n\n\n", "", 3},
		{"same", "yes\n", 1},
		{"same\n", "yes\n", 1},
		{"same\n\n", "yes\n", 2},
		{"\nsame", "yes\n", 2},
		{"\n\nsame\n", "yes\n", 3},
		{"same\nsaid", "yes\n-\n", 2},
		{"same\nsaid\n", "yes\n-\n", 2},
		{"same\n\nsaid", "yes\n-\n", 3},
		{"same\n\n\nsaid\n\n", "yes\n-\n", 5},
		{";", "", 1},
		{";\n", "", 1},
		{";same\n;said", "", 2},
		{"; x\nsame\n; y", "yes\n", 3},
		{" ", "what\n", 1},
		{" \n", "what\n", 1},
		{"\n ", "what\n", 2},
		{"same\r\nsaid\r\n", "what\nwhat\n", 2},
		{"same\rsaid", "what\n", 1},
		{"same;said", "what\n", 1},
		{"same\x00", "what\n", 1},
		{"same\n\x00", "yes\nwhat\n", 2},
		{"\u0085same\u2028said", "what\n", 1},
		{"\xff\n\xfe", "what\nwhat\n", 2},
		{"same\vsaid\fsaid", "what\n", 1},
	} {
		if said, n := holdsSession(t, deskProg, row.lines); said != row.said || n != row.count {
			t.Errorf("%q: %q %v, wanted %q %v", row.lines, said, n, row.said, row.count)
		}
	}
}

// MaxLines lines and one more: of all kinds, with and without a byte 10 at the end; nothing is told of more.
func TestSessionLimits(t *testing.T) {
	for _, line := range []string{"", ";", "same", "step 0", "core 0 0 40", "rest", "what"} {
		counts := []int{1, 2, 98, 99, 100, 101, 102, 200, 1000, 100000}
		if line == "core 0 0 40" {
			counts = []int{99, 100, 101, 1000}
		}
		for _, count := range counts {
			ended := strings.Repeat(line+"\n", count)
			said, n := holdsSession(t, deskProg, ended)
			if right := count <= 100; right != (n == count) || right != (n != -2) || !right && said != "" {
				t.Errorf("%q %v: %v", line, count, n)
			}
			open := strings.TrimSuffix(ended, "\n")
			fewer := count
			if line == "" {
				fewer = count - 1
			}
			if _, n := holdsSession(t, deskProg, open); n != fewer && fewer <= 100 || n != -2 && fewer > 100 {
				t.Errorf("%q %v, open: %v", line, count, n)
			}
			holdsSession(t, deskProg, ended+"same")
			holdsSession(t, "caps 1\n", ended)
		}
	}
	long := strings.Repeat("x", 1000000)
	if said, n := holdsSession(t, deskProg, long+"\n"+long); said != "what\nwhat\n" || n != 2 {
		t.Error("long lines", n)
	}
}

// sessionLines are so many lines of all kinds, most of them right ones for so many cores.
func sessionLines(next *picker, cores int, count int) []string {
	var list []string
	for range count {
		who := next.below(cores)
		switch kind := next.below(16); kind {
		case 0, 1, 2:
			list = append(list, fmt.Sprint("step ", who))
		case 3, 4, 5, 6, 7, 8:
			list = append(list, fmt.Sprint("core ", who, " ", next.below(5), " ", next.below(41)))
		case 9:
			list = append(list, "rest")
		case 10:
			list = append(list, fmt.Sprint("chan ", next.below(3)))
		case 11:
			list = append(list, "trace")
		case 12:
			list = append(list, "said")
		case 13:
			list = append(list, "same")
		default:
			all := someLines()
			list = append(list, all[next.below(len(all))])
		}
	}
	return list
}

// Promise 17: a session tells what DeskLine tells, line by line, and how many lines there were.
func TestSessionIsLineByLine(t *testing.T) {
	told := count{}
	for i, p := range witnessProgs() {
		text := impl.ProgText(p)
		for k, length := range []int{1, 7, 30, 70, 100} {
			next := picker(i*10 + k + 1770)
			lines := sessionLines(&next, len(p.Bodies), length)
			d, all := deskOf(t, p), ""
			for _, line := range lines {
				e, said := impl.DeskLine(d, line)
				if d = e; said != "" {
					all += said + "\n"
				}
				told[said]++
			}
			said, n := impl.Session(text, strings.Join(lines, "\n")+"\n")
			if said != all || n != length {
				t.Errorf("%v of %v: %q %v, wanted %q", lines, brief(p), said, n, all)
			}
			if length <= 30 {
				holdsSession(t, text, strings.Join(lines, "\n")+"\n")
			}
		}
	}
	told.atLeast(t, 20, "ok", "none", "over", "what", "yes", "", "-", "wait")
	if told["no"] != 0 || told["bad"] != 0 {
		t.Error("by promise 14 no session tells so", told)
	}
}

// Promise 17: what asks turns nothing, so a session tells the same of the other lines with such lines between them.
func TestSessionsWithQuestions(t *testing.T) {
	for i, p := range witnessProgs() {
		next := picker(i + 1780)
		text := impl.ProgText(p)
		plain := slices.DeleteFunc(sessionLines(&next, len(p.Bodies), 60), func(line string) bool {
			return !strings.HasPrefix(line, "step ") && !strings.HasPrefix(line, "core ") && line != "rest"
		})
		if len(plain) < 10 || len(plain) > 50 {
			plain = slices.Repeat([]string{"core 0 1 23", "step 0"}, 20)
		}
		var mixed, kept []string
		for k, line := range plain {
			mixed = append(mixed, askLines[k%len(askLines)], line)
		}
		want, n := impl.Session(text, strings.Join(plain, "\n"))
		got, m := impl.Session(text, strings.Join(mixed, "\n"))
		for k, line := range strings.Split(strings.TrimSuffix(got, "\n"), "\n") {
			if k%2 == 1 {
				kept = append(kept, line)
			}
		}
		if n != len(plain) || m != len(mixed) || strings.Join(kept, "\n")+"\n" != want {
			t.Errorf("%v: %q, wanted %q", brief(p), kept, want)
		}
	}
}

// Two sessions with one program know nothing of each other, whatever was told ahead.
func TestSessionsBeginAnew(t *testing.T) {
	lines := "step 0\nstep 0\ncore 0 0 40\nrest\ncore 1 1 40\nchan 0\ntrace\nsaid\nsame\n"
	first, n := impl.Session(deskProg, lines)
	for range 3 {
		impl.Session(deskProg, "what\nstep 1\ncore 2 0 40")
		impl.Session("caps\nbody\nprint 0\njump 0\n", strings.Repeat("core 0 0 40\n", 100))
		if again, m := impl.Session(deskProg, lines); again != first || m != n {
			t.Errorf("%q %v, wanted %q %v", again, m, first, n)
		}
	}
}

// The longest session: as many steps as there may be.
func TestTheLongestSession(t *testing.T) {
	text := "caps 4\nbody\nprint 0\njump 0\nbody\nsend 0 0\nsend 0 0\njump 0\nbody\ntake 0 1 0\njump 0\nbody\nprint 1\njump 0\n"
	said, n := impl.Session(text, strings.Repeat("core 0 999 40\n", 98)+"said\nsame\n")
	list := strings.Split(said, "\n")
	if n != 100 || len(list) != 101 || list[99] != "yes" || strings.Count(list[98], "0:0") != 98*20 {
		t.Error(n, len(list), len(said))
	}
	var lines []string
	for i := range 100 {
		lines = append(lines, fmt.Sprint("core ", i%4, " ", i, " ", 40-i%3), "rest")
	}
	if said, n := impl.Session(text, strings.Join(append(lines[:99], "same"), "\n")); n != 100 || said != strings.Repeat("ok\n", 99)+"yes\n" {
		t.Errorf("%v %q", n, said)
	}
}

// spareDesk is d with room behind each of its lists, in which something stands.
func spareDesk(d impl.Desk) impl.Desk {
	return impl.Desk{P: roomyProg(d.P), S: spareSource(d.S), M: spareMachine(d.M), Order: spareView(d.Order)}
}

// eachDeskCall calls look with right and wrong desks, with room behind each list, and lines.
func eachDeskCall(look func(d impl.Desk, line string)) {
	lines := someLines()
	at := 0
	call := func(d impl.Desk, count int) {
		for range count {
			at++
			look(spareDesk(d), lines[at*7%len(lines)])
		}
	}
	for _, d := range desksOnTheirWay() {
		call(d, 12)
	}
	for _, s := range turnedSources() {
		d := threeDesk()
		d.S = s
		call(d, 2)
	}
	for _, turn := range machineTurns() {
		d := deskNewWanted(pairProg())
		turn(&d.M)
		call(d, 2)
	}
	for _, p := range wrongProgs() {
		d := threeDesk()
		d.P = p
		call(d, 2)
	}
	call(threeDesk(), len(lines))
	call(impl.Desk{}, 5)
}

// Promise 18: nothing is written into an argument, nor into the room behind its lists, nor read there.
func TestChapterSeventeenWritesIntoNoArgument(t *testing.T) {
	eachDeskCall(func(d impl.Desk, line string) {
		before := wholeOf(d)
		got, told := impl.DeskLine(d, line)
		if !reflect.DeepEqual(before, wholeOf(d)) {
			t.Errorf("%q wrote into %v", line, brief(d.P))
		}
		if want, wanted := deskLineWanted(d, line); told != wanted || !sameDesk(got, want) {
			t.Errorf("%q of %v: %q %v, not %q %v", line, brief(d.P), told, briefDesk(got), wanted, briefDesk(want))
		}
	})
}

// Promise 18: an answer is new memory, its lists lie apart, and nothing is kept.
func TestChapterSeventeenAnswersNewMemory(t *testing.T) {
	eachDeskCall(func(d impl.Desk, line string) {
		first, _ := impl.DeskLine(d, line)
		want := cloneDesk(first)
		liesApart(t, line, first, d)
		scrawl(first)
		second, _ := impl.DeskLine(d, line)
		third, _ := impl.DeskLine(second, "")
		if !sameDesk(second, want) {
			t.Errorf("%q of %v: something was kept", line, brief(d.P))
		}
		liesApart(t, line, third, second)
		scrawl(d)
		scrawl(third)
		if !sameDesk(second, want) {
			t.Errorf("%q of %v: the argument lies in the answer", line, brief(d.P))
		}
	})
	for _, p := range witnessProgs() {
		text := impl.ProgText(p)
		first, _ := impl.DeskNew(text)
		second, _ := impl.DeskNew(text)
		liesApart(t, "new", first, second)
		scrawl(first)
		if third, ok := impl.DeskNew(text); !ok || !sameDesk(second, deskNewWanted(p)) || !sameDesk(third, second) {
			t.Error("something was kept", brief(p))
		}
	}
}

// Promise 18: a desk whose lists share memory among themselves is answered as any other, by lists that lie apart.
func TestDesksThatShareMemory(t *testing.T) {
	d := deskNewWanted(impl.Prog{Caps: []int{2, 2}, Bodies: slices.Repeat(pairProg().Bodies[:1], 3)})
	numbers, view, notes := make([]int, 4), make([]int, 24), []impl.Note{{Who: 1, V: 5}}
	d.P.Bodies[1], d.P.Bodies[2] = d.P.Bodies[0], d.P.Bodies[0]
	d.S.Trace, d.M.Trace, d.Order = notes, notes, numbers[:2]
	for who := range 3 {
		d.S.Threads[who].Regs = numbers
		d.M.Cores[who] = impl.Core{Regs: view[:8], View: view}
		d.M.Codes[who] = d.M.Codes[0]
	}
	d.S.Chans[0].List, d.S.Chans[1].List = numbers[:1], numbers[:2]
	d.M.Mem.Cells = slices.Repeat([][]impl.Write{{{View: view}, {View: view}}}, 24)
	before := wholeOf(d)
	for _, line := range []string{"step 0", "core 0 0 1", "core 1 0 14", "rest", "same", "", "what"} {
		e, _ := tellsLine(t, d, line)
		if !reflect.DeepEqual(before, wholeOf(d)) {
			t.Error("written into", line)
		}
		liesApart(t, line, e, d)
	}
}

// Promise 18: from call to call the same, in whatever order it is asked, and of many calls at once; nothing goes on
// behind a call.
func TestChapterSeventeenAnswersTheSame(t *testing.T) {
	type call struct {
		d    impl.Desk
		line string
		then impl.Desk
		told string
	}
	before := runtime.NumGoroutine()
	var all []call
	eachDeskCall(func(d impl.Desk, line string) {
		then, told := impl.DeskLine(d, line)
		all = append(all, call{d, line, then, told})
	})
	lines := "step 0\ncore 0 0 40\nrest\ncore 1 1 40\ncore 2 0 40\ntrace\nsaid\nsame\nchan 0\nwhat"
	said, n := impl.Session(deskProg, lines)
	if after := runtime.NumGoroutine(); after > before {
		t.Error("goroutines", before, after)
	}
	var calls sync.WaitGroup
	same := make([]bool, 6)
	for k := range same {
		calls.Go(func() {
			same[k] = true
			for i := range all {
				c := all[(i*(2*k+1)+k)%len(all)]
				then, told := impl.DeskLine(c.d, c.line)
				again, m := impl.Session(deskProg, lines)
				same[k] = same[k] && told == c.told && sameDesk(then, c.then) && again == said && m == n
			}
		})
	}
	calls.Wait()
	if slices.Contains(same, false) {
		t.Error("another answer", same)
	}
}

// Promise 18: long lists and texts are answered.
func TestChapterSeventeenAnswersLongLists(t *testing.T) {
	d := impl.Desk{P: impl.Prog{Caps: make([]int, 100000), Bodies: make([][]impl.Ins, 100000)},
		S:     impl.Source{Threads: make([]impl.Thread, 100000), Chans: make([]impl.Chan, 100000), Trace: make([]impl.Note, 100000)},
		M:     impl.Machine{Codes: make([][]impl.Step, 100000), Cores: make([]impl.Core, 100000), Mem: impl.Memory{Cells: make([][]impl.Write, 100000)}, Trace: make([]impl.Note, 100000)},
		Order: make([]int, 100000)}
	for _, line := range []string{"", "same", "rest", strings.Repeat("x", 1000000)} {
		if e, told := impl.DeskLine(d, line); told != "bad" || !sameDesk(d, e) {
			t.Errorf("%.20q: %q", line, told)
		}
	}
	e := deskNewWanted(pairProg())
	e.Order = make([]int, 1000000)
	for _, line := range []string{"core 0 0 3", "rest", "same", "step 0"} {
		f, told := impl.DeskLine(e, line)
		if told != map[bool]string{true: "yes", false: "ok"}[line == "same"] || len(f.Order) < len(e.Order) {
			t.Errorf("%q: %q %v", line, told, len(f.Order))
		}
	}
	for _, text := range []string{strings.Repeat("caps", 1000000), "caps" + strings.Repeat(" 1", 1000000) + "\n", "caps\nbody\n" + strings.Repeat("end\n", 1000000)} {
		noDesk(t, text)
	}
	for _, lines := range []string{strings.Repeat("\n", 20000000), strings.Repeat("same\n", 3000000)} {
		if said, n := impl.Session(deskProg, lines); said != "" || n != -2 {
			t.Error(n)
		}
	}
}
