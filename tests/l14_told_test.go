package tests

import (
	"bytes"
	"encoding/json"
	"fmt"
	"go/ast"
	"go/parser"
	"go/token"
	"os"
	"os/exec"
	"path/filepath"
	"slices"
	"strings"
	"testing"

	"loop.example/g00238/impl"
)

// As promise 14 holds, no program and no picks show whether a judge could say no. So here the judges are asked in a
// copy of the program whose Witness tells what it is told to tell.

// toldWitness stands in the copy in the Witness's place.
const toldWitness = `package impl

type Telling struct {
	Order []int
	Then  Machine
	Ok    bool
}

var Late, Prompt Telling

func Witness(p Prog, picks []Pick) ([]int, Machine, bool) {
	told := Prompt
	for _, x := range picks {
		if x.Late != 0 {
			told = Late
		}
	}
	return told.Order, told.Then, told.Ok
}
`

// toldMain reads what is to be judged, and writes what the judges say.
const toldMain = `package main

import (
	"encoding/json"
	"os"

	"loop.example/g00238/impl"
)

func main() {
	var calls []struct {
		P            impl.Prog
		Late, Prompt impl.Telling
	}
	if err := json.NewDecoder(os.Stdin).Decode(&calls); err != nil {
		panic(err)
	}
	var out [][5]bool
	for _, c := range calls {
		impl.Late, impl.Prompt = c.Late, c.Prompt
		picks := []impl.Pick{{Late: 1}, {}}
		out = append(out, [5]bool{impl.JudgeTrace(c.P, picks), impl.JudgeSame(c.P, picks), impl.JudgeLate(c.P, picks), impl.JudgeLocks(c.P, picks), impl.JudgeAll(c.P, picks)})
	}
	if err := json.NewEncoder(os.Stdout).Encode(out); err != nil {
		panic(err)
	}
}
`

// A toldCall is a program, and what the copy's Witness tells of it with late answers and without.
type toldCall struct {
	what   string
	P      impl.Prog
	Late   telling
	Prompt telling
}

func fileOf(t *testing.T, path string) string {
	t.Helper()
	text, err := os.ReadFile(path)
	if err != nil {
		t.Fatal(err)
	}
	return string(text)
}

func writeFile(t *testing.T, path string, text string) {
	t.Helper()
	if err := os.WriteFile(path, []byte(text), 0o644); err != nil {
		t.Fatal(err)
	}
}

// withoutWitness is a file of the program in which its own Witness has another name.
func withoutWitness(t *testing.T, path string) string {
	t.Helper()
	text, set := fileOf(t, path), token.NewFileSet()
	file, err := parser.ParseFile(set, path, text, parser.SkipObjectResolution)
	if err != nil {
		t.Fatal(err)
	}
	for _, d := range file.Decls {
		if f, ok := d.(*ast.FuncDecl); ok && f.Recv == nil && f.Name.Name == "Witness" {
			at := set.Position(f.Name.Pos()).Offset
			return text[:at] + "ownWitness" + text[at+len("Witness"):]
		}
	}
	return text
}

// toldCopy lays the copy out, and answers where.
func toldCopy(t *testing.T) string {
	t.Helper()
	dir := t.TempDir()
	if err := os.Mkdir(filepath.Join(dir, "impl"), 0o755); err != nil {
		t.Fatal(err)
	}
	paths, _ := filepath.Glob("../impl/*.go")
	for _, path := range paths {
		if !strings.HasSuffix(path, "_test.go") {
			writeFile(t, filepath.Join(dir, "impl", filepath.Base(path)), withoutWitness(t, path))
		}
	}
	writeFile(t, filepath.Join(dir, "impl", "told.go"), toldWitness)
	writeFile(t, filepath.Join(dir, "main.go"), toldMain)
	writeFile(t, filepath.Join(dir, "go.mod"), fileOf(t, "../go.mod"))
	return dir
}

// judgedInACopy answers what the judges say of each call, in the copy.
func judgedInACopy(t *testing.T, calls []toldCall) [][5]bool {
	t.Helper()
	asked, err := json.Marshal(calls)
	if err != nil {
		t.Fatal(err)
	}
	run, said := exec.Command("go", "run", "."), &bytes.Buffer{}
	run.Dir, run.Stdin, run.Stderr = toldCopy(t), bytes.NewReader(asked), said
	text, err := run.Output()
	if err != nil {
		t.Fatal(err, said)
	}
	var out [][5]bool
	if err := json.Unmarshal(text, &out); err != nil || len(out) != len(calls) {
		t.Fatal(err, len(out), len(calls))
	}
	return out
}

// toldProg: core 0 has sent to channel 0, printed and ended, core 1 is between two places, core 2 has closed channel 2
// and holds the lock of channel 1, from which there is nothing to take, and core 3 has faulted.
func toldProg() (impl.Prog, []impl.Pick) {
	p := impl.Prog{Caps: []int{2, 1, 3}, Bodies: [][]impl.Ins{
		{{Op: impl.SrSet, R: 1, N: 8}, {Op: impl.SrSend, A: 1}, {Op: impl.SrPrint, A: 1}, {Op: impl.SrEnd}},
		{{Op: impl.SrSet, R: 3, N: 5}, {Op: impl.SrPrint, A: 3}, {Op: impl.SrPrint}, {Op: impl.SrJump, N: 1}},
		{{Op: impl.SrClose, N: 2}, {Op: impl.SrTake, R: 1, B: 2, N: 1}, {Op: impl.SrEnd}},
		{{Op: impl.SrClose, N: 2}, {Op: impl.SrEnd}}}}
	return p, slices.Concat(stepPicks(0, 40), stepPicks(2, 11), stepPicks(3, 40), stepPicks(1, 4))
}

// A toldTurn turns what is told; what the four say is written out where it is turned with late answers and without, and
// where it is with late answers alone.
type toldTurn struct {
	what  string
	turn  func(d *telling)
	both  string
	alone string
}

// verdict reads the four of a row, and tells all together behind them.
func verdict(row string) [5]bool {
	out := [5]bool{4: row == "yyyy"}
	for i := range 4 {
		out[i] = row[i] == 'y'
	}
	return out
}

func traceTurns() []toldTurn {
	const both, alone = "nnyy", "nnny"
	return []toldTurn{
		{"a note more", func(d *telling) { d.Then.Trace = append(d.Then.Trace, impl.Note{Who: 1}) }, both, alone},
		{"the first note less", func(d *telling) { d.Then.Trace = d.Then.Trace[1:] }, both, alone},
		{"the last note less", func(d *telling) { d.Then.Trace = d.Then.Trace[:2] }, both, alone},
		{"no note", func(d *telling) { d.Then.Trace = nil }, both, alone},
		{"another number", func(d *telling) { d.Then.Trace[1].V++ }, both, alone},
		{"a number of another sign", func(d *telling) { d.Then.Trace[0].V = -d.Then.Trace[0].V }, both, alone},
		{"another one", func(d *telling) { d.Then.Trace[2].Who = 2 }, both, alone},
		{"two notes for each other", func(d *telling) { d.Then.Trace[0], d.Then.Trace[1] = d.Then.Trace[1], d.Then.Trace[0] }, both, alone},
	}
}

func orderTurns() []toldTurn {
	out := []toldTurn{
		{"one more that waits", func(d *telling) { d.Order = append(d.Order, 2) }, "yyyy", "yyny"},
		{"many that wait", func(d *telling) { d.Order = append(d.Order, slices.Repeat([]int{2}, 100)...) }, "yyyy", "yyny"},
		{"one more that prints", func(d *telling) { d.Order = append(d.Order, 1) }, "nnyy", "nnny"},
		{"the last less", func(d *telling) { d.Order = d.Order[:len(d.Order)-1] }, "ynyy", "ynny"},
		{"the first less", func(d *telling) { d.Order = d.Order[1:] }, "ynyy", "ynny"},
		{"no order", func(d *telling) { d.Order = nil }, "nnyy", "nnny"},
		{"two apart for each other", func(d *telling) { d.Order[3], d.Order[4] = d.Order[4], d.Order[3] }, "yyyy", "yyny"},
		{"who faulted ahead of who closed", func(d *telling) { d.Order[4], d.Order[6] = d.Order[6], d.Order[4] }, "nnyy", "nnny"},
	}
	for _, who := range []int{0, 3, 4, -1, 1 << 32} {
		out = append(out, toldTurn{fmt.Sprint("one more that can't, ", who), func(d *telling) { d.Order = append(d.Order, who) }, "nyyy", "nyny"},
			toldTurn{fmt.Sprint("one that can't among them, ", who), func(d *telling) { d.Order = slices.Insert(d.Order, 7, who) }, "nyyy", "nyny"})
	}
	return out
}

func coreTurns() []toldTurn {
	out := []toldTurn{
		{"between at another place", func(d *telling) { d.Then.Cores[1].At = 2 }, "ynyy", "ynny"},
		{"on its way at another step", func(d *telling) { d.Then.Cores[2].At++ }, "yyyy", "yyny"},
		{"on its way at a first step", func(d *telling) { d.Then.Cores[2].At = 0 }, "ynyy", "ynny"},
		{"ended at another step", func(d *telling) { d.Then.Cores[0].At = 5 }, "yyyy", "yyny"},
		{"faulted at another step", func(d *telling) { d.Then.Cores[3].At-- }, "yyyy", "yyny"},
		{"what views know", func(d *telling) { d.Then.Cores[1].View[0] = 1 }, "yyyy", "yyyy"},
		{"a core less", func(d *telling) { d.Then.Cores = d.Then.Cores[:3] }, "ynyy", "ynny"},
		{"no cores", func(d *telling) { d.Then.Cores = nil }, "ynyy", "ynny"},
		{"a register less", func(d *telling) { d.Then.Cores[3].Regs = d.Then.Cores[3].Regs[:7] }, "ynyy", "ynny"},
		{"no codes", func(d *telling) { d.Then.Codes = nil }, "ynyy", "ynyy"},
	}
	for who := range 4 {
		for r := range 8 {
			row := toldTurn{fmt.Sprint("register ", r, " of core ", who), func(d *telling) { d.Then.Cores[who].Regs[r] ^= 1 << 40 }, "yyyy", "yyny"}
			if who == 1 && r < 4 {
				row.both, row.alone = "ynyy", "ynny"
			}
			out = append(out, row)
		}
	}
	return out
}

// chanTurns write into the cells of the channels: 0 to 5 are channel 0's, 6 to 10 channel 1's, 11 to 17 channel 2's.
func chanTurns() []toldTurn {
	var out []toldTurn
	add := func(what string, row string, from int, numbers ...int) {
		out = append(out, toldTurn{what, func(d *telling) { put(d.Then.Mem, from, numbers...) }, row, row})
	}
	for _, wrong := range []int{-1, 5, 1 << 32, -1 << 63} {
		for part, name := range []string{"first", "count", "closed"} {
			add(fmt.Sprint("channel 0, ", name, " ", wrong), "ynyn", 1+part, wrong)
			add(fmt.Sprint("channel 2, ", name, " ", wrong), "ynyn", 12+part, wrong)
			add(fmt.Sprint("channel 1, which is locked, ", name, " ", wrong), "yyyy", 7+part, wrong)
		}
		add(fmt.Sprint("channel 0 locked, all ", wrong), "yyyy", 0, 1, wrong, wrong, wrong, wrong)
		add(fmt.Sprint("channel 2 locked by ", wrong), "yyyy", 11, wrong, wrong)
		add(fmt.Sprint("channel 1 let go, closed ", wrong), "ynyn", 6, 0, 0, 0, wrong)
	}
	add("channel 0 is closed", "ynyy", 3, 1)
	add("channel 0 has another number", "ynyy", 4, 9)
	add("channel 0 has two", "ynyy", 2, 2)
	add("channel 0 has none", "ynyy", 2, 0)
	add("channel 0 begins elsewhere", "ynyy", 1, 1)
	add("channel 0 begins elsewhere with all", "yyyy", 1, 1, 1, 0, 77, 8)
	add("channel 2 is open", "ynyy", 14, 0)
	add("channel 1 let go", "yyyy", 6, 0)
	add("channel 1 let go, with a number", "ynyy", 6, 0, 0, 1)
	out = append(out, toldTurn{"no memory", func(d *telling) { d.Then.Mem = impl.Memory{} }, "ynyn", "ynyn"})
	return out
}

// toldRows are the calls of the turns, and what is wanted of each; the first is of no witness.
func toldRows(t *testing.T) ([]toldCall, [][5]bool) {
	t.Helper()
	p, picks := toldProg()
	from := tellingOf(p, picks)
	if !slices.Equal(from.Order, []int{0, 0, 0, 0, 2, 2, 3, 1, 1, 1, 1}) || len(from.Then.Trace) != 3 || !impl.Locked(from.Then.Mem, p.Caps, 1) || from.Then.Cores[3].State != impl.StFault {
		t.Fatal(from.Order, from.Then.Trace, from.Then.Cores)
	}
	clone := func() telling { return telling{slices.Clone(from.Order), cloneMachine(from.Then), from.Ok} }
	calls := []toldCall{{"no witness", p, telling{}, telling{}}, {"no witness, but in time", p, telling{}, clone()}, {"no witness in time", p, clone(), telling{}}, {"as it is", p, clone(), clone()}}
	want := [][5]bool{verdict("nnnn"), verdict("nnnn"), verdict("yyny"), verdict("yyyy")}
	for _, row := range slices.Concat(traceTurns(), orderTurns(), coreTurns(), chanTurns()) {
		late, prompt := clone(), clone()
		row.turn(&late)
		row.turn(&prompt)
		calls = append(calls, toldCall{row.what + ", both", p, late, prompt}, toldCall{row.what + ", late", p, late, clone()})
		want = append(want, verdict(row.both), verdict(row.alone))
	}
	return calls, want
}

// Each of the four says no just where the document does, whatever the others say, and JudgeAll where one of them does.
func TestJudgesSayNo(t *testing.T) {
	calls, want := toldRows(t)
	for i, c := range calls {
		if told := toldWanted(c.P, c.Late, c.Prompt); told != want[i] {
			t.Fatal(c.what, told, want[i])
		}
	}
	got := judgedInACopy(t, calls)
	if got[0] != noneHolds {
		t.Skip("the judges do not ask Witness itself, so nothing can be told to them")
	}
	for i, c := range calls {
		if got[i] != want[i] {
			t.Error(c.what, got[i], "not", want[i], "of", judgeNames)
		}
	}
}
