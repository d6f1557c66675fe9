package tests

import (
	"cmp"
	"go/ast"
	"go/parser"
	"go/token"
	"maps"
	"math"
	"path/filepath"
	"reflect"
	"slices"
	"strings"
	"testing"

	"loop.example/g00238/impl"
)

// copyOf is a copy of v that shares no memory with it; with whole, of the room behind its lists too.
func copyOf(v reflect.Value, whole bool) reflect.Value {
	out := reflect.New(v.Type()).Elem()
	switch v.Kind() {
	case reflect.Slice:
		if v.IsNil() {
			return out
		}
		if whole {
			v = v.Slice(0, v.Cap())
		}
		out.Set(reflect.MakeSlice(v.Type(), v.Len(), v.Len()))
		for i := range v.Len() {
			out.Index(i).Set(copyOf(v.Index(i), whole))
		}
	case reflect.Struct:
		for i := range v.NumField() {
			out.Field(i).Set(copyOf(v.Field(i), whole))
		}
	default:
		out.Set(v)
	}
	return out
}

// wholeOf is all that v holds, with what stands in the room behind its lists.
func wholeOf(v any) any { return copyOf(reflect.ValueOf(v), true).Interface() }

// eachList goes through the lists of v, and those in lists ahead of these.
func eachList(v reflect.Value, look func(list reflect.Value)) {
	switch v.Kind() {
	case reflect.Slice:
		for i := range v.Len() {
			eachList(v.Index(i), look)
		}
		look(v)
	case reflect.Struct:
		for i := range v.NumField() {
			eachList(v.Field(i), look)
		}
	}
}

// scrawl writes over all lists of v, to the end of their room, the inner ones first.
func scrawl(v any) {
	eachList(reflect.ValueOf(v), func(list reflect.Value) {
		list = list.Slice(0, list.Cap())
		for i := range list.Len() {
			if e := list.Index(i); e.Kind() == reflect.Int {
				e.SetInt(-77)
			} else {
				e.SetZero()
			}
		}
	})
}

// A span is where in memory a list lies, with the room behind it.
type span struct{ from, to uintptr }

func spansOf(v any) []span {
	var out []span
	eachList(reflect.ValueOf(v), func(list reflect.Value) {
		if size := uintptr(list.Cap()) * list.Type().Elem().Size(); size > 0 {
			out = append(out, span{list.Pointer(), list.Pointer() + size})
		}
	})
	slices.SortFunc(out, func(a span, b span) int { return cmp.Compare(a.from, b.from) })
	return out
}

// liesApart asks that no two lists of an answer share memory, nor any of them with one of the arguments.
func liesApart(t *testing.T, what string, answer any, given ...any) {
	t.Helper()
	own := spansOf(answer)
	for i := 1; i < len(own); i++ {
		if own[i].from < own[i-1].to {
			t.Fatal(what, "lists of an answer share memory")
		}
	}
	for _, v := range given {
		for _, s := range spansOf(v) {
			at, _ := slices.BinarySearchFunc(own, s, func(a span, b span) int { return cmp.Compare(a.to, b.from+1) })
			if at < len(own) && own[at].from < s.to {
				t.Fatal(what, "an answer shares memory with an argument")
			}
		}
	}
}

// allFunctions are the functions of the document, by name.
func allFunctions() map[string]any {
	return map[string]any{
		"InsOk": impl.InsOk, "BodyOk": impl.BodyOk, "ProgOk": impl.ProgOk, "Reads": impl.Reads, "Sets": impl.Sets,
		"InsText": impl.InsText, "InsRead": impl.InsRead, "ProgText": impl.ProgText, "ProgRead": impl.ProgRead,
		"ChanOk": impl.ChanOk, "ChanSend": impl.ChanSend, "ChanTake": impl.ChanTake, "ChanClose": impl.ChanClose,
		"SourceOk": impl.SourceOk, "SourceNew": impl.SourceNew, "SourceStep": impl.SourceStep,
		"SourceRun": impl.SourceRun, "Able": impl.Able, "Stuck": impl.Stuck, "Fair": impl.Fair, "Said": impl.Said,
		"ViewOk": impl.ViewOk, "MemoryOk": impl.MemoryOk, "MemoryNew": impl.MemoryNew, "Join": impl.Join, "Knows": impl.Knows, "Load": impl.Load, "Store": impl.Store, "Swap": impl.Swap,
		"StepOk": impl.StepOk, "CodeOk": impl.CodeOk, "StepWord": impl.StepWord, "WordStep": impl.WordStep,
		"MachineOk": impl.MachineOk, "MachineNew": impl.MachineNew, "CoreStep": impl.CoreStep, "MachineRun": impl.MachineRun,
		"Base": impl.Base, "ChanIn": impl.ChanIn, "Locked": impl.Locked,
		"EmitSize": impl.EmitSize, "Emit": impl.Emit,
		"Starts": impl.Starts, "Compile": impl.Compile, "PlaceOf": impl.PlaceOf,
		"Launch": impl.Launch, "Commits": impl.Commits, "Witness": impl.Witness,
		"Between": impl.Between, "CoreSame": impl.CoreSame, "ChanSame": impl.ChanSame, "Same": impl.Same,
		"JudgeTrace": impl.JudgeTrace, "JudgeSame": impl.JudgeSame, "JudgeLate": impl.JudgeLate, "JudgeLocks": impl.JudgeLocks, "JudgeAll": impl.JudgeAll,
		"Alone": impl.Alone, "Rest": impl.Rest, "Finish": impl.Finish,
		"StepText": impl.StepText, "CodeText": impl.CodeText, "TraceText": impl.TraceText, "ChanText": impl.ChanText,
		"DeskNew": impl.DeskNew, "DeskLine": impl.DeskLine, "Session": impl.Session,
	}
}

// The program has the functions of the document, all of them and no other ones.
func TestAllFunctionsAreNamed(t *testing.T) {
	paths, _ := filepath.Glob("../impl/*.go")
	var found []string
	for _, path := range paths {
		file, err := parser.ParseFile(token.NewFileSet(), path, nil, parser.SkipObjectResolution)
		if err != nil {
			t.Fatal(err)
		}
		for _, d := range file.Decls {
			if f, ok := d.(*ast.FuncDecl); ok && f.Recv == nil && f.Name.IsExported() {
				found = append(found, f.Name.Name)
			}
		}
	}
	slices.Sort(found)
	if named := slices.Sorted(maps.Keys(allFunctions())); !slices.Equal(found, named) {
		t.Error(found, named)
	}
}

// A grab is arguments of all kinds, from which calls take theirs at random.
type grab struct {
	next  picker
	desks []impl.Desk
}

func newGrab(seed int) *grab {
	g := &grab{next: picker(seed), desks: desksOnTheirWay()}
	for _, s := range turnedSources() {
		d := threeDesk()
		d.S = s
		g.addFew(d)
	}
	for _, m := range turnedMachines() {
		d := threeDesk()
		d.M = m
		g.addFew(d)
	}
	for _, p := range wrongProgs() {
		g.addFew(impl.Desk{P: p, S: loose(p), M: threeDesk().M})
	}
	for _, turn := range machineTurns() {
		d := deskNewWanted(pairProg())
		turn(&d.M)
		g.addFew(d)
	}
	for seed := range 40 {
		m := oddMachine(picker(seed))
		g.addFew(impl.Desk{P: farProg(len(m.Cores)), M: m, S: loose(farProg(len(m.Cores))), Order: []int{-1}})
	}
	return g
}

// addFew leaves out what is long: the chapters' own tests have that.
func (g *grab) addFew(d impl.Desk) {
	if len(d.P.Bodies) < 1000 && len(d.S.Threads) < 1000 && len(d.S.Chans) < 1000 && len(d.M.Cores) < 1000 && len(d.M.Trace) < 10000 && len(d.S.Trace) < 10000 {
		g.desks = append(g.desks, d)
	}
}

func (g *grab) number() int {
	odd := []int{-2, -1, 0, 0, 1, 1, 2, 3, 4, 5, 7, 8, 12, 23, 24, 40, 60, 61, 200, 201, 800, 999, math.MinInt, math.MinInt + 1, math.MaxInt - 1, math.MaxInt}
	if g.next.below(3) == 0 {
		return odd[g.next.below(len(odd))]
	}
	return g.next.below(5)
}

func (g *grab) text() string {
	d := g.desks[g.next.below(len(g.desks))]
	lines := append(someLines(), "", "\n", "caps 1\n", deskProg, "send 0 0", "take 0 1 2", "set 0 -5", "\xff", impl.ProgText(d.P), impl.TraceText(d.M.Trace))
	return lines[g.next.below(len(lines))] + []string{"", "", "", "\n", " "}[g.next.below(5)]
}

// ofType is an argument of a type. Those of one call are most often of one desk.
func (g *grab) ofType(kind reflect.Type, d impl.Desk) any {
	if g.next.below(5) == 0 {
		d = g.desks[g.next.below(len(g.desks))]
	}
	switch reflect.New(kind).Elem().Interface().(type) {
	case int:
		return g.number()
	case bool:
		return g.next.below(2) == 0
	case string:
		return g.text()
	case impl.Prog:
		return d.P
	case impl.Source:
		return d.S
	case impl.Machine:
		return d.M
	case impl.Memory:
		return d.M.Mem
	case impl.Desk:
		return d
	case [][]impl.Step:
		return d.M.Codes
	case []impl.Step:
		return append(slices.Concat(d.M.Codes...), impl.Step{Op: g.number()})[:g.next.below(1+len(slices.Concat(d.M.Codes...)))]
	case []impl.Note:
		return d.M.Trace
	case impl.Step:
		return impl.Step{Op: g.next.below(15), R: g.number(), A: g.number() - 1, B: g.number(), N: g.number()}
	case impl.Ins:
		return impl.Ins{Op: g.next.below(15), R: g.number(), A: g.number(), B: g.number(), N: g.number()}
	case []impl.Ins:
		return slices.Concat(d.P.Bodies...)
	case impl.Pick:
		return impl.Pick{Who: g.number(), Late: g.number()}
	case []impl.Pick:
		return oddPicks(4, g.next.below(50), &g.next)
	case impl.Chan:
		return impl.Chan{Cap: g.number(), List: make([]int, g.next.below(6)), Closed: g.next.below(2) == 0}
	case []int:
		lists := [][]int{nil, {}, {0}, {1, 2}, {4, 4, 4}, {0, 1, 0, 2, 3, -1}, d.Order, d.P.Caps, d.P.Caps, make([]int, 24), lastView(d.M.Mem), make([]int, g.next.below(30)), {math.MinInt, math.MaxInt}}
		return lists[g.next.below(len(lists))]
	}
	panic(kind.String())
}

// spared is a copy of v with something in the room behind each of its lists: their first ones once more.
func spared(v reflect.Value) reflect.Value {
	out := copyOf(v, false)
	var more func(v reflect.Value)
	more = func(v reflect.Value) {
		switch v.Kind() {
		case reflect.Slice:
			for i := range v.Len() {
				more(v.Index(i))
			}
			if v.Len() > 0 {
				long := reflect.AppendSlice(v, v.Slice(0, 1))
				v.Set(long.Slice(0, v.Len()))
			}
		case reflect.Struct:
			for i := range v.NumField() {
				more(v.Field(i))
			}
		}
	}
	more(out)
	return out
}

func anyOf(list []reflect.Value) []any {
	var out []any
	for _, v := range list {
		out = append(out, v.Interface())
	}
	return out
}

func copiesOf(list []reflect.Value, whole bool) []any {
	var out []any
	for _, v := range list {
		out = append(out, copyOf(v, whole).Interface())
	}
	return out
}

// Promise 18, of each function of each chapter: it answers at any arguments, writes into none nor behind them, by new
// memory whose lists lie apart, and from call to call the same.
func TestEveryFunctionAnswersAnything(t *testing.T) {
	functions, g := allFunctions(), newGrab(1790)
	for _, name := range slices.Sorted(maps.Keys(functions)) {
		f := reflect.ValueOf(functions[name])
		for range 400 {
			d := g.desks[g.next.below(len(g.desks))]
			var given []reflect.Value
			for i := range f.Type().NumIn() {
				given = append(given, spared(reflect.ValueOf(g.ofType(f.Type().In(i), d))))
			}
			before := copiesOf(given, true)
			first := f.Call(given)
			want := copiesOf(first, false)
			liesTogether(t, name, first, given)
			for _, v := range first {
				scrawl(v.Interface())
			}
			if !reflect.DeepEqual(before, copiesOf(given, true)) {
				t.Fatalf("%v wrote into an argument, or answers what lies in it: %v", name, brief(before))
			}
			second := f.Call(given)
			if !reflect.DeepEqual(copiesOf(second, false), want) {
				t.Fatalf("%v answers another: %v, then %v", name, brief(want), brief(anyOf(second)))
			}
			for _, v := range given {
				scrawl(v.Interface())
			}
			if !reflect.DeepEqual(copiesOf(second, false), want) {
				t.Fatalf("%v keeps an argument: %v", name, brief(want))
			}
		}
	}
}

// liesTogether asks of all results of a call at once what liesApart asks of one.
func liesTogether(t *testing.T, name string, answers []reflect.Value, given []reflect.Value) {
	t.Helper()
	fields := make([]reflect.StructField, len(answers))
	for i, v := range answers {
		fields[i] = reflect.StructField{Name: "V" + strings.Repeat("I", i), Type: v.Type()}
	}
	all := reflect.New(reflect.StructOf(fields)).Elem()
	for i, v := range answers {
		all.Field(i).Set(v)
	}
	liesApart(t, name, all.Interface(), anyOf(given)...)
}
