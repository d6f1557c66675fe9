package tests

import (
	"math"
	"reflect"
	"slices"
	"testing"

	"loop.example/g00238/impl"
)

// kindRow says of one kind of place what the document names: fields by their
// letters, what N is, and the registers that it takes and sets.
type kindRow struct {
	name  string
	op    int
	named string
	n     string
	takes string
	sets  string
}

// insKinds lists the kinds by numbers, so that a change of the constants shows.
func insKinds() []kindRow {
	return []kindRow{
		{"set", 1, "RN", "number", "", "R"},
		{"add", 2, "RAB", "", "AB", "R"},
		{"sub", 3, "RAB", "", "AB", "R"},
		{"less", 4, "RAB", "", "AB", "R"},
		{"send", 5, "AN", "channel", "A", ""},
		{"take", 6, "RBN", "channel", "", "RB"},
		{"trysend", 7, "RAN", "channel", "A", "R"},
		{"trytake", 8, "RBN", "channel", "", "RB"},
		{"close", 9, "N", "channel", "", ""},
		{"print", 10, "A", "", "A", ""},
		{"jump", 11, "N", "place", "", ""},
		{"zero", 12, "AN", "place", "A", ""},
		{"end", 13, "", "", "", ""},
	}
}

func (k kindRow) names(field byte) bool {
	return slices.Contains([]byte(k.named), field)
}

// plain is the kind with registers that differ and N 0.
func (k kindRow) plain() impl.Ins {
	x := impl.Ins{Op: k.op}
	for i, f := range []byte(k.named) {
		if f != 'N' {
			x = with(x, f, i+1)
		}
	}
	return x
}

func with(x impl.Ins, field byte, v int) impl.Ins {
	switch field {
	case 'R':
		x.R = v
	case 'A':
		x.A = v
	case 'B':
		x.B = v
	case 'N':
		x.N = v
	}
	return x
}

func fieldOf(x impl.Ins, field byte) int {
	switch field {
	case 'R':
		return x.R
	case 'A':
		return x.A
	case 'B':
		return x.B
	}
	return x.N
}

func fieldsOf(x impl.Ins, fields string) []int {
	var out []int
	for _, f := range []byte(fields) {
		out = append(out, fieldOf(x, f))
	}
	return out
}

// insWanted is the document's chapter 1 once more, from the table of kinds.
func insWanted(x impl.Ins, places int, chans int) bool {
	if chans < 0 || chans > 3 || x.Op < 1 || x.Op > 13 {
		return false
	}
	k := insKinds()[x.Op-1]
	for _, f := range []byte("RABN") {
		v := fieldOf(x, f)
		if !k.names(f) && v != 0 || k.names(f) && f != 'N' && (v < 0 || v > 3) {
			return false
		}
	}
	if k.sets == "RB" && x.R == x.B {
		return false
	}
	switch k.n {
	case "number":
		return x.N >= -1000000000 && x.N <= 1000000000
	case "channel":
		return x.N >= 0 && x.N < chans
	case "place":
		return x.N >= 0 && x.N < places
	}
	return true
}

// eachIns goes through places of each kind and of none, right and wrong.
func eachIns(look func(x impl.Ins)) {
	regs := []int{math.MinInt, -1, 0, 1, 3, 4, math.MaxInt}
	ns := []int{math.MinInt, -1000000001, -1000000000, -1, 0, 1, 2, 3, 4, 23, 24, 25, 1000000000, 1000000001, math.MaxInt}
	ops := []int{math.MinInt, -1, 14, math.MaxInt}
	for op := 0; op <= 13; op++ {
		ops = append(ops, op)
	}
	for _, op := range ops {
		for _, r := range regs {
			for _, a := range regs {
				for _, b := range regs {
					for _, n := range ns {
						look(impl.Ins{Op: op, R: r, A: a, B: b, N: n})
					}
				}
			}
		}
	}
}

func TestNumbersOfChapterOne(t *testing.T) {
	got := []int{impl.MaxChans, impl.MaxCap, impl.MaxIns, impl.MaxBodies, impl.MaxNum}
	if !slices.Equal(got, []int{3, 4, 24, 4, 1000000000}) {
		t.Error("limits", got)
	}
	ops := []int{impl.SrSet, impl.SrAdd, impl.SrSub, impl.SrLess, impl.SrSend, impl.SrTake, impl.SrTrySend,
		impl.SrTryTake, impl.SrClose, impl.SrPrint, impl.SrJump, impl.SrZero, impl.SrEnd}
	for i, op := range ops {
		if op != i+1 {
			t.Error("op", i, op)
		}
	}
}

func TestInsOkOfEachKind(t *testing.T) {
	for _, k := range insKinds() {
		x := k.plain()
		if !impl.InsOk(x, 1, 1) {
			t.Error(k.name, "plain", x)
		}
		for _, f := range []byte("RABN") {
			if k.names(f) {
				continue
			}
			for _, v := range []int{-1, 1, 2, 3, 4, math.MinInt, math.MaxInt} {
				if y := with(x, f, v); impl.InsOk(y, 24, 3) {
					t.Error(k.name, "a field that is not named", y)
				}
			}
		}
		for _, f := range []byte("RAB") {
			if !k.names(f) {
				continue
			}
			for _, v := range []int{-1, 4, math.MinInt, math.MaxInt} {
				if y := with(x, f, v); impl.InsOk(y, 24, 3) {
					t.Error(k.name, "no register", y)
				}
			}
			for v := 0; v <= 3; v++ {
				y := with(x, f, v)
				if impl.InsOk(y, 24, 3) != (k.sets != "RB" || y.R != y.B) {
					t.Error(k.name, "register", y)
				}
			}
		}
	}
}

func TestInsOkOfN(t *testing.T) {
	for _, k := range insKinds() {
		x := k.plain()
		right, wrong := []int{0}, []int{-1, 1, math.MinInt, math.MaxInt}
		switch k.n {
		case "number":
			right = []int{-1000000000, -1, 0, 1, 1000000000}
			wrong = []int{-1000000001, 1000000001, math.MinInt, math.MaxInt}
		case "channel":
			right, wrong = []int{0, 1}, []int{-1, 2, 3, 4, math.MinInt, math.MaxInt}
		case "place":
			right, wrong = []int{0, 1, 2, 3, 4}, []int{-1, 5, 6, math.MinInt, math.MaxInt}
		}
		for _, n := range right {
			if !impl.InsOk(with(x, 'N', n), 5, 2) {
				t.Error(k.name, "refused N", n)
			}
		}
		for _, n := range wrong {
			if impl.InsOk(with(x, 'N', n), 5, 2) {
				t.Error(k.name, "accepted N", n)
			}
		}
	}
}

func TestInsOkRegistersThatAreOne(t *testing.T) {
	for r := 0; r <= 3; r++ {
		for _, op := range []int{impl.SrTake, impl.SrTryTake} {
			for b := 0; b <= 3; b++ {
				if impl.InsOk(impl.Ins{Op: op, R: r, B: b}, 1, 1) != (r != b) {
					t.Error("take", op, r, b)
				}
			}
		}
		for _, op := range []int{impl.SrAdd, impl.SrSub, impl.SrLess} {
			if !impl.InsOk(impl.Ins{Op: op, R: r, A: r, B: r}, 1, 0) {
				t.Error("the others may have one register", op, r)
			}
		}
		if !impl.InsOk(impl.Ins{Op: impl.SrTrySend, R: r, A: r}, 1, 1) {
			t.Error("trysend may have one register", r)
		}
	}
}

func TestInsOkChansOutside(t *testing.T) {
	for _, k := range insKinds() {
		for _, chans := range []int{math.MinInt, -1, 4, math.MaxInt} {
			if impl.InsOk(k.plain(), 24, chans) {
				t.Error(k.name, chans)
			}
		}
		if !impl.InsOk(k.plain(), 24, 3) {
			t.Error(k.name, "refused at MaxChans")
		}
		if impl.InsOk(k.plain(), 24, 0) != (k.n != "channel") {
			t.Error(k.name, "at no channels")
		}
	}
}

// A count of places bounds nothing but the jumps, and has no limit of its own.
func TestInsOkPlaces(t *testing.T) {
	for _, k := range insKinds() {
		for _, places := range []int{math.MinInt, -1, 0} {
			if impl.InsOk(k.plain(), places, 3) != (k.n != "place") {
				t.Error(k.name, places)
			}
		}
		for _, places := range []int{1, 24, 25, math.MaxInt} {
			if !impl.InsOk(k.plain(), places, 3) {
				t.Error(k.name, places)
			}
		}
	}
	if !impl.InsOk(impl.Ins{Op: impl.SrJump, N: math.MaxInt - 1}, math.MaxInt, 0) {
		t.Error("a far place")
	}
}

func TestInsOkAsTold(t *testing.T) {
	for _, c := range [][2]int{{5, 1}, {24, 3}, {0, 0}, {-1, 2}, {24, 4}, {24, -1}} {
		eachIns(func(x impl.Ins) {
			if got := impl.InsOk(x, c[0], c[1]); got != insWanted(x, c[0], c[1]) {
				t.Error(x, c, got)
			}
		})
	}
}

// Promise 1, of one place.
func TestRightForFewIsRightForMore(t *testing.T) {
	counts := []int{-1, 0, 1, 2, 4, 24, 25, math.MaxInt}
	eachIns(func(x impl.Ins) {
		for i := 1; i < len(counts); i++ {
			if impl.InsOk(x, counts[i-1], 3) && !impl.InsOk(x, counts[i], 3) {
				t.Error("places", x, counts[i])
			}
		}
		for chans := 0; chans < impl.MaxChans; chans++ {
			if impl.InsOk(x, 24, chans) && !impl.InsOk(x, 24, chans+1) {
				t.Error("channels", x, chans+1)
			}
		}
	})
}

// chanBody has each kind of place, on the channels 0 to chans - 1.
func chanBody(chans int) []impl.Ins {
	var list []impl.Ins
	for _, k := range insKinds() {
		if k.n != "channel" {
			list = append(list, k.plain())
		} else if chans > 0 {
			list = append(list, with(k.plain(), 'N', chans-1))
		}
	}
	return list
}

// endsOf is a body of so many places, all of them ends.
func endsOf(places int) []impl.Ins {
	list := make([]impl.Ins, places)
	for i := range list {
		list[i].Op = impl.SrEnd
	}
	return list
}

// Promise 1, of bodies and programs.
func TestBodyRightForMoreChannels(t *testing.T) {
	for need := 0; need <= impl.MaxChans; need++ {
		body := chanBody(need)
		for chans := -1; chans <= impl.MaxChans+1; chans++ {
			right := chans >= need && chans <= impl.MaxChans
			if impl.BodyOk(body, chans) != right {
				t.Error("body", need, chans)
			}
			if chans < 0 {
				continue
			}
			p := impl.Prog{Caps: slices.Repeat([]int{2}, chans), Bodies: [][]impl.Ins{body}}
			if impl.ProgOk(p) != right {
				t.Error("program", need, chans)
			}
		}
		if longer := slices.Concat(body, endsOf(1)); !impl.BodyOk(longer, impl.MaxChans) {
			t.Error("a place more", need)
		}
	}
}

func TestBodyOkLength(t *testing.T) {
	for places := 0; places <= impl.MaxIns+2; places++ {
		if impl.BodyOk(endsOf(places), 0) != (places >= 1 && places <= 24) {
			t.Error(places)
		}
	}
	if impl.BodyOk(nil, 0) || impl.BodyOk([]impl.Ins{}, 3) {
		t.Error("none")
	}
}

func TestBodyOkChans(t *testing.T) {
	for _, chans := range []int{math.MinInt, -1, 4, math.MaxInt} {
		if impl.BodyOk(endsOf(1), chans) {
			t.Error(chans)
		}
	}
	for chans := 0; chans <= 3; chans++ {
		if !impl.BodyOk(endsOf(1), chans) {
			t.Error(chans)
		}
	}
}

func TestBodyOkLastPlace(t *testing.T) {
	for _, k := range insKinds() {
		last := k.op == impl.SrEnd || k.op == impl.SrJump
		if impl.BodyOk([]impl.Ins{k.plain()}, 1) != last {
			t.Error(k.name, "alone")
		}
		if impl.BodyOk([]impl.Ins{{Op: impl.SrEnd}, k.plain()}, 1) != last {
			t.Error(k.name, "last")
		}
		if !impl.BodyOk([]impl.Ins{k.plain(), {Op: impl.SrEnd}}, 1) {
			t.Error(k.name, "ahead of the last")
		}
	}
	if impl.BodyOk([]impl.Ins{{Op: impl.SrEnd, R: 1}}, 1) || impl.BodyOk([]impl.Ins{{Op: impl.SrJump, A: 1}}, 1) {
		t.Error("a last place that is not right")
	}
}

func TestBodyOkEachPlace(t *testing.T) {
	for at := 0; at < impl.MaxIns; at++ {
		for _, bad := range []impl.Ins{{}, {Op: 14}, {Op: impl.SrEnd, N: 1}, {Op: impl.SrJump, N: 24}, {Op: impl.SrZero, N: -1}} {
			list := endsOf(impl.MaxIns)
			list[at] = bad
			if impl.BodyOk(list, 3) {
				t.Error("place", at, bad)
			}
		}
		list := endsOf(impl.MaxIns)
		list[at] = impl.Ins{Op: impl.SrJump, N: 23}
		if !impl.BodyOk(list, 3) {
			t.Error("a jump to the last place", at)
		}
	}
	if impl.BodyOk([]impl.Ins{{Op: impl.SrJump, N: 1}}, 3) {
		t.Error("a jump behind the last place")
	}
}

func TestProgOkCaps(t *testing.T) {
	body := [][]impl.Ins{endsOf(1)}
	for count := 0; count <= 5; count++ {
		for room := 1; room <= 4; room++ {
			if impl.ProgOk(impl.Prog{Caps: slices.Repeat([]int{room}, count), Bodies: body}) != (count <= 3) {
				t.Error("channels", count, room)
			}
		}
		for at := 0; at < count; at++ {
			for _, room := range []int{0, -1, 5, math.MinInt, math.MaxInt} {
				caps := slices.Repeat([]int{1}, count)
				caps[at] = room
				if impl.ProgOk(impl.Prog{Caps: caps, Bodies: body}) {
					t.Error("room", caps)
				}
			}
		}
	}
}

func TestProgOkBodies(t *testing.T) {
	for count := 0; count <= 6; count++ {
		bodies := slices.Repeat([][]impl.Ins{endsOf(1)}, count)
		if impl.ProgOk(impl.Prog{Bodies: bodies}) != (count >= 1 && count <= 4) {
			t.Error("bodies", count)
		}
		for at := 0; at < count; at++ {
			for _, bad := range [][]impl.Ins{nil, endsOf(25), {{Op: impl.SrPrint}}, {{Op: impl.SrClose}, {Op: impl.SrEnd}}} {
				wrong := slices.Clone(bodies)
				wrong[at] = bad
				if impl.ProgOk(impl.Prog{Bodies: wrong}) {
					t.Error("body", at, bad)
				}
			}
		}
	}
	if impl.ProgOk(impl.Prog{}) || impl.ProgOk(impl.Prog{Caps: []int{1}}) {
		t.Error("no bodies")
	}
	full := impl.Prog{Caps: []int{4, 4, 4}, Bodies: slices.Repeat([][]impl.Ins{endsOf(24)}, 4)}
	if !impl.ProgOk(full) {
		t.Error("all limits met")
	}
}

func TestReadsAndSetsOfEachKind(t *testing.T) {
	for _, k := range insKinds() {
		x := k.plain()
		if got := impl.Reads(x); !slices.Equal(got, fieldsOf(x, k.takes)) {
			t.Error(k.name, "reads", got)
		}
		if got := impl.Sets(x); !slices.Equal(got, fieldsOf(x, k.sets)) {
			t.Error(k.name, "sets", got)
		}
	}
	if got := impl.Reads(impl.Ins{Op: impl.SrAdd, R: 1, A: 2, B: 2}); !slices.Equal(got, []int{2, 2}) {
		t.Error("A and B that are one are told as named", got)
	}
}

// Promise 18, of Reads and Sets: they answer by Op, whatever else is there.
func TestReadsAndSetsAtAnyArguments(t *testing.T) {
	eachIns(func(x impl.Ins) {
		var k kindRow
		if x.Op >= 1 && x.Op <= 13 {
			k = insKinds()[x.Op-1]
		}
		if got := impl.Reads(x); !slices.Equal(got, fieldsOf(x, k.takes)) {
			t.Error("reads", x, got)
		}
		if got := impl.Sets(x); !slices.Equal(got, fieldsOf(x, k.sets)) {
			t.Error("sets", x, got)
		}
	})
}

// scribble writes over a list and over the spare room behind it.
func scribble(list []int) {
	list = list[:cap(list)]
	for i := range list {
		list[i] = -77
	}
}

// Promise 18: an answer is new memory, and nothing is kept between calls.
func TestReadsAndSetsAnswerNewMemory(t *testing.T) {
	for _, k := range insKinds() {
		x := k.plain()
		for range 2 {
			reads, sets := impl.Reads(x), impl.Sets(x)
			scribble(reads)
			if !slices.Equal(sets, fieldsOf(x, k.sets)) {
				t.Error(k.name, "sets", sets)
			}
			scribble(sets)
			if again := impl.Reads(x); !slices.Equal(again, fieldsOf(x, k.takes)) {
				t.Error(k.name, "reads", again)
			}
		}
	}
}

// spareBody is a body with something in the spare room behind it.
func spareBody(list []impl.Ins) []impl.Ins {
	room := slices.Concat(list, []impl.Ins{{Op: 7, R: 7, A: 7, B: 7, N: 7}, {Op: impl.SrEnd}})
	return room[:len(list)]
}

// spareProg has something in the spare room behind each of its lists; it is
// right where last may stand last.
func spareProg(last impl.Ins) impl.Prog {
	bodies := [][]impl.Ins{spareBody(append(chanBody(2), last)), spareBody(endsOf(2)), {{Op: -5}}}
	return impl.Prog{Caps: []int{1, 4, 99, -9}[:2], Bodies: bodies[:2]}
}

// wholeProg copies all that the lists of a program hold, spare room and all.
func wholeProg(p impl.Prog) []any {
	out := []any{slices.Clone(p.Caps[:cap(p.Caps)])}
	for _, body := range p.Bodies[:cap(p.Bodies)] {
		out = append(out, slices.Clone(body[:cap(body)]))
	}
	return out
}

// unwritten calls look with programs, right and wrong ones, and asks that it writes into none.
func unwritten(t *testing.T, look func(p impl.Prog, right bool)) {
	t.Helper()
	for _, last := range []impl.Ins{{Op: impl.SrEnd}, {Op: impl.SrJump, N: 1}, {Op: impl.SrPrint}, {}} {
		p := spareProg(last)
		before := wholeProg(p)
		look(p, last.Op == impl.SrEnd || last.Op == impl.SrJump)
		if !reflect.DeepEqual(before, wholeProg(p)) {
			t.Error("written into", last)
		}
	}
}

// Promise 18: nothing is written into an argument, nor behind it, nor read there.
func TestChapterOneWritesIntoNoArgument(t *testing.T) {
	unwritten(t, func(p impl.Prog, right bool) {
		if impl.BodyOk(p.Bodies[0], 2) != right || impl.ProgOk(p) != right {
			t.Error("answer", p)
		}
	})
}

// Promise 18: long and wrong lists are answered too.
func TestChapterOneAnswersLongLists(t *testing.T) {
	long := make([]impl.Ins, 100000)
	caps := make([]int, 100000)
	bodies := make([][]impl.Ins, 100000)
	if impl.BodyOk(long, 3) || impl.BodyOk(endsOf(100000), 3) {
		t.Error("body")
	}
	if impl.ProgOk(impl.Prog{Caps: caps, Bodies: bodies}) || impl.ProgOk(impl.Prog{Bodies: bodies}) {
		t.Error("program")
	}
}
