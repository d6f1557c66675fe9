package tests

import (
	"fmt"
	"math"
	"regexp"
	"slices"
	"strconv"
	"strings"
	"testing"

	"loop.example/g00238/impl"
)

// textOrder is for each op, from 1 on, the order in which its fields are written.
func textOrder() []string {
	return []string{"RN", "RAB", "RAB", "RAB", "NA", "RBN", "RNA", "RBN", "N", "A", "N", "AN", ""}
}

// textWanted is the document's InsText once more, from the table of kinds.
func textWanted(x impl.Ins) string {
	if !insWanted(x, 24, 3) {
		return ""
	}
	words := []string{insKinds()[x.Op-1].name}
	for _, v := range fieldsOf(x, textOrder()[x.Op-1]) {
		words = append(words, fmt.Sprintf("%d", v))
	}
	return strings.Join(words, " ")
}

// lineShape is what a line looks like, but for takes whose registers are one
// and for sets beyond the greatest number.
const lineShape = `(?:set [0-3] (?:0|-?[1-9][0-9]{0,9})|(?:add|sub|less) [0-3] [0-3] [0-3]|send [0-2] [0-3]|` +
	`(?:take|trytake) [0-3] [0-3] [0-2]|trysend [0-3] [0-2] [0-3]|close [0-2]|print [0-3]|` +
	`jump (?:[0-9]|1[0-9]|2[0-3])|zero [0-3] (?:[0-9]|1[0-9]|2[0-3])|end)`

var lineMatch = regexp.MustCompile(`\A` + lineShape + `\z`)

var progMatch = regexp.MustCompile(`\Acaps(?: [1-4]){0,3}\n(?:body\n(?:` + lineShape + `\n){1,24}){1,4}\z`)

// lineWanted says by the text alone whether a line is one.
func lineWanted(line string) bool {
	if !lineMatch.MatchString(line) {
		return false
	}
	words := strings.Split(line, " ")
	switch words[0] {
	case "set":
		n, err := strconv.Atoi(words[2])
		return err == nil && n >= -1000000000 && n <= 1000000000
	case "take", "trytake":
		return words[1] != words[2]
	}
	return true
}

// bodyWanted says whether lines are right for one body with so many channels.
func bodyWanted(lines []string, chans int) bool {
	for _, line := range lines {
		if !lineWanted(line) {
			return false
		}
		words := strings.Split(line, " ")
		at, below := 0, 0
		switch words[0] {
		case "send", "close":
			at, below = 1, chans
		case "trysend":
			at, below = 2, chans
		case "take", "trytake":
			at, below = 3, chans
		case "jump":
			at, below = 1, len(lines)
		case "zero":
			at, below = 2, len(lines)
		}
		if at > 0 {
			if n, _ := strconv.Atoi(words[at]); n >= below {
				return false
			}
		}
	}
	last := lines[len(lines)-1]
	return last == "end" || strings.HasPrefix(last, "jump ")
}

// progWanted says by the text alone whether it is that of a program.
func progWanted(text string) bool {
	if !progMatch.MatchString(text) {
		return false
	}
	parts := strings.Split(strings.TrimSuffix(text, "\n"), "\nbody\n")
	chans := len(strings.Split(parts[0], " ")) - 1
	for _, part := range parts[1:] {
		if !bodyWanted(strings.Split(part, "\n"), chans) {
			return false
		}
	}
	return true
}

// readsLine holds what InsRead says of a line against what the line looks like.
func readsLine(t *testing.T, line string) {
	t.Helper()
	x, ok := impl.InsRead(line)
	if ok != lineWanted(line) {
		t.Errorf("%q: %v", line, ok)
	}
	if ok && (!insWanted(x, 24, 3) || textWanted(x) != line) {
		t.Errorf("%q is read as %v", line, x)
	}
	if !ok && x != (impl.Ins{}) {
		t.Errorf("%q: beside a false %v", line, x)
	}
}

// readsProg is readsLine of a program.
func readsProg(t *testing.T, text string) {
	t.Helper()
	p, ok := impl.ProgRead(text)
	if ok != progWanted(text) {
		t.Errorf("%q: %v", text, ok)
	}
	if ok && (!impl.ProgOk(p) || impl.ProgText(p) != text) {
		t.Errorf("%q is read as %v", text, p)
	}
	if !ok && len(p.Caps)+len(p.Bodies) != 0 {
		t.Errorf("%q: beside a false %v", text, p)
	}
}

// edits are the texts that are one byte away.
func edits(text string, look func(near string)) {
	bytes := "\x00\t\n\r 0123456789+-.;abcdeilnorstyEX\x7f\x80\xc3\xff"
	for at := 0; at <= len(text); at++ {
		ahead, behind := text[:at], text[at:]
		if behind != "" {
			look(ahead + behind[1:])
		}
		for _, b := range []byte(bytes) {
			look(ahead + string([]byte{b}) + behind)
			if behind != "" {
				look(ahead + string([]byte{b}) + behind[1:])
			}
		}
	}
}

// kindTexts has a place of each kind beside its text, written out.
func kindTexts() map[string]impl.Ins {
	return map[string]impl.Ins{
		"set 2 -17":     {Op: 1, R: 2, N: -17},
		"add 0 1 2":     {Op: 2, R: 0, A: 1, B: 2},
		"sub 3 2 1":     {Op: 3, R: 3, A: 2, B: 1},
		"less 1 0 3":    {Op: 4, R: 1, A: 0, B: 3},
		"send 2 1":      {Op: 5, A: 1, N: 2},
		"take 1 3 2":    {Op: 6, R: 1, B: 3, N: 2},
		"trysend 3 2 1": {Op: 7, R: 3, A: 1, N: 2},
		"trytake 0 3 1": {Op: 8, R: 0, B: 3, N: 1},
		"close 2":       {Op: 9, N: 2},
		"print 3":       {Op: 10, A: 3},
		"jump 23":       {Op: 11, N: 23},
		"zero 1 20":     {Op: 12, A: 1, N: 20},
		"end":           {Op: 13},
	}
}

func TestInsTextOfEachKind(t *testing.T) {
	for line, x := range kindTexts() {
		if got := impl.InsText(x); got != line {
			t.Errorf("%q, not %q", got, line)
		}
		if got, ok := impl.InsRead(line); !ok || got != x {
			t.Errorf("%q is read as %v %v", line, got, ok)
		}
	}
}

// Promise 2, of one place: right ones are read as they were, wrong ones have no text.
func TestInsTextAndBack(t *testing.T) {
	eachIns(func(x impl.Ins) {
		text := impl.InsText(x)
		if text != textWanted(x) {
			t.Errorf("%v: %q", x, text)
		}
		if text == "" {
			return
		}
		if y, ok := impl.InsRead(text); !ok || y != x {
			t.Errorf("%q is read as %v %v", text, y, ok)
		}
	})
}

func TestInsReadNumbers(t *testing.T) {
	numbers := []string{"0", "5", "10", "100", "1000000000", "-1000000000", "-1", "-10", "999999999", "-999999999",
		"1000000001", "-1000000001", "00", "05", "-05", "000", "0000000000000000000000005", "-0", "-00", "-", "--1", "1-",
		"+1", "+0", "+", "1.0", "1e3", "0x1", "1_000", "", "9999999999", "-9999999999", "10000000000",
		"9223372036854775807", "9223372036854775808", "-9223372036854775808", "-9223372036854775809",
		"18446744073709551615", "18446744073709551616", "18446744073709551617", "-18446744073709551616",
		"36893488147419103233", "4294967296", "4294967297", "1" + strings.Repeat("0", 64), strings.Repeat("9", 5000),
		strings.Repeat("0", 5000), strings.Repeat("-", 5000), "\u0661", "\uff11", "\u22121", "1\x00", "\xff", "\x00"}
	for line := range kindTexts() {
		words := strings.Split(line, " ")
		for at := 1; at < len(words); at++ {
			for _, n := range numbers {
				changed := slices.Clone(words)
				changed[at] = n
				readsLine(t, strings.Join(changed, " "))
			}
			for n := -30; n <= 30; n++ {
				changed := slices.Clone(words)
				changed[at] = strconv.Itoa(n)
				readsLine(t, strings.Join(changed, " "))
			}
		}
	}
}

func TestInsReadRefusesByName(t *testing.T) {
	for _, bad := range []string{"", " ", "  ", "-", "0", "set", "set ", "set 0", "set 0 ", "set 0 05", "set 0 -0", "set 0 -",
		"set 0 1000000001", "set 0 -1000000001", "set  0 5", "set 0  5", " set 0 5", "set 0 5 ", "set05", "set0 5",
		"set 05", "set\t0 5", "set 0\t5", "set 0 5\n", "set 0 5\r", "\nset 0 5", "Set 0 5", "SET 0 5", "set 0 5 5",
		"set 4 5", "set -1 5", "set 00 5", "send 3 0", "send 0 4", "take 1 1 0", "trytake 2 2 0", "jump 24", "jump -1",
		"zero 0 24", "zero 4 0", "close 3", "print 4", "end 1", "end ", "ends", "en", "fly", "caps", "caps 1", "body", "set\x000 5",
		"s\u0435t 0 5", "set\u00a00 5", "\ufeffset 0 5", "end\x00", "\xff\xfe", "e\xffnd", "set 0 \xff"} {
		if x, ok := impl.InsRead(bad); ok || x != (impl.Ins{}) {
			t.Errorf("%q is read as %v %v", bad, x, ok)
		}
	}
	for good, x := range map[string]impl.Ins{"set 0 1000000000": {Op: 1, N: 1000000000}, "set 3 -1000000000": {Op: 1, R: 3, N: -1000000000},
		"set 0 0": {Op: 1}, "jump 0": {Op: 11}, "send 0 0": {Op: 5}, "take 0 1 0": {Op: 6, B: 1}} {
		if y, ok := impl.InsRead(good); !ok || x != y {
			t.Errorf("%q is read as %v %v", good, y, ok)
		}
	}
}

func TestInsReadWords(t *testing.T) {
	for line := range kindTexts() {
		words := strings.Split(line, " ")
		for at := 0; at <= len(words); at++ {
			for _, more := range []string{"", "0", "1", "x", "end"} {
				readsLine(t, strings.Join(slices.Insert(slices.Clone(words), at, more), " "))
			}
			if at < len(words) {
				readsLine(t, strings.Join(slices.Delete(slices.Clone(words), at, at+1), " "))
			}
		}
		for _, glue := range []string{"", "  ", "\t", "\n", "\u00a0", ","} {
			readsLine(t, strings.Join(words, glue))
		}
		for _, k := range insKinds() {
			readsLine(t, strings.Join(append([]string{k.name}, words[1:]...), " "))
		}
	}
}

func TestInsReadNearTexts(t *testing.T) {
	for line := range kindTexts() {
		edits(line, func(near string) { readsLine(t, near) })
	}
	for _, line := range []string{"set 0 1000000000", "set 0 -1000000000", "set 0 0", "jump 9", "zero 0 19"} {
		edits(line, func(near string) { readsLine(t, near) })
	}
}

// sampleProg sends two numbers and closes, and prints what comes.
func sampleProg() (impl.Prog, string) {
	p := impl.Prog{Caps: []int{1, 4}, Bodies: [][]impl.Ins{
		{{Op: impl.SrSet, R: 0, N: -5}, {Op: impl.SrSend, A: 0, N: 1}, {Op: impl.SrTrySend, R: 3, A: 2, N: 1}, {Op: impl.SrClose, N: 1}, {Op: impl.SrEnd}},
		{{Op: impl.SrTake, R: 0, B: 1, N: 1}, {Op: impl.SrZero, A: 1, N: 4}, {Op: impl.SrPrint, A: 0}, {Op: impl.SrJump}, {Op: impl.SrEnd}}}}
	return p, "caps 1 4\nbody\nset 0 -5\nsend 1 0\ntrysend 3 1 2\nclose 1\nend\n" +
		"body\ntake 0 1 1\nzero 1 4\nprint 0\njump 0\nend\n"
}

// sameProg holds programs against each other; an empty list and nil are the same.
func sameProg(p impl.Prog, q impl.Prog) bool {
	return slices.Equal(p.Caps, q.Caps) && slices.EqualFunc(p.Bodies, q.Bodies, slices.Equal[[]impl.Ins])
}

func TestProgTextWritten(t *testing.T) {
	p, want := sampleProg()
	texts := map[string]impl.Prog{
		want:                     p,
		"caps\nbody\nend\n":      {Bodies: [][]impl.Ins{endsOf(1)}},
		"caps 4\nbody\njump 0\n": {Caps: []int{4}, Bodies: [][]impl.Ins{{{Op: impl.SrJump}}}},
		"caps 1 2 3\nbody\nend\nend\nbody\nend\n": {Caps: []int{1, 2, 3}, Bodies: [][]impl.Ins{endsOf(2), endsOf(1)}},
		"caps\nbody\nend\nbody\nend\nbody\nend\nbody\nset 1 1000000000\nset 2 -1000000000\nend\n": {Bodies: [][]impl.Ins{
			endsOf(1), endsOf(1), endsOf(1), {{Op: impl.SrSet, R: 1, N: 1000000000}, {Op: impl.SrSet, R: 2, N: -1000000000}, {Op: impl.SrEnd}}}},
	}
	for text, prog := range texts {
		if got := impl.ProgText(prog); got != text {
			t.Errorf("%q, not %q", got, text)
		}
		if got, ok := impl.ProgRead(text); !ok || !sameProg(got, prog) {
			t.Errorf("%q is read as %v %v", text, got, ok)
		}
	}
}

// eachProg goes through programs of all counts of channels, bodies and places, with each kind of place.
func eachProg(look func(p impl.Prog)) {
	turn := 0
	for chans := 0; chans <= impl.MaxChans; chans++ {
		for count := 1; count <= impl.MaxBodies; count++ {
			for places := 1; places <= impl.MaxIns; places++ {
				p := impl.Prog{}
				for n := range chans {
					p.Caps = append(p.Caps, 1+(turn+n)%impl.MaxCap)
				}
				for range count {
					turn++
					p.Bodies = append(p.Bodies, turnedBody(chans, places, turn))
				}
				look(p)
			}
		}
	}
}

// turnedBody takes its places from those of chanBody, from another one on at each turn.
func turnedBody(chans int, places int, turn int) []impl.Ins {
	from := chanBody(chans)
	body := endsOf(places)
	for at := range places - 1 {
		x := from[(turn*7+at)%len(from)]
		switch insKinds()[x.Op-1].n {
		case "place":
			x.N = (turn + at) % places
		case "number":
			x.N = (turn - 40) * 123457
		}
		body[at] = x
	}
	return body
}

// Promise 2, of whole programs.
func TestProgTextAndBack(t *testing.T) {
	seen := map[string]int{}
	count := 0
	eachProg(func(p impl.Prog) {
		text := impl.ProgText(p)
		if !progWanted(text) {
			t.Errorf("%v: %q", p, text)
		}
		if q, ok := impl.ProgRead(text); !ok || !sameProg(p, q) {
			t.Errorf("%q is read as %v %v", text, q, ok)
		}
		seen[text]++
		count++
	})
	if count != 4*4*24 || len(seen) < count/2 {
		t.Error("programs", count, len(seen))
	}
}

func TestProgTextOfNone(t *testing.T) {
	one := [][]impl.Ins{endsOf(1)}
	for _, p := range []impl.Prog{{}, {Caps: []int{1}}, {Caps: []int{0}, Bodies: one}, {Caps: []int{5}, Bodies: one},
		{Caps: []int{-1}, Bodies: one}, {Caps: []int{1, 1, 1, 1}, Bodies: one}, {Bodies: [][]impl.Ins{nil}},
		{Bodies: slices.Repeat(one, 5)}, {Bodies: [][]impl.Ins{endsOf(25)}}, {Bodies: [][]impl.Ins{endsOf(1), {}}},
		{Bodies: [][]impl.Ins{{{Op: impl.SrPrint}}}}, {Bodies: [][]impl.Ins{{{Op: impl.SrClose}, {Op: impl.SrEnd}}}},
		{Bodies: [][]impl.Ins{{{Op: impl.SrJump, N: 1}}}}, {Bodies: [][]impl.Ins{{{Op: 14}, {Op: impl.SrEnd}}}},
		{Bodies: [][]impl.Ins{{{Op: math.MinInt}, {Op: impl.SrEnd}}}}, {Bodies: [][]impl.Ins{{{Op: impl.SrEnd, N: 1}}}},
		{Caps: []int{math.MaxInt}, Bodies: one}, {Caps: []int{math.MinInt}, Bodies: one}} {
		if text := impl.ProgText(p); text != "" {
			t.Errorf("%v: %q", p, text)
		}
	}
}

// refused texts are told false and nothing beside it.
func refused(t *testing.T, texts ...string) {
	t.Helper()
	for _, text := range texts {
		if p, ok := impl.ProgRead(text); ok || p.Caps != nil || p.Bodies != nil {
			t.Errorf("%.80q is read as %v %v", text, p, ok)
		}
	}
}

func TestProgReadEnds(t *testing.T) {
	_, want := sampleProg()
	for cut := 0; cut < len(want); cut++ {
		readsProg(t, want[:cut])
		readsProg(t, want[cut:])
	}
	refused(t, "", "\n", "\n\n", "caps", "caps\n", "caps 1\n", "body\n", "end\n", "end", "body\nend\n", "caps\nbody\nend",
		want[:len(want)-1], want+"\n", want+"x", want+" ", want+"\x00", want+"\r", want+want, "\n"+want, " "+want,
		want[:len(want)-1]+"\r\n", strings.ReplaceAll(want, "\n", "\r\n"), strings.ReplaceAll(want, "\n", "\r"))
}

func TestProgReadCaps(t *testing.T) {
	tail := "\nbody\nend\n"
	for _, caps := range []string{"caps 0", "caps 5", "caps -1", "caps 01", "caps 00", "caps -0", "caps -", "caps +1", "caps ", "caps  1",
		"caps 1 ", " caps 1", "caps1", "caps 1  2", "caps 1 1 1 1", "caps 1 1 1 ", "caps\t1", "caps 12", "caps x", "Caps 1", "cap 1", "capss", "",
		"caps 18446744073709551617", "caps 4294967297", "caps " + strings.Repeat("9", 100), "caps 1 2 0", "caps 0 1 2", "caps 1 9 2",
		"caps 1\x00", "caps \xff", "\xffcaps 1", "caps\n", "caps\ncaps", "body", "caps 1,2"} {
		refused(t, caps+tail)
	}
	for _, caps := range []string{"caps", "caps 1", "caps 4", "caps 1 4", "caps 1 2 3", "caps 4 4 4"} {
		readsProg(t, caps+tail)
		if _, ok := impl.ProgRead(caps + tail); !ok {
			t.Error("refused", caps)
		}
	}
}

func TestProgReadBodies(t *testing.T) {
	for count := 0; count <= 7; count++ {
		text := "caps 1\n" + strings.Repeat("body\nend\n", count)
		if p, ok := impl.ProgRead(text); ok != (count >= 1 && count <= 4) || ok && len(p.Bodies) != count {
			t.Error("bodies", count, ok)
		}
		for at := range count {
			changed := slices.Repeat([]string{"body\nend\n"}, count)
			changed[at] = "body\n"
			refused(t, "caps 1\n"+strings.Join(changed, ""))
		}
	}
	for places := 0; places <= 26; places++ {
		text := "caps\nbody\n" + strings.Repeat("end\n", places)
		if p, ok := impl.ProgRead(text); ok != (places >= 1 && places <= 24) || ok && len(p.Bodies[0]) != places {
			t.Error("places", places, ok)
		}
	}
	refused(t, "caps\nend\nbody\nend\n", "caps\nbody \nend\n", "caps\nbody 1\nend\n", "caps\n body\nend\n", "caps\nBody\nend\n",
		"caps\nbody\nbody\nend\n", "caps\nbodyend\n", "caps\nbody\nend\nbody", "caps\nbody\nend\ncaps\n",
		"caps\nbody\nprint 0\n", "caps\nbody\nsend 0 0\nend\n", "caps 1\nbody\nsend 1 0\nend\n", "caps\nbody\njump 1\n",
		"caps\nbody\nset 0 1000000001\nend\n", "caps\nbody\nset 0 18446744073709551617\nend\n", "caps\nbody\nset 0 01\nend\n",
		"caps\nbody\nset 0 -0\nend\n", "caps\nbody\nset 0 -\nend\n", "caps\nbody\nset  0 1\nend\n", "caps\nbody\nend \n", "caps\nbody\nfly\nend\n")
}

func TestProgReadLines(t *testing.T) {
	_, want := sampleProg()
	lines := strings.SplitAfter(strings.TrimSuffix(want, "\n"), "\n")
	lines[len(lines)-1] += "\n"
	for at := 0; at <= len(lines); at++ {
		for _, more := range []string{"\n", " \n", "\r\n", "end\n", "body\n", "caps\n", "caps 1\n", "close 0\n", "close 2\n", "set 0 05\n", "jump 5\n", "jump 6\n", "x\n", "\xff\n"} {
			readsProg(t, strings.Join(slices.Insert(slices.Clone(lines), at, more), ""))
			if at < len(lines) {
				changed := slices.Clone(lines)
				changed[at] = more
				readsProg(t, strings.Join(changed, ""))
			}
		}
		refused(t, strings.Join(slices.Insert(slices.Clone(lines), at, "\n"), ""))
		if at < len(lines) {
			readsProg(t, strings.Join(slices.Delete(slices.Clone(lines), at, at+1), ""))
		}
	}
}

func TestProgReadNearTexts(t *testing.T) {
	_, want := sampleProg()
	edits(want, func(near string) { readsProg(t, near) })
	edits("caps\nbody\nend\n", func(near string) { readsProg(t, near) })
	right := 0
	edits(want, func(near string) {
		if _, ok := impl.ProgRead(near); ok {
			right++
		}
	})
	if right == 0 {
		t.Error("no near text is one")
	}
}

// Promise 18: bytes that are no text are answered.
func TestReadsAtAnyBytes(t *testing.T) {
	for a := range 256 {
		for b := range 256 {
			two := string([]byte{byte(a), byte(b)})
			readsLine(t, two)
			readsProg(t, two)
		}
		_, want := sampleProg()
		readsProg(t, want+string([]byte{byte(a)}))
		readsProg(t, strings.Replace(want, "-5", string([]byte{byte(a)}), 1))
	}
	next := uint64(1)
	for size := range 3000 {
		text := make([]byte, size%70)
		for i := range text {
			next = next*6364136223846793005 + 1442695040888963407
			text[i] = byte(next >> 56)
		}
		readsLine(t, string(text))
		readsProg(t, string(text))
	}
}

// Promise 18: long texts are answered too, and at once.
func TestReadsAtLongTexts(t *testing.T) {
	for _, piece := range []string{"9", "0", "-", " ", "\n", "body\n", "end\n", "caps 1\n", "caps\nbody\nend\n", "\xff", "end ", "1 "} {
		long := strings.Repeat(piece, 300000)
		for _, line := range []string{long, "set 0 " + long, "set " + long, "end" + long} {
			if x, ok := impl.InsRead(line); ok || x != (impl.Ins{}) {
				t.Errorf("%.20q", line)
			}
		}
		refused(t, long, "caps "+long, "caps\n"+long, "caps\nbody\n"+long, "caps\nbody\nset 0 "+long+"\nend\n")
	}
}

// writeOver writes over all lists of a program, and over the spare room behind them.
func writeOver(p impl.Prog) {
	scribble(p.Caps)
	for _, body := range p.Bodies {
		body = body[:cap(body)]
		for i := range body {
			body[i] = impl.Ins{Op: -77, R: -77, A: -77, B: -77, N: -77}
		}
	}
	bodies := p.Bodies[:cap(p.Bodies)]
	for i := range bodies {
		bodies[i] = nil
	}
}

// Promise 18: an answer is new memory, and nothing is kept between calls.
func TestProgReadAnswersNewMemory(t *testing.T) {
	p, want := sampleProg()
	for range 3 {
		q, ok := impl.ProgRead(want)
		if !ok || !sameProg(p, q) {
			t.Fatal("read", q)
		}
		writeOver(q)
	}
	if q, ok := impl.ProgRead("caps\nbody\nend\n"); !ok || len(q.Caps) != 0 || len(q.Bodies) != 1 || len(q.Bodies[0]) != 1 {
		t.Error("something was kept", q)
	}
	if got := impl.ProgText(p); got != want {
		t.Error("text", got)
	}
}

// Promise 18: no two lists of one answer share any memory.
func TestProgReadListsLieApart(t *testing.T) {
	eachProg(func(p impl.Prog) {
		q, ok := impl.ProgRead(impl.ProgText(p))
		if !ok {
			t.Fatal("read", p)
		}
		for at, body := range q.Bodies {
			body = body[:cap(body)]
			for i := range body {
				body[i] = impl.Ins{Op: -77}
			}
			for i := at + 1; i < len(q.Bodies); i++ {
				if !slices.Equal(q.Bodies[i], p.Bodies[i]) {
					t.Error("bodies share memory", at, i)
				}
			}
		}
	})
}

// Promise 18: nothing is written into an argument, nor behind it, nor read there.
func TestProgTextWritesIntoNoArgument(t *testing.T) {
	unwritten(t, func(p impl.Prog, right bool) {
		if text := impl.ProgText(p); (text != "") != right {
			t.Error("answer", p, text)
		}
	})
}

// Promise 18: long and wrong lists have the empty text.
func TestProgTextAnswersLongLists(t *testing.T) {
	for _, p := range []impl.Prog{{Caps: make([]int, 100000), Bodies: make([][]impl.Ins, 100000)},
		{Bodies: [][]impl.Ins{endsOf(100000)}}, {Bodies: slices.Repeat([][]impl.Ins{endsOf(1)}, 100000)}} {
		if impl.ProgText(p) != "" {
			t.Error("a text of none")
		}
	}
}
