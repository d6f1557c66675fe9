package impl

const (
	MaxChans  = 3
	MaxCap    = 4
	MaxIns    = 24
	MaxBodies = 4
	MaxNum    = 1000000000
)

const (
	SrSet = iota + 1
	SrAdd
	SrSub
	SrLess
	SrSend
	SrTake
	SrTrySend
	SrTryTake
	SrClose
	SrPrint
	SrJump
	SrZero
	SrEnd
)

// lastReg is the last register of a program: they are numbered from 0 on.
const lastReg = 3

type Ins struct {
	Op int
	R  int
	A  int
	B  int
	N  int
}

type Prog struct {
	Caps   []int
	Bodies [][]Ins
}

// A place is an Ins of one kind that holds what the kind names and nothing
// else. An Ins that is not its own place's ins has a field that is not named.
type place interface {
	ins() Ins
}

type setPlace struct{ r, n int }
type addPlace struct{ r, a, b int }
type subPlace struct{ r, a, b int }
type lessPlace struct{ r, a, b int }
type sendPlace struct{ a, n int }
type takePlace struct{ r, b, n int }
type trySendPlace struct{ r, a, n int }
type tryTakePlace struct{ r, b, n int }
type closePlace struct{ n int }
type printPlace struct{ a int }
type jumpPlace struct{ n int }
type zeroPlace struct{ a, n int }
type endPlace struct{}

func (k setPlace) ins() Ins     { return Ins{Op: SrSet, R: k.r, N: k.n} }
func (k addPlace) ins() Ins     { return Ins{Op: SrAdd, R: k.r, A: k.a, B: k.b} }
func (k subPlace) ins() Ins     { return Ins{Op: SrSub, R: k.r, A: k.a, B: k.b} }
func (k lessPlace) ins() Ins    { return Ins{Op: SrLess, R: k.r, A: k.a, B: k.b} }
func (k sendPlace) ins() Ins    { return Ins{Op: SrSend, A: k.a, N: k.n} }
func (k takePlace) ins() Ins    { return Ins{Op: SrTake, R: k.r, B: k.b, N: k.n} }
func (k trySendPlace) ins() Ins { return Ins{Op: SrTrySend, R: k.r, A: k.a, N: k.n} }
func (k tryTakePlace) ins() Ins { return Ins{Op: SrTryTake, R: k.r, B: k.b, N: k.n} }
func (k closePlace) ins() Ins   { return Ins{Op: SrClose, N: k.n} }
func (k printPlace) ins() Ins   { return Ins{Op: SrPrint, A: k.a} }
func (k jumpPlace) ins() Ins    { return Ins{Op: SrJump, N: k.n} }
func (k zeroPlace) ins() Ins    { return Ins{Op: SrZero, A: k.a, N: k.n} }
func (k endPlace) ins() Ins     { return Ins{Op: SrEnd} }

// placeOf answers nil, which is no kind, where Op is none.
func placeOf(x Ins) place {
	switch x.Op {
	case SrSet:
		return setPlace{x.R, x.N}
	case SrAdd:
		return addPlace{x.R, x.A, x.B}
	case SrSub:
		return subPlace{x.R, x.A, x.B}
	case SrLess:
		return lessPlace{x.R, x.A, x.B}
	case SrSend:
		return sendPlace{x.A, x.N}
	case SrTake:
		return takePlace{x.R, x.B, x.N}
	case SrTrySend:
		return trySendPlace{x.R, x.A, x.N}
	case SrTryTake:
		return tryTakePlace{x.R, x.B, x.N}
	case SrClose:
		return closePlace{x.N}
	case SrPrint:
		return printPlace{x.A}
	case SrJump:
		return jumpPlace{x.N}
	case SrZero:
		return zeroPlace{x.A, x.N}
	case SrEnd:
		return endPlace{}
	}
	return nil
}

func isReg(r int) bool { return 0 <= r && r <= lastReg }

func areRegs(r int, a int, b int) bool { return isReg(r) && isReg(a) && isReg(b) }

// isOneOf serves channels and places alike: there are none where count is below 1.
func isOneOf(n int, count int) bool { return 0 <= n && n < count }

func isNum(n int) bool { return -MaxNum <= n && n <= MaxNum }

func areChans(chans int) bool { return 0 <= chans && chans <= MaxChans }

// takesOk asks for two registers: one could not hold what came and whether it came.
func takesOk(r int, b int) bool { return isReg(r) && isReg(b) && r != b }

func placeOk(k place, places int, chans int) bool {
	switch y := k.(type) {
	case setPlace:
		return isReg(y.r) && isNum(y.n)
	case addPlace:
		return areRegs(y.r, y.a, y.b)
	case subPlace:
		return areRegs(y.r, y.a, y.b)
	case lessPlace:
		return areRegs(y.r, y.a, y.b)
	case sendPlace:
		return isReg(y.a) && isOneOf(y.n, chans)
	case takePlace:
		return takesOk(y.r, y.b) && isOneOf(y.n, chans)
	case trySendPlace:
		return isReg(y.r) && isReg(y.a) && isOneOf(y.n, chans)
	case tryTakePlace:
		return takesOk(y.r, y.b) && isOneOf(y.n, chans)
	case closePlace:
		return isOneOf(y.n, chans)
	case printPlace:
		return isReg(y.a)
	case jumpPlace:
		return isOneOf(y.n, places)
	case zeroPlace:
		return isReg(y.a) && isOneOf(y.n, places)
	case endPlace:
		return true
	}
	return false
}

func InsOk(x Ins, places int, chans int) bool {
	k := placeOf(x)
	return k != nil && k.ins() == x && areChans(chans) && placeOk(k, places, chans)
}

// endsBody: behind any other place a body would run on to where there is none.
func endsBody(x Ins) bool { return x.Op == SrEnd || x.Op == SrJump }

func BodyOk(list []Ins, chans int) bool {
	if !areChans(chans) || len(list) < 1 || len(list) > MaxIns {
		return false
	}
	for _, x := range list {
		if !InsOk(x, len(list), chans) {
			return false
		}
	}
	return endsBody(list[len(list)-1])
}

func capOk(room int) bool { return 1 <= room && room <= MaxCap }

func capsOk(caps []int) bool {
	if !areChans(len(caps)) {
		return false
	}
	for _, room := range caps {
		if !capOk(room) {
			return false
		}
	}
	return true
}

func ProgOk(p Prog) bool {
	if !capsOk(p.Caps) || len(p.Bodies) < 1 || len(p.Bodies) > MaxBodies {
		return false
	}
	for _, body := range p.Bodies {
		if !BodyOk(body, len(p.Caps)) {
			return false
		}
	}
	return true
}

func regsTaken(k place) []int {
	switch y := k.(type) {
	case addPlace:
		return []int{y.a, y.b}
	case subPlace:
		return []int{y.a, y.b}
	case lessPlace:
		return []int{y.a, y.b}
	case sendPlace:
		return []int{y.a}
	case trySendPlace:
		return []int{y.a}
	case printPlace:
		return []int{y.a}
	case zeroPlace:
		return []int{y.a}
	}
	return nil
}

func Reads(x Ins) []int { return regsTaken(placeOf(x)) }

func regsSet(k place) []int {
	switch y := k.(type) {
	case setPlace:
		return []int{y.r}
	case addPlace:
		return []int{y.r}
	case subPlace:
		return []int{y.r}
	case lessPlace:
		return []int{y.r}
	case takePlace:
		return []int{y.r, y.b}
	case trySendPlace:
		return []int{y.r}
	case tryTakePlace:
		return []int{y.r, y.b}
	}
	return nil
}

func Sets(x Ins) []int { return regsSet(placeOf(x)) }
