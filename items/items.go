// Package items writes symbolic code (package code) item by item, for the layers that make code.
package items

import "postbag/api"

// The registers that routines have in common.
const (
	Zero    = 0  // has 0 always
	From    = 1  // where a routine was called from
	Globals = 9  // the globals' address
	First   = 10 // what a routine is given first, and what it tells
	Second  = 11 // what it is given behind that
)

// The registers that an actor's code has besides, while it runs.
const (
	Record = 8  // its record's address
	Hart   = 18 // the number of the hart on which it runs
	Most   = 19 // how many actors there may be
	Actor  = 20 // its number
	Left   = 21 // how often it may become until another one runs
	Rounds = 22 // how often the hart went round
)

// word is how many bytes a word of an image has.
const word = 8

// all is what a fence has in Imm that stands between all reads and writes.
const all = 3<<4 | 3

// Spare tells the registers that a routine may change and in which it is given nothing: 5 to 7, and 28 to 31.
func Spare() [7]int {
	var l [7]int
	for k := range 3 {
		l[k] = 5 + k
	}
	for k := range 4 {
		l[3+k] = 28 + k
	}
	return l
}

// Own tells what makes the labels of a routine: they begin with its name, so that no two routines have the same.
func Own(name string) func(string) string {
	return func(part string) string { return name + "." + part }
}

// Offset tells how many bytes behind a beginning its n-th word stands.
func Offset(n int) int { return word * n }

// A Writer lays items one behind the other.
type Writer struct {
	list []api.Item
}

// Begin tells a writer of the routine of this name.
func Begin(name string) *Writer {
	w := new(Writer)
	w.Label(name)
	return w
}

// Items are those that were laid.
func (w *Writer) Items() []api.Item { return w.list }

// Inst lays an instruction.
func (w *Writer) Inst(i api.Inst) {
	w.list = append(w.list, api.Item{Kind: api.ItemInst, Inst: i})
}

// Label lets a name stand at what is laid next.
func (w *Writer) Label(name string) {
	w.list = append(w.list, api.Item{Kind: api.ItemLabel, Name: name})
}

// Branch lays a branch of two registers to a label.
func (w *Writer) Branch(op, a, b int, name string) {
	w.list = append(w.list, api.Item{Kind: api.ItemBranch, Inst: api.Inst{Op: op, Rs1: a, Rs2: b}, Name: name})
}

// Jump lays a jump to a label; rd gets where what follows it stands.
func (w *Writer) Jump(rd int, name string) {
	w.list = append(w.list, api.Item{Kind: api.ItemJump, Inst: api.Inst{Rd: rd}, Name: name})
}

// Const lays what gives a register a number.
func (w *Writer) Const(rd int, v uint64) {
	w.list = append(w.list, api.Item{Kind: api.ItemConst, Inst: api.Inst{Rd: rd}, Value: v})
}

// Addr lays what gives a register where a label stands.
func (w *Writer) Addr(rd int, name string) {
	w.list = append(w.list, api.Item{Kind: api.ItemAddr, Inst: api.Inst{Rd: rd}, Name: name})
}

// Number lays an operation of a register and a number.
func (w *Writer) Number(op, rd, a, n int) {
	w.Inst(api.Inst{Op: op, Rd: rd, Rs1: a, Imm: n})
}

// Both lays an operation of two registers.
func (w *Writer) Both(op, rd, a, b int) {
	w.Inst(api.Inst{Op: op, Rd: rd, Rs1: a, Rs2: b})
}

// Copy lays what gives a register what another one has.
func (w *Writer) Copy(rd, a int) {
	w.Number(api.OpAddi, rd, a, 0)
}

// Load lays a load of the n-th word behind an address.
func (w *Writer) Load(rd, at, n int) {
	w.Inst(api.Inst{Op: api.OpLd, Rd: rd, Rs1: at, Imm: Offset(n)})
}

// Store lays a store of a register to the n-th word behind an address.
func (w *Writer) Store(a, at, n int) {
	w.Inst(api.Inst{Op: api.OpSd, Rs1: at, Rs2: a, Imm: Offset(n)})
}

// Fence lays a fence of all reads and writes.
func (w *Writer) Fence() {
	w.Inst(api.Inst{Op: api.OpFence, Imm: all})
}

// Back lays what goes back to where the routine was called from.
func (w *Writer) Back() {
	w.Inst(api.Inst{Op: api.OpJalr, Rs1: From})
}
