package exec

import (
	"math"
	"slices"
	"testing"

	"mintmark/algebra"
	"mintmark/alu"
	"mintmark/api"
	"mintmark/bounds"
	"mintmark/capab"
	"mintmark/inst"
	"mintmark/perm"
	"mintmark/regs"
)

// The codes of algebra, as the document numbers them.
const (
	noTag     = 1
	sealed    = 2
	noPerm    = 3
	outOfSpan = 4
)

const all = 1 << 48 // how many addresses there are

// textBase and textTop are the ends of the span of the Pcc of most tests, and pc is where it points to.
const textBase, textTop, pc = 0x4000, 0x5000, 0x4100

// dataBase and dataTop are the ends of the span of what most tests load from and store to.
const dataBase, dataTop = 0x10000, 0x10100

// call is a call of a method of Memory: which one, and what it was passed.
type call struct {
	method string
	va     uint64
	n      int
	v      uint64
	c      capab.Cap
}

// board is a Memory that answers what a test lays in it, and keeps what it was asked.
type board struct {
	word   uint32
	value  uint64
	cap    capab.Cap
	codes  map[string]int  // of the methods that tell that something is wrong
	panics map[string]bool // the methods that do not return
	calls  []call
}

// asked keeps a call, and returns its code.
func (b *board) asked(c call) int {
	b.calls = append(b.calls, c)
	if b.panics[c.method] {
		panic("no answer")
	}
	return b.codes[c.method]
}

func (b *board) Fetch(va uint64) (uint32, int) {
	return b.word, b.asked(call{method: "Fetch", va: va})
}

func (b *board) Load(va uint64, n int) (uint64, int) {
	return b.value, b.asked(call{method: "Load", va: va, n: n})
}

func (b *board) Store(va uint64, n int, v uint64) int {
	return b.asked(call{method: "Store", va: va, n: n, v: v})
}

func (b *board) LoadCap(va uint64) (capab.Cap, int) {
	return b.cap, b.asked(call{method: "LoadCap", va: va})
}

func (b *board) StoreCap(va uint64, c capab.Cap) int {
	return b.asked(call{method: "StoreCap", va: va, c: c})
}

// fetch is the call by which an instruction is fetched.
func fetch(va uint64) call { return call{method: "Fetch", va: va} }

// made is a capability with a tag.
func made(base, top, perms, kind, addr uint64) capab.Cap {
	c, ok := capab.Make(capab.View{Span: api.Span{Base: base, Top: top}, Perms: perms, Type: kind}, addr)
	if !ok {
		panic("the test has no such capability")
	}
	return tagged(c)
}

// text is the capability of instructions at addr; data is one for all that can be done with memory.
func text(addr uint64) capab.Cap {
	return made(textBase, textTop, perm.Load|perm.Execute, capab.Unsealed, addr)
}
func data(addr uint64) capab.Cap {
	return made(dataBase, dataTop, perm.Load|perm.Store|perm.LoadCap|perm.StoreCap, capab.Unsealed, addr)
}

// less is data with these permissions alone.
func less(addr, perms uint64) capab.Cap {
	return made(dataBase, dataTop, perms, capab.Unsealed, addr)
}

// key is for sealing and unsealing with that type.
func key(kind uint64) capab.Cap {
	return made(16, 4096, perm.Seal|perm.Unseal, capab.Unsealed, kind)
}

// tagged is c with a tag, and untagged is c without one.
func tagged(c capab.Cap) capab.Cap   { return capab.Cap{Tag: true, Meta: c.Meta, Addr: c.Addr} }
func untagged(c capab.Cap) capab.Cap { return capab.Cap{Tag: false, Meta: c.Meta, Addr: c.Addr} }

// wrong is c with a bit in its Meta that none of its parts has.
func wrong(c capab.Cap) capab.Cap { return capab.Cap{Tag: c.Tag, Meta: c.Meta | 1<<63, Addr: c.Addr} }

// retyped is c with another type, its Meta computed, and at is c with another Addr, whatever its span is then.
func retyped(c capab.Cap, kind uint64) capab.Cap {
	return capab.Cap{Tag: c.Tag, Meta: c.Meta&^(0xfff<<48) | kind<<48, Addr: c.Addr}
}
func at(c capab.Cap, addr uint64) capab.Cap {
	return capab.Cap{Tag: c.Tag, Meta: c.Meta, Addr: addr}
}

// laid is a context with another capability in each register, also in register 0, which is not read; the Pcc is text at pc.
func laid() regs.Context {
	c := regs.Context{Pcc: text(pc)}
	for n := range c.Regs {
		c.Regs[n] = made(0x20000, 0x20000+64+uint64(n), uint64(n), capab.Unsealed, 0x20000+uint64(n))
	}
	return c
}

// with is laid with a in register 6 and b in register 7.
func with(a, b capab.Cap) regs.Context {
	c := laid()
	c.Regs[6], c.Regs[7] = a, b
	return c
}

// of is an instruction with the registers 5, 6 and 7, as far as it has them.
func of(op int, imm int64) inst.Inst {
	i, ok := inst.Decode(word(inst.Inst{Op: op, Rd: 5, Rs1: 6, Rs2: 7, Imm: imm}))
	if !ok {
		panic("the test has no such instruction")
	}
	return i
}

// anyOf is the instruction of that number with some Imm that it may have.
func anyOf(op int) inst.Inst {
	if inst.Shape(op) == 'U' {
		return of(op, 0x7000)
	}
	return of(op, 16)
}

// word is the word of i.
func word(i inst.Inst) uint32 {
	w, ok := inst.Encode(i)
	if !ok {
		panic("the test has no such instruction")
	}
	return w
}

// numbers are by a rule, the same in each run.
type numbers uint64

func (x *numbers) next() uint64 {
	*x = *x*6364136223846793005 + 1442695040888963407
	return uint64(*x >> 32)
}

// pick is one of l.
func pick[T any](x *numbers, l []T) T { return l[x.next()%uint64(len(l))] }

// steps holds a Step against the context and the Outcome that are wanted, and the calls after Fetch.
func steps(t *testing.T, c regs.Context, b *board, i inst.Inst, want regs.Context, o Outcome, calls ...call) {
	t.Helper()
	before := c
	b.word, b.calls = word(i), nil
	o.Inst = i
	got, out := Step(c, b)
	if out != o {
		t.Errorf("%v: the Outcome is %v, not %v", i, out, o)
	}
	if got != want {
		t.Errorf("%v: the context is\n%v, not\n%v", i, got, want)
	}
	if all := append([]call{fetch(c.Pcc.Addr)}, calls...); !slices.Equal(b.calls, all) {
		t.Errorf("%v: it calls %v, not %v", i, b.calls, all)
	}
	if c != before {
		t.Errorf("%v: the context that was passed has changed", i)
	}
}

// traps holds a Step of an instruction that traps against the Outcome that is wanted.
func traps(t *testing.T, c regs.Context, b *board, i inst.Inst, o Outcome, calls ...call) {
	t.Helper()
	steps(t, c, b, i, c, o, calls...)
}

// puts holds a Step of an instruction that retires against the wanted content of register 5; the next Pcc is text, four bytes on.
func puts(t *testing.T, c regs.Context, b *board, i inst.Inst, result capab.Cap, calls ...call) {
	t.Helper()
	want := c
	want.Regs[5] = result
	want.Pcc.Addr += 4
	steps(t, c, b, i, want, Outcome{}, calls...)
}

// goes holds a Step of an instruction that retires and has no result against the wanted Pcc.
func goes(t *testing.T, c regs.Context, b *board, i inst.Inst, pcc capab.Cap, calls ...call) {
	t.Helper()
	want := c
	want.Pcc = pcc
	steps(t, c, b, i, want, Outcome{}, calls...)
}

// num is a number as a capability.
func num(v uint64) capab.Cap { return capab.Cap{Addr: v} }

// neg is -v, as a word of 64 bits.
func neg(v int64) uint64 { return uint64(-v) }

// badPccs are Pccs by which no instruction is fetched, each with what algebra.Check finds first.
func badPccs() []struct {
	pcc  capab.Cap
	code int
} {
	far := at(text(pc), 1<<40) // its span is another one, in which that address is
	type bad = struct {
		pcc  capab.Cap
		code int
	}
	l := []bad{
		{capab.Cap{}, noTag},
		{untagged(text(pc)), noTag},
		{wrong(text(pc)), noTag},
		{untagged(far), noTag},
		{at(text(pc), all), noTag},
		{at(text(pc), math.MaxUint64), noTag},
		{untagged(data(dataBase)), noTag},
		{untagged(retyped(text(pc), capab.Sentry)), noTag},
		{retyped(text(pc), capab.Sentry), sealed},
		{retyped(text(pc), 2), sealed},
		{retyped(text(pc), capab.First), sealed},
		{retyped(text(pc), capab.Last), sealed},
		{retyped(data(dataBase), capab.First), sealed},
		{data(dataBase), noPerm},
		{made(textBase, textTop, perm.All&^perm.Execute, capab.Unsealed, pc), noPerm},
		{made(textBase, textTop, perm.All&^perm.Execute, capab.Unsealed, textTop), noPerm},
		{text(textTop), outOfSpan},
		{text(textTop - 3), outOfSpan},
		{text(textTop - 2), outOfSpan},
		{text(textTop - 1), outOfSpan},
		{text(textBase - 1), outOfSpan},
		{text(textBase - 4), outOfSpan},
		{made(pc, pc+3, perm.Execute, capab.Unsealed, pc), outOfSpan},
		{made(pc, pc, perm.Execute, capab.Unsealed, pc), outOfSpan},
	}
	// Where both rules are broken, the capability's comes first.
	for k := uint64(1); k < 4; k++ {
		l = append(l, bad{untagged(text(pc + k)), noTag}, bad{retyped(text(pc+k), capab.Sentry), sealed},
			bad{data(dataBase + k), noPerm}, bad{text(textTop + k), outOfSpan})
	}
	return l
}

// P17.1
func TestStepFirstChecksThePcc(t *testing.T) {
	for _, bad := range badPccs() {
		for _, w := range []uint32{word(of(inst.Addi, 1)), word(of(inst.Jal, 8)), 0} {
			c := laid()
			c.Pcc = bad.pcc
			b := &board{word: w, codes: map[string]int{"Fetch": 9}}
			for _, m := range []Memory{b, nil} {
				got, o := Step(c, m)
				if want := (Outcome{Kind: 5, Code: bad.code, Va: bad.pcc.Addr}); o != want {
					t.Errorf("of the Pcc %v, the Outcome is %v, not %v", bad.pcc, o, want)
				}
				if got != c || b.calls != nil {
					t.Errorf("of the Pcc %v, the context is %v, and it calls %v", bad.pcc, got, b.calls)
				}
			}
		}
	}
}

// P17.1
func TestStepThenAsksForAMultipleOfFour(t *testing.T) {
	for _, addr := range []uint64{pc + 1, pc + 2, pc + 3, textBase + 1, textTop - 5, textTop - 6, textTop - 7} {
		for _, w := range []uint32{word(of(inst.Addi, 1)), 0} {
			c := laid()
			c.Pcc = text(addr)
			b := &board{word: w, codes: map[string]int{"Fetch": 9}}
			got, o := Step(c, b)
			if want := (Outcome{Kind: 4, Va: addr}); o != want {
				t.Errorf("at %x, the Outcome is %v, not %v", addr, o, want)
			}
			if got != c || b.calls != nil {
				t.Errorf("at %x, the context is %v, and it calls %v", addr, got, b.calls)
			}
		}
	}
}

// P17.1: of the Pcc, four bytes and perm.Execute are enough.
func TestStepFetchesFourBytes(t *testing.T) {
	for _, pcc := range []capab.Cap{
		text(textBase), text(textTop - 4), text(pc),
		made(pc, pc+4, perm.Execute, capab.Unsealed, pc), made(pc-1, pc+5, perm.All, capab.Unsealed, pc),
		made(0, 4, perm.Execute, capab.Unsealed, 0), made(all-4, all, perm.Execute, capab.Unsealed, all-4),
	} {
		c := laid()
		c.Pcc = pcc
		b := &board{word: word(of(inst.Cgetaddr, 0))}
		got, o := Step(c, b)
		if want := (Outcome{Inst: of(inst.Cgetaddr, 0)}); o != want {
			t.Errorf("of the Pcc %v, the Outcome is %v", pcc, o)
		}
		if got.Regs[5] != num(0x20006) || got.Pcc != algebra.Move(pcc, 4) {
			t.Errorf("of the Pcc %v, the context is %v", pcc, got)
		}
		if !slices.Equal(b.calls, []call{fetch(pcc.Addr)}) {
			t.Errorf("of the Pcc %v, it calls %v", pcc, b.calls)
		}
	}
}

// codes are what a method may tell that is wrong.
var codes = []int{1, 2, 3, 4, 5, 6, 100, -1, math.MaxInt, math.MinInt}

// P17.1: what Fetch tells comes ahead of what the word is.
func TestStepTrapsByWhatFetchTells(t *testing.T) {
	for _, code := range codes {
		for _, w := range []uint32{word(of(inst.Addi, 1)), word(of(inst.Ecall, 0)), 0, 0xffffffff} {
			c := laid()
			b := &board{word: w, codes: map[string]int{"Fetch": code}}
			got, o := Step(c, b)
			if want := (Outcome{Kind: 6, Code: code, Va: pc}); o != want {
				t.Errorf("of the code %d, the Outcome is %v, not %v", code, o, want)
			}
			if got != c || !slices.Equal(b.calls, []call{fetch(pc)}) {
				t.Errorf("of the code %d, the context is %v, and it calls %v", code, got, b.calls)
			}
		}
	}
}

// P17.1
func TestStepTrapsByAWordThatIsNoInstruction(t *testing.T) {
	l := []uint32{0, 0xffffffff, 1, 0x7f, 0x7063 &^ 0x5000, 0x00200073, 0x300f, 0x5023, 0x7003, 0x305b, 0xff00005b, 0x02000033}
	x := numbers(171)
	for range 2000 {
		l = append(l, uint32(x.next()))
	}
	for _, w := range l {
		if _, is := inst.Decode(w); is {
			continue
		}
		c := laid()
		b := &board{word: w}
		got, o := Step(c, b)
		if want := (Outcome{Kind: 1, Va: pc}); o != want {
			t.Errorf("of %08x, the Outcome is %v, not %v", w, o, want)
		}
		if got != c || !slices.Equal(b.calls, []call{fetch(pc)}) {
			t.Errorf("of %08x, the context is %v, and it calls %v", w, got, b.calls)
		}
	}
}

// P17.1: whatever becomes of an instruction that was fetched, it is in the Outcome.
func TestStepTellsTheInstruction(t *testing.T) {
	for op := 1; op <= 69; op++ {
		i := anyOf(op)
		for _, a := range []capab.Cap{data(dataBase), text(pc + 64), {}} {
			_, o := Step(with(a, num(1)), &board{word: word(i)})
			if o.Inst != i {
				t.Errorf("of %v, Inst is %v", i, o.Inst)
			}
			if o.Kind == Retired && o != (Outcome{Inst: i}) {
				t.Errorf("%v retires with the Outcome %v", i, o)
			}
		}
	}
}

// P17.1: the Pcc moves on at each instruction that retires, unless it jumps or branches.
func TestStepMovesThePccOn(t *testing.T) {
	for op := 1; op <= 69; op++ {
		switch op {
		case inst.Jal, inst.Jalr, inst.Ecall, inst.Ebreak, inst.Beq, inst.Bge, inst.Bgeu:
			continue
		}
		for _, addr := range []uint64{pc, textBase, textTop - 4} {
			c := with(data(dataBase), data(dataBase)) // alike, so that no branch of those left is taken
			c.Pcc = text(addr)
			got, o := Step(c, &board{word: word(anyOf(op))})
			if o.Kind != Retired || got.Pcc != text(addr+4) {
				t.Errorf("behind %v at %x, the Outcome is %v and the Pcc %v", anyOf(op), addr, o, got.Pcc)
			}
			got.Regs[5], c.Regs[5] = capab.Cap{}, capab.Cap{}
			if got.Regs != c.Regs {
				t.Errorf("%v changes registers other than Rd", anyOf(op))
			}
		}
	}
}

// P17.2
func TestLui(t *testing.T) {
	for imm, want := range map[int64]uint64{0: 0, 0x1000: 0x1000, 0x7ffff000: 0x7ffff000, -0x1000: neg(0x1000), -0x80000000: 0xffffffff80000000} {
		puts(t, laid(), &board{}, of(inst.Lui, imm), num(want))
	}
}

// P17.2: the result is a capability, from the Pcc of the instruction itself.
func TestAuipc(t *testing.T) {
	c := laid()
	puts(t, c, &board{}, of(inst.Auipc, 0), text(pc))
	puts(t, c, &board{}, of(inst.Auipc, 0x1000), text(pc+0x1000))
	c.Pcc = made(0, all, perm.Execute, capab.Unsealed, 0x80001000)
	puts(t, c, &board{}, of(inst.Auipc, -0x80000000), at(c.Pcc, 0x1000))
	puts(t, c, &board{}, of(inst.Auipc, 0x7ffff000), at(c.Pcc, 0x100000000))
}

// P17.2: so far away, the span is another one, and the tag is lost.
func TestAuipcLosesTheTag(t *testing.T) {
	c := laid()
	puts(t, c, &board{}, of(inst.Auipc, 0x40000000), untagged(at(text(pc), 0x40000000+pc)))
	puts(t, c, &board{}, of(inst.Auipc, -0x80000000), untagged(at(text(pc), pc+neg(0x80000000))))
}

// pairs are two numbers each, and the result of each of add to and for them.
func pairs() []struct{ a, b, add, sub, sll, slt, sltu, xor, srl, sra, or, and uint64 } {
	type row = struct{ a, b, add, sub, sll, slt, sltu, xor, srl, sra, or, and uint64 }
	return []row{
		{12, 10, 22, 2, 12288, 0, 0, 6, 0, 0, 14, 8},
		{10, 12, 22, neg(2), 40960, 1, 1, 6, 0, 0, 14, 8},
		{neg(8), 1, neg(7), neg(9), neg(16), 1, 0, neg(7), 0x7ffffffffffffffc, neg(4), neg(7), 0},
		{1, 65, 66, neg(64), 2, 1, 1, 64, 0, 0, 65, 1},
	}
}

// P17.2: the numbers are those of the registers, whatever else these have; the result has no tag.
func TestAddToAnd(t *testing.T) {
	for _, p := range pairs() {
		for op, want := range map[int]uint64{
			inst.Add: p.add, inst.Sub: p.sub, inst.Sll: p.sll, inst.Slt: p.slt, inst.Sltu: p.sltu,
			inst.Xor: p.xor, inst.Srl: p.srl, inst.Sra: p.sra, inst.Or: p.or, inst.And: p.and,
		} {
			for _, meta := range []capab.Cap{{}, {Tag: true}, data(dataBase), wrong(data(dataBase))} {
				puts(t, with(at(meta, p.a), at(meta, p.b)), &board{}, of(op, 0), num(want))
			}
		}
	}
}

// P17.2: what lies in registers 0 and 7 makes no difference.
func TestAddiToSrai(t *testing.T) {
	for _, p := range pairs() {
		for op, want := range map[int]uint64{
			inst.Addi: p.add, inst.Slti: p.slt, inst.Sltiu: p.sltu, inst.Xori: p.xor, inst.Ori: p.or, inst.Andi: p.and,
			inst.Slli: p.sll, inst.Srli: p.srl, inst.Srai: p.sra,
		} {
			if inst.Shape(op) == 'H' && p.b > 63 {
				continue
			}
			puts(t, with(num(p.a), num(3)), &board{}, of(op, int64(p.b)), num(want))
			puts(t, with(at(data(dataBase), p.a), num(3)), &board{}, of(op, int64(p.b)), num(want))
		}
	}
	puts(t, with(num(7), num(3)), &board{}, of(inst.Addi, -2048), num(neg(2041)))
	puts(t, with(num(math.MaxUint64), num(3)), &board{}, of(inst.Addi, 2047), num(2046))
	puts(t, with(num(0xf0f), num(3)), &board{}, of(inst.Andi, -16), num(0xf00))
	puts(t, with(num(5), num(3)), &board{}, of(inst.Sltiu, -1), num(1))
	puts(t, with(num(5), num(3)), &board{}, of(inst.Slti, -1), num(0))
	puts(t, with(num(1), num(3)), &board{}, of(inst.Slli, 63), num(1<<63))
	puts(t, with(num(1<<63), num(3)), &board{}, of(inst.Srai, 63), num(math.MaxUint64))
	puts(t, with(num(1<<63), num(3)), &board{}, of(inst.Srli, 63), num(1))
}

// P17.2
func TestBranches(t *testing.T) {
	for _, b := range []struct {
		op     int
		a, b   uint64
		branch bool
	}{
		{inst.Beq, 5, 5, true}, {inst.Beq, 5, 6, false},
		{inst.Bne, 5, 5, false}, {inst.Bne, 5, 6, true},
		{inst.Blt, 5, 6, true}, {inst.Blt, 6, 6, false}, {inst.Blt, neg(1), 6, true}, {inst.Blt, 6, neg(1), false},
		{inst.Bge, 5, 6, false}, {inst.Bge, 6, 6, true}, {inst.Bge, neg(1), 6, false}, {inst.Bge, 6, neg(1), true},
		{inst.Bltu, 5, 6, true}, {inst.Bltu, 6, 6, false}, {inst.Bltu, neg(1), 6, false}, {inst.Bltu, 6, neg(1), true},
		{inst.Bgeu, 5, 6, false}, {inst.Bgeu, 6, 6, true}, {inst.Bgeu, neg(1), 6, true}, {inst.Bgeu, 6, neg(1), false},
	} {
		for _, meta := range []capab.Cap{{}, data(dataBase)} {
			c := with(at(meta, b.a), num(b.b))
			for _, imm := range []int64{8, -8, 0, 4, 2, -0x100, 0xffe} {
				to := text(pc + 4)
				if b.branch {
					to = text(pc + uint64(imm))
				}
				goes(t, c, &board{}, of(b.op, imm), to)
			}
		}
	}
}

// P17.2: where a branch goes is checked by the next Step; too far away, the Pcc has no tag.
func TestBranchesGoAnywhere(t *testing.T) {
	small := made(0x100000, 0x100010, perm.Execute, capab.Unsealed, 0x100000)
	c := with(num(1), num(1))
	c.Pcc = small
	goes(t, c, &board{}, of(inst.Beq, 64), at(small, 0x100040))
	goes(t, c, &board{}, of(inst.Beq, -4096), at(small, 0xff000))
	goes(t, c, &board{}, of(inst.Bne, 64), at(small, 0x100004))
	c.Pcc = made(0x400, 0x410, perm.Execute, capab.Unsealed, 0x400)
	goes(t, c, &board{}, of(inst.Beq, -4096), untagged(at(c.Pcc, neg(0xc00))))
}

// P17.2
func TestEcallAndEbreak(t *testing.T) {
	for _, addr := range []uint64{pc, textBase, textTop - 4} {
		c := laid()
		c.Pcc = text(addr)
		traps(t, c, &board{}, of(inst.Ecall, 0), Outcome{Kind: 2, Va: addr})
		traps(t, c, &board{}, of(inst.Ebreak, 0), Outcome{Kind: 3, Va: addr})
	}
}

// entry is a sealed entry, to text at addr.
func entry(addr uint64) capab.Cap { return retyped(text(addr), capab.Sentry) }

// P17.3
func TestJal(t *testing.T) {
	for _, imm := range []int64{0, 4, 8, 2, -4, -0x100, 0xf00, -0x1000, 0x1000} {
		c := laid()
		want := c
		want.Regs[5] = entry(pc + 4)
		want.Pcc = text(pc + uint64(imm))
		steps(t, c, &board{}, of(inst.Jal, imm), want, Outcome{})
		want.Regs[5] = c.Regs[5]
		steps(t, c, &board{}, inst.Inst{Op: inst.Jal, Imm: imm}, want, Outcome{})
	}
	c := laid()
	want := c
	want.Regs[5], want.Pcc = entry(pc+4), untagged(at(text(pc), pc+neg(1<<20)))
	steps(t, c, &board{}, of(inst.Jal, -1<<20), want, Outcome{})
}

// P17.3: a link may lie at the end of the span, or beyond it; where the span is another one it has no tag.
func TestTheLinkIsTheNextPcc(t *testing.T) {
	c := laid()
	c.Pcc = text(textTop - 4)
	want := c
	want.Regs[5], want.Pcc = entry(textTop), text(textTop-12)
	steps(t, c, &board{}, of(inst.Jal, -8), want, Outcome{})

	c.Pcc = made(all-4, all, perm.Execute, capab.Unsealed, all-4)
	want.Regs[5], want.Pcc = untagged(at(c.Pcc, all)), at(c.Pcc, all-12)
	steps(t, c, &board{}, of(inst.Jal, -8), want, Outcome{})
	c.Regs[6] = text(pc)
	want.Regs[6], want.Pcc = text(pc), text(pc+8)
	steps(t, c, &board{}, of(inst.Jalr, 8), want, Outcome{})
}

// P17.3
func TestJalr(t *testing.T) {
	for _, a := range []uint64{textBase + 0x800, textBase + 0x801, textBase, textTop} {
		for _, imm := range []int64{0, 1, 2, 3, 4, -1, -2, -2048, 2047} {
			c := with(text(a), num(99))
			want := c
			want.Regs[5] = entry(pc + 4)
			want.Pcc = text((a + uint64(imm)) / 2 * 2)
			steps(t, c, &board{}, of(inst.Jalr, imm), want, Outcome{})
			want.Regs[5] = c.Regs[5]
			steps(t, c, &board{}, inst.Inst{Op: inst.Jalr, Rs1: 6, Imm: imm}, want, Outcome{})
		}
	}
}

// P17.3: the register is read before the link is put there.
func TestJalrToWhereItLinks(t *testing.T) {
	for _, a := range []capab.Cap{text(pc + 64), entry(pc + 64)} {
		c := with(a, num(99))
		want := c
		want.Regs[6], want.Pcc = entry(pc+4), text(pc+64)
		steps(t, c, &board{}, inst.Inst{Op: inst.Jalr, Rd: 6, Rs1: 6}, want, Outcome{})
	}
}

// P17.3: of an empty span, no byte can be executed; but it can be jumped to.
func TestJalrChecksNoBytes(t *testing.T) {
	empty := made(pc, pc, perm.Execute, capab.Unsealed, pc)
	c := with(empty, num(99))
	want := c
	want.Regs[5], want.Pcc = entry(pc+4), at(empty, pc+8)
	steps(t, c, &board{}, of(inst.Jalr, 8), want, Outcome{})
}

// P17.3
func TestJalrByASealedEntry(t *testing.T) {
	for _, a := range []uint64{pc + 64, pc + 65, textTop} {
		c := with(entry(a), num(99))
		want := c
		want.Regs[5], want.Pcc = entry(pc+4), text(a/2*2)
		steps(t, c, &board{}, of(inst.Jalr, 0), want, Outcome{})
		for _, imm := range []int64{1, 4, -1, -4, 2047, -2048} {
			traps(t, c, &board{}, of(inst.Jalr, imm), Outcome{Kind: 5, Code: sealed, Va: a})
		}
	}
}

// P17.3: that an entry is sealed comes ahead of what else is wrong with it; without a tag it is no entry.
func TestJalrChecksTheEntryFirst(t *testing.T) {
	for _, a := range []struct {
		c          capab.Cap
		zero, some int // the Code with the Imm 0, and with another one
	}{
		{retyped(data(dataBase), capab.Sentry), noPerm, sealed},
		{wrong(entry(pc)), noTag, sealed},
		{at(entry(pc), math.MaxUint64), noTag, sealed},
		{entry(textTop + 1), outOfSpan, sealed},
		{entry(textBase - 1), outOfSpan, sealed},
		{untagged(entry(pc)), noTag, noTag},
	} {
		c := with(a.c, num(99))
		traps(t, c, &board{}, of(inst.Jalr, 0), Outcome{Kind: 5, Code: a.zero, Va: a.c.Addr})
		traps(t, c, &board{}, of(inst.Jalr, 4), Outcome{Kind: 5, Code: a.some, Va: a.c.Addr})
	}
}

// P17.3
func TestJalrByWhatCannotBeExecuted(t *testing.T) {
	for _, a := range []struct {
		c    capab.Cap
		code int
	}{
		{capab.Cap{}, noTag},
		{num(pc), noTag},
		{untagged(text(pc)), noTag},
		{wrong(text(pc)), noTag},
		{at(text(pc), math.MaxUint64-7), noTag},
		{retyped(text(pc), 2), sealed},
		{retyped(text(pc), capab.First), sealed},
		{retyped(text(pc), capab.Last), sealed},
		{retyped(data(dataBase), capab.Last), sealed},
		{data(dataBase), noPerm},
		{made(textBase, textTop, perm.All&^perm.Execute, capab.Unsealed, pc), noPerm},
		{made(textBase, textTop, perm.All&^perm.Execute, capab.Unsealed, textTop+4), noPerm},
		{text(textTop + 1), outOfSpan},
		{text(textTop + 64), outOfSpan},
		{text(textBase - 1), outOfSpan},
	} {
		for _, imm := range []int64{0, 4, 1, -64} {
			traps(t, with(a.c, num(99)), &board{}, of(inst.Jalr, imm), Outcome{Kind: 5, Code: a.code, Va: a.c.Addr})
		}
	}
	traps(t, laid(), &board{}, inst.Inst{Op: inst.Jalr, Rd: 5}, Outcome{Kind: 5, Code: noTag}) // by register 0
}

// P17.3: the sum is taken modulo 2^64; no capability has a span there.
func TestJalrToASumOfTwoToTheSixtyFour(t *testing.T) {
	whole := made(0, all, perm.Execute, capab.Unsealed, 0)
	for _, j := range []struct {
		addr uint64
		imm  int64
		to   uint64
	}{
		{0, -1, neg(2)}, {0, -2, neg(2)}, {2, -4, neg(2)}, {3, -4, neg(2)}, {1, -1, 0}, {all - 1, 1, all}, {all - 1, 0, all - 2}, {all - 16, 2047, all + 2030},
	} {
		c := with(at(whole, j.addr), num(99))
		want := c
		want.Regs[5] = entry(pc + 4)
		want.Pcc = at(whole, j.to)
		want.Pcc.Tag = j.to < all
		steps(t, c, &board{}, of(inst.Jalr, j.imm), want, Outcome{})
	}
}

// access is an instruction that loads or stores: how many bytes, and by which method.
type access struct {
	op, n  int
	method string
}

// accesses are all of them.
func accesses() []access {
	return []access{
		{inst.Lb, 1, "Load"}, {inst.Lh, 2, "Load"}, {inst.Lw, 4, "Load"}, {inst.Ld, 8, "Load"},
		{inst.Lbu, 1, "Load"}, {inst.Lhu, 2, "Load"}, {inst.Lwu, 4, "Load"},
		{inst.Sb, 1, "Store"}, {inst.Sh, 2, "Store"}, {inst.Sw, 4, "Store"}, {inst.Sd, 8, "Store"},
		{inst.Clc, 16, "LoadCap"}, {inst.Csc, 16, "StoreCap"},
	}
}

// called is the call by which the instruction reaches memory at va, where b is stored.
func (x access) called(va uint64, b capab.Cap) call {
	switch x.method {
	case "Load":
		return call{method: "Load", va: va, n: x.n}
	case "Store":
		return call{method: "Store", va: va, n: x.n, v: b.Addr}
	case "LoadCap":
		return call{method: "LoadCap", va: va}
	default:
		return call{method: "StoreCap", va: va, c: b}
	}
}

// needs are the permissions that the access needs, to store b or to load.
func (x access) needs(b capab.Cap) uint64 {
	switch {
	case x.method == "Load" || x.method == "LoadCap":
		return perm.Load
	case x.method == "StoreCap" && b.Tag:
		return perm.Store | perm.StoreCap
	default:
		return perm.Store
	}
}

// P17.4
func TestLoads(t *testing.T) {
	for op, want := range map[int]uint64{
		inst.Lb: neg(0x78), inst.Lh: neg(0x7778), inst.Lw: neg(0x77777778), inst.Ld: 0x8888888888888888,
		inst.Lbu: 0x88, inst.Lhu: 0x8888, inst.Lwu: 0x88888888,
	} {
		n := alu.Width(op)
		for _, imm := range []int64{0, 16, 240, -16, -2048} {
			c := with(data(dataBase+32-uint64(imm)), num(99))
			puts(t, c, &board{value: 0x8888888888888888}, of(op, imm), num(want), call{method: "Load", va: dataBase + 32, n: n})
		}
	}
	for op, want := range map[int]uint64{
		inst.Lb: 0x77, inst.Lh: 0x6677, inst.Lw: 0x44556677, inst.Ld: 0x8000000044556677,
		inst.Lbu: 0x77, inst.Lhu: 0x6677, inst.Lwu: 0x44556677,
	} {
		c := with(data(dataBase), num(99))
		puts(t, c, &board{value: 0x8000000044556677}, of(op, 8), num(want), call{method: "Load", va: dataBase + 8, n: alu.Width(op)})
	}
}

// P17.4: the whole number is passed, with how many bytes of it are stored.
func TestStores(t *testing.T) {
	for _, x := range accesses()[7:11] {
		for _, b := range []capab.Cap{num(0x1122334455667788), num(math.MaxUint64), {}, data(dataBase + 5)} {
			for _, imm := range []int64{0, 16, -16, -2048} {
				c := with(data(dataBase+32-uint64(imm)), b)
				goes(t, c, &board{}, of(x.op, imm), text(pc+4), call{method: "Store", va: dataBase + 32, n: x.n, v: b.Addr})
			}
		}
	}
}

// P17.4
func TestClc(t *testing.T) {
	for _, v := range []capab.Cap{data(dataBase + 5), untagged(data(dataBase)), num(7), {}, entry(pc), wrong(entry(pc)), {Tag: true, Meta: math.MaxUint64, Addr: math.MaxUint64}} {
		for _, perms := range []uint64{perm.All, perm.Load | perm.LoadCap, perm.Load, perm.All &^ perm.LoadCap} {
			c := with(less(dataBase, perms), num(99))
			want := v
			want.Tag = v.Tag && perms&perm.LoadCap != 0
			puts(t, c, &board{cap: v}, of(inst.Clc, 32), want, call{method: "LoadCap", va: dataBase + 32})
		}
	}
}

// P17.4: only a capability with a tag needs the permission.
func TestCsc(t *testing.T) {
	for _, b := range []capab.Cap{data(dataBase + 5), untagged(data(dataBase)), num(7), {}, entry(pc), wrong(entry(pc)), {Tag: true}} {
		for _, perms := range []uint64{perm.All, perm.Store | perm.StoreCap, perm.Store, perm.All &^ perm.StoreCap, perm.StoreCap, perm.All &^ perm.Store} {
			c, i := with(less(dataBase, perms), b), of(inst.Csc, 32)
			if perms&perm.Store == 0 || b.Tag && perms&perm.StoreCap == 0 {
				traps(t, c, &board{}, i, Outcome{Kind: 5, Code: noPerm, Va: dataBase + 32})
				continue
			}
			goes(t, c, &board{}, i, text(pc+4), call{method: "StoreCap", va: dataBase + 32, c: b})
		}
	}
}

// P17.4: register 0 reads as a zero capability, whatever lies there.
func TestAccessesByAndOfRegisterZero(t *testing.T) {
	c := laid()
	c.Regs[0] = data(dataBase)
	c.Regs[6] = less(dataBase, perm.Store)
	for _, x := range accesses() {
		traps(t, c, &board{}, inst.Inst{Op: x.op, Imm: 16}, Outcome{Kind: 5, Code: noTag, Va: 16})
		if x.method == "Store" || x.method == "StoreCap" {
			goes(t, c, &board{}, inst.Inst{Op: x.op, Rs1: 6}, text(pc+4), x.called(dataBase, capab.Cap{}))
		}
	}
}

// P17.4: what is loaded to register 0 is lost, and to the register of the address it replaces that.
func TestLoadsToOtherRegisters(t *testing.T) {
	for _, x := range accesses() {
		if x.method == "Store" || x.method == "StoreCap" {
			continue
		}
		c := with(data(dataBase), num(99))
		b := &board{value: 7, cap: num(7)}
		goes(t, c, b, inst.Inst{Op: x.op, Rs1: 6}, text(pc+4), x.called(dataBase, capab.Cap{}))
		want := c
		want.Regs[6], want.Pcc = num(7), text(pc+4)
		steps(t, c, b, inst.Inst{Op: x.op, Rd: 6, Rs1: 6}, want, Outcome{}, x.called(dataBase, capab.Cap{}))
	}
}

// P17.4: exactly the permissions that are needed; nothing else is.
func TestAccessesNeedPermissions(t *testing.T) {
	for _, x := range accesses() {
		for _, b := range []capab.Cap{num(99), entry(pc)} {
			for perms := uint64(0); perms <= perm.All; perms++ {
				c, i := with(less(dataBase, perms), b), of(x.op, 16)
				got, o := Step(c, &board{word: word(i)})
				want := Outcome{Inst: i}
				if perms&x.needs(b) != x.needs(b) {
					want = Outcome{Kind: 5, Code: noPerm, Va: dataBase + 16, Inst: i}
				}
				if o != want || want.Kind != Retired && got != c {
					t.Errorf("%v by the permissions %d of %v: the Outcome is %v, not %v", i, perms, b, o, want)
				}
			}
		}
	}
}

// P17.4
func TestAccessesCheckTheCapability(t *testing.T) {
	for _, x := range accesses() {
		n := uint64(x.n)
		for _, a := range []struct {
			c    capab.Cap
			imm  int64
			code int
		}{
			{untagged(data(dataBase)), 0, noTag},
			{num(dataBase), 16, noTag},
			{wrong(data(dataBase)), 0, noTag},
			{entry(pc), 16, noTag}, // what is sealed can't be moved
			{retyped(data(dataBase), capab.Sentry), 0, noTag},
			{retyped(data(dataBase), capab.First), 0, noTag},
			{at(data(dataBase), all), 0, noTag},
			{data(dataBase), -2048, outOfSpan},
			{less(dataBase, 0), 0, noPerm},
			{less(dataTop, 0), 0, noPerm},
			{data(dataTop), 0, outOfSpan},
			{data(dataTop - n), 1, outOfSpan},
			{data(dataTop - n), int64(n), outOfSpan},
			{data(dataBase), -int64(n), outOfSpan},
			{data(dataBase), -1, outOfSpan},
			{made(dataBase, dataBase+n-1, perm.All, capab.Unsealed, dataBase), 0, outOfSpan},
		} {
			for _, b := range []capab.Cap{num(99), entry(pc)} {
				va := a.c.Addr + uint64(a.imm)
				traps(t, with(a.c, b), &board{}, of(x.op, a.imm), Outcome{Kind: 5, Code: a.code, Va: va})
			}
		}
		// Where p is so far away that its span is another one, it has no tag.
		low := made(0, 16, perm.All, capab.Unsealed, 0)
		traps(t, with(low, num(99)), &board{}, of(x.op, -16), Outcome{Kind: 5, Code: noTag, Va: neg(16)})
	}
}

// P17.4: it is p that must be within the span, not a; and all n bytes are enough.
func TestAccessesAtTheEdges(t *testing.T) {
	for _, x := range accesses() {
		n := uint64(x.n)
		for _, addr := range []uint64{dataBase - 2032, dataBase, dataTop, dataTop + 2032} {
			for _, va := range []uint64{dataBase, dataTop - n} {
				if imm := int64(va - addr); -2048 <= imm && imm < 2048 {
					goes(t, with(data(addr), num(99)), &board{}, inst.Inst{Op: x.op, Rs1: 6, Imm: imm}, text(pc+4), x.called(va, capab.Cap{}))
				}
			}
		}
		exact := made(dataBase, dataBase+n, perm.All, capab.Unsealed, dataBase)
		goes(t, with(exact, num(99)), &board{}, inst.Inst{Op: x.op, Rs1: 6}, text(pc+4), x.called(dataBase, capab.Cap{}))
	}
}

// P17.4: the capability comes ahead of the alignment, and the alignment ahead of Memory.
func TestAccessesAreAligned(t *testing.T) {
	for _, x := range accesses() {
		b := &board{codes: map[string]int{x.method: 3}}
		for k := range uint64(32) {
			for _, imm := range []int64{0, 1, 7, -1} {
				va := dataBase + 32 + k + uint64(imm)
				c, i := with(data(dataBase+32+k), num(99)), of(x.op, imm)
				if va%uint64(x.n) == 0 {
					traps(t, c, b, i, Outcome{Kind: 6, Code: 3, Va: va}, x.called(va, num(99)))
					continue
				}
				traps(t, c, b, i, Outcome{Kind: 4, Va: va})
				c.Regs[6] = less(c.Regs[6].Addr, 0)
				traps(t, c, b, i, Outcome{Kind: 5, Code: noPerm, Va: va})
				c.Regs[6] = untagged(c.Regs[6])
				traps(t, c, b, i, Outcome{Kind: 5, Code: noTag, Va: va})
			}
		}
		if x.n > 1 {
			traps(t, with(data(dataTop-uint64(x.n)+1), num(99)), b, of(x.op, 0), Outcome{Kind: 5, Code: outOfSpan, Va: dataTop - uint64(x.n) + 1})
		}
	}
}

// P17.4: whatever it returns besides a code, nothing is put anywhere.
func TestAccessesTrapByWhatMemoryTells(t *testing.T) {
	for _, x := range accesses() {
		for _, code := range codes {
			for _, v := range []capab.Cap{num(99), entry(pc)} {
				b := &board{value: 77, cap: entry(pc), codes: map[string]int{x.method: code}}
				traps(t, with(data(dataBase), v), b, of(x.op, 16), Outcome{Kind: 6, Code: code, Va: dataBase + 16}, x.called(dataBase+16, v))
			}
		}
	}
}

// P17.5
func TestBounds(t *testing.T) {
	whole := made(0, all, perm.All, capab.Unsealed, 0x10000)
	sixteen := made(0x10000, 0x10010, perm.All, capab.Unsealed, 0x10000)
	puts(t, with(whole, num(16)), &board{}, of(inst.Csetbounds, 0), sixteen)
	puts(t, with(whole, num(16)), &board{}, of(inst.Csetboundsexact, 0), sixteen)
	puts(t, with(whole, num(99)), &board{}, of(inst.Csetboundsimm, 16), sixteen)
	puts(t, with(whole, at(data(dataBase), 16)), &board{}, of(inst.Csetbounds, 0), sixteen)
	puts(t, with(untagged(whole), num(16)), &board{}, of(inst.Csetbounds, 0), untagged(sixteen))
	puts(t, with(untagged(whole), num(16)), &board{}, of(inst.Csetboundsexact, 0), untagged(sixteen))
	puts(t, with(untagged(whole), num(99)), &board{}, of(inst.Csetboundsimm, 16), untagged(sixteen))

	// A length that can't be kept: what is asked to be exact loses its tag.
	more := made(0x10000, 0x10000+10002, perm.All, capab.Unsealed, 0x10000)
	puts(t, with(whole, num(10001)), &board{}, of(inst.Csetbounds, 0), more)
	puts(t, with(whole, num(10001)), &board{}, of(inst.Csetboundsexact, 0), untagged(more))
	puts(t, with(whole, num(10002)), &board{}, of(inst.Csetboundsexact, 0), more)

	// More than there is.
	puts(t, with(sixteen, num(17)), &board{}, of(inst.Csetbounds, 0), untagged(made(0x10000, 0x10011, perm.All, capab.Unsealed, 0x10000)))
	puts(t, with(sixteen, num(math.MaxUint64)), &board{}, of(inst.Csetbounds, 0), untagged(sixteen))
	puts(t, with(sixteen, num(99)), &board{}, of(inst.Csetboundsimm, 4095), untagged(made(0x10000, 0x10fff, perm.All, capab.Unsealed, 0x10000)))

	// From an odd address on, 8193 bytes are kept as more at both ends; what a csetboundsimm may ask for is kept as it is.
	odd := made(0, all, perm.All, capab.Unsealed, 0x10001)
	puts(t, with(odd, num(8193)), &board{}, of(inst.Csetbounds, 0), made(0x10000, 0x12002, perm.All, capab.Unsealed, 0x10001))
	puts(t, with(odd, num(8193)), &board{}, of(inst.Csetboundsexact, 0), untagged(made(0x10000, 0x12002, perm.All, capab.Unsealed, 0x10001)))
	puts(t, with(odd, num(99)), &board{}, of(inst.Csetboundsimm, 4095), made(0x10001, 0x11000, perm.All, capab.Unsealed, 0x10001))
}

// P17.5
func TestSealing(t *testing.T) {
	d := data(dataBase + 4)
	puts(t, with(d, key(16)), &board{}, of(inst.Cseal, 0), retyped(d, 16))
	puts(t, with(d, key(4095)), &board{}, of(inst.Cseal, 0), retyped(d, 4095))
	puts(t, with(untagged(d), key(16)), &board{}, of(inst.Cseal, 0), untagged(d))
	puts(t, with(d, untagged(key(16))), &board{}, of(inst.Cseal, 0), untagged(d))
	puts(t, with(d, key(4096)), &board{}, of(inst.Cseal, 0), untagged(d))
	puts(t, with(key(16), d), &board{}, of(inst.Cseal, 0), untagged(key(16)))

	s := retyped(d, 16)
	puts(t, with(s, key(16)), &board{}, of(inst.Cunseal, 0), d)
	puts(t, with(s, key(17)), &board{}, of(inst.Cunseal, 0), untagged(s))
	puts(t, with(untagged(s), key(16)), &board{}, of(inst.Cunseal, 0), untagged(s))
	puts(t, with(key(16), s), &board{}, of(inst.Cunseal, 0), untagged(key(16)))
	puts(t, with(d, key(16)), &board{}, of(inst.Cunseal, 0), untagged(d))

	puts(t, with(text(pc), num(99)), &board{}, of(inst.Csealentry, 0), entry(pc))
	puts(t, with(untagged(text(pc)), num(99)), &board{}, of(inst.Csealentry, 0), untagged(text(pc)))
	puts(t, with(d, num(99)), &board{}, of(inst.Csealentry, 0), untagged(d))
}

// P17.5
func TestMovingAndPermissions(t *testing.T) {
	d := data(dataBase + 4)
	puts(t, with(d, num(5)), &board{}, of(inst.Candperm, 0), less(dataBase+4, perm.Load))
	puts(t, with(untagged(d), num(5)), &board{}, of(inst.Candperm, 0), untagged(less(dataBase+4, perm.Load)))
	puts(t, with(d, num(math.MaxUint64)), &board{}, of(inst.Candperm, 0), d)
	puts(t, with(retyped(d, 16), num(math.MaxUint64)), &board{}, of(inst.Candperm, 0), untagged(retyped(d, 16)))

	puts(t, with(d, num(dataBase+9)), &board{}, of(inst.Csetaddr, 0), data(dataBase+9))
	puts(t, with(untagged(d), num(dataBase+9)), &board{}, of(inst.Csetaddr, 0), untagged(data(dataBase+9)))
	puts(t, with(d, num(1<<40)), &board{}, of(inst.Csetaddr, 0), untagged(at(d, 1<<40)))
	puts(t, with(num(5), data(dataBase)), &board{}, of(inst.Csetaddr, 0), num(dataBase))

	puts(t, with(d, num(8)), &board{}, of(inst.Cincoffset, 0), data(dataBase+12))
	puts(t, with(d, num(neg(4))), &board{}, of(inst.Cincoffset, 0), data(dataBase))
	puts(t, with(untagged(d), num(8)), &board{}, of(inst.Cincoffset, 0), untagged(data(dataBase+12)))
	puts(t, with(num(5), num(neg(6))), &board{}, of(inst.Cincoffset, 0), num(math.MaxUint64))
	puts(t, with(d, num(99)), &board{}, of(inst.Cincoffsetimm, 8), data(dataBase+12))
	puts(t, with(d, num(99)), &board{}, of(inst.Cincoffsetimm, -4), data(dataBase))
	puts(t, with(untagged(d), num(99)), &board{}, of(inst.Cincoffsetimm, 8), untagged(data(dataBase+12)))
	puts(t, with(retyped(d, 16), num(99)), &board{}, of(inst.Cincoffsetimm, 0), untagged(retyped(d, 16)))
}

// P17.5
func TestMakingAndMovingCopies(t *testing.T) {
	d := data(dataBase + 4)
	r := less(dataBase+8, perm.Load)
	puts(t, with(d, untagged(r)), &board{}, of(inst.Cbuildcap, 0), r)
	puts(t, with(d, r), &board{}, of(inst.Cbuildcap, 0), r)
	puts(t, with(r, untagged(d)), &board{}, of(inst.Cbuildcap, 0), untagged(d)) // of b, from a
	puts(t, with(untagged(d), r), &board{}, of(inst.Cbuildcap, 0), untagged(r))
	puts(t, with(d, untagged(retyped(r, capab.Sentry))), &board{}, of(inst.Cbuildcap, 0), retyped(r, capab.Sentry))
	puts(t, with(d, untagged(retyped(r, 16))), &board{}, of(inst.Cbuildcap, 0), untagged(retyped(r, 16)))

	for _, a := range []capab.Cap{d, untagged(d), retyped(d, 16), wrong(d), num(7), {}, {Tag: true, Meta: math.MaxUint64, Addr: math.MaxUint64}} {
		puts(t, with(a, d), &board{}, of(inst.Cmove, 0), a)
		puts(t, with(a, d), &board{}, of(inst.Ccleartag, 0), untagged(a))
	}
}

// P17.5
func TestComparing(t *testing.T) {
	d := data(dataBase + 4)
	r := less(dataBase+8, perm.Load)
	for _, p := range []struct {
		a, b capab.Cap
		want uint64
	}{
		{d, r, 1}, {r, d, 0}, {d, d, 1},
		{untagged(d), untagged(r), 1}, {untagged(r), untagged(d), 0}, {d, untagged(r), 0}, {untagged(d), r, 0},
		{d, text(pc), 0}, {d, wrong(r), 0}, {wrong(d), r, 0}, {retyped(d, 16), retyped(r, 17), 1},
	} {
		puts(t, with(p.a, p.b), &board{}, of(inst.Ctestsubset, 0), num(p.want))
	}
	for _, p := range []struct {
		a, b capab.Cap
		want uint64
	}{
		{d, d, 1}, {untagged(d), untagged(d), 1}, {d, untagged(d), 0}, {untagged(d), d, 0},
		{d, data(dataBase + 5), 0}, {d, retyped(d, 1), 0}, {d, wrong(d), 0}, {wrong(d), wrong(d), 1},
		{d, less(dataBase+4, perm.Load), 0}, {num(5), num(5), 1}, {num(5), num(6), 0}, {num(0), capab.Cap{}, 1},
	} {
		puts(t, with(p.a, p.b), &board{}, of(inst.Csetequal, 0), num(p.want))
		puts(t, with(p.b, p.a), &board{}, of(inst.Csetequal, 0), num(p.want))
	}
	puts(t, with(data(dataBase+9), num(dataBase)), &board{}, of(inst.Csub, 0), num(9))
	puts(t, with(num(3), data(dataBase)), &board{}, of(inst.Csub, 0), num(neg(dataBase-3)))
	puts(t, with(untagged(data(dataBase+9)), data(dataBase)), &board{}, of(inst.Csub, 0), num(9))
}

// P17.5
func TestReadingTheParts(t *testing.T) {
	d := retyped(less(dataBase+4, perm.Load|perm.System), 17)
	none := at(d, math.MaxUint64) // has no span
	for op, want := range map[int][4]uint64{
		inst.Cgetperm:   {perm.Load | perm.System, perm.Load | perm.System, perm.Load | perm.System, 0},
		inst.Cgettype:   {17, 17, 17, 0},
		inst.Cgetbase:   {dataBase, dataBase, 0, 0},
		inst.Cgetlen:    {dataTop - dataBase, dataTop - dataBase, 0, 0},
		inst.Cgettag:    {1, 0, 1, 0},
		inst.Cgetoffset: {4, 4, math.MaxUint64, 7},
		inst.Cgetaddr:   {dataBase + 4, dataBase + 4, math.MaxUint64, 7},
	} {
		for k, a := range []capab.Cap{d, untagged(d), none, num(7)} {
			puts(t, with(a, num(99)), &board{}, of(op, 0), num(want[k]))
		}
	}
	puts(t, with(data(dataBase-4), num(99)), &board{}, of(inst.Cgetoffset, 0), num(neg(4)))
	puts(t, with(data(dataBase), num(99)), &board{}, of(inst.Cgetperm, 0), num(27))
}

// P17.5: of the register's number, whatever else it has.
func TestLengthAndAlignment(t *testing.T) {
	for _, l := range []struct{ n, length, mask uint64 }{
		{0, 0, math.MaxUint64},
		{1, 1, math.MaxUint64},
		{4095, 4095, math.MaxUint64},
		{8191, 8191, math.MaxUint64},
		{8193, 8194, neg(2)},
		{10001, 10002, neg(2)},
		{1 << 20, 1 << 20, neg(256)},
		{1<<20 + 1, 1<<20 + 256, neg(256)},
		{all, all, neg(1 << 36)},
		{all - 1, all, neg(1 << 36)},
		{all + 1, 0, 0},
		{1 << 63, 0, 0},
		{math.MaxUint64, 0, 0},
	} {
		for _, a := range []capab.Cap{num(l.n), at(data(dataBase), l.n), untagged(at(data(dataBase), l.n))} {
			puts(t, with(a, num(99)), &board{}, of(inst.Crrl, 0), num(l.length))
			puts(t, with(a, num(99)), &board{}, of(inst.Cram, 0), num(l.mask))
		}
	}
}

// P17.6
func TestNext(t *testing.T) {
	for _, pcc := range []struct{ now, next capab.Cap }{
		{text(pc), text(pc + 4)},
		{text(pc + 1), text(pc + 5)},
		{text(textTop - 4), text(textTop)},
		{text(textTop), text(textTop + 4)},
		{untagged(text(pc)), untagged(text(pc + 4))},
		{entry(pc), untagged(entry(pc + 4))}, // what is sealed can't be moved
		{wrong(text(pc)), untagged(wrong(text(pc + 4)))},
		{made(0, all, perm.Execute, capab.Unsealed, all-4), untagged(at(made(0, all, perm.Execute, capab.Unsealed, 0), all))},
		{made(0x100000, 0x100010, perm.Execute, capab.Unsealed, 0x102ffc), untagged(at(made(0x100000, 0x100010, perm.Execute, capab.Unsealed, 0x100000), 0x103000))},
		{capab.Cap{}, num(4)},
		{num(math.MaxUint64), num(3)},
	} {
		c := laid()
		c.Pcc = pcc.now
		want := c
		want.Pcc = pcc.next
		if got := Next(c); got != want {
			t.Errorf("Next of the Pcc %v has the Pcc %v, not %v", pcc.now, got.Pcc, pcc.next)
		}
	}
}

// model is Step by the words of the chapter: the context after it, the Outcome, and the calls. What the layers below return is taken from them.
func model(c regs.Context, b board) (regs.Context, Outcome, []call) {
	if code := algebra.Check(c.Pcc, perm.Fetch, 4); code != 0 {
		return c, Outcome{Kind: 5, Code: code, Va: c.Pcc.Addr}, nil
	}
	if c.Pcc.Addr%4 != 0 {
		return c, Outcome{Kind: 4, Va: c.Pcc.Addr}, nil
	}
	calls := []call{fetch(c.Pcc.Addr)}
	if code := b.codes["Fetch"]; code != 0 {
		return c, Outcome{Kind: 6, Code: code, Va: c.Pcc.Addr}, calls
	}
	i, ok := inst.Decode(b.word)
	if !ok {
		return c, Outcome{Kind: 1, Va: c.Pcc.Addr}, calls
	}
	for _, x := range accesses() {
		if x.op == i.Op {
			return modelOfAccess(c, b, i, x)
		}
	}
	trap := func(kind, code int, va uint64) (regs.Context, Outcome, []call) {
		return c, Outcome{Kind: kind, Code: code, Va: va, Inst: i}, calls
	}
	next := algebra.Move(c.Pcc, 4)
	goOn := func(pcc, result capab.Cap) (regs.Context, Outcome, []call) {
		after := regs.With(c, i.Rd, result)
		after.Pcc = pcc
		return after, Outcome{Inst: i}, calls
	}
	a, b2, imm := regs.Get(c, i.Rs1), regs.Get(c, i.Rs2), uint64(i.Imm)
	switch {
	case i.Op == inst.Ecall:
		return trap(2, 0, c.Pcc.Addr)
	case i.Op == inst.Ebreak:
		return trap(3, 0, c.Pcc.Addr)
	case i.Op == inst.Jal:
		return goOn(algebra.Move(c.Pcc, imm), algebra.Enter(next))
	case i.Op == inst.Jalr:
		if a.Tag && a.Meta>>48&0xfff == 1 && imm != 0 {
			return trap(5, sealed, a.Addr)
		}
		opened := algebra.Open(a)
		if code := algebra.Check(opened, perm.Fetch, 0); code != 0 {
			return trap(5, code, a.Addr)
		}
		return goOn(algebra.Address(opened, (opened.Addr+imm)/2*2), algebra.Enter(next))
	case inst.Beq <= i.Op && i.Op <= inst.Bgeu:
		if taken, _ := alu.Takes(i.Op, a.Addr, b2.Addr); taken {
			return goOn(algebra.Move(c.Pcc, imm), capab.Cap{})
		}
		return goOn(next, capab.Cap{})
	}
	return goOn(next, resultOf(c, i, a, b2))
}

// modelOfAccess is model of an instruction that loads or stores.
func modelOfAccess(c regs.Context, b board, i inst.Inst, x access) (regs.Context, Outcome, []call) {
	calls := []call{fetch(c.Pcc.Addr)}
	p, v := algebra.Move(regs.Get(c, i.Rs1), uint64(i.Imm)), regs.Get(c, i.Rs2)
	kind := map[uint64]int{perm.Load: 1, perm.Store: 2, perm.Store | perm.StoreCap: 4}[x.needs(v)]
	if code := algebra.Check(p, kind, uint64(x.n)); code != 0 {
		return c, Outcome{Kind: 5, Code: code, Va: p.Addr, Inst: i}, calls
	}
	if p.Addr%uint64(x.n) != 0 {
		return c, Outcome{Kind: 4, Va: p.Addr, Inst: i}, calls
	}
	calls = append(calls, x.called(p.Addr, v))
	if code := b.codes[x.method]; code != 0 {
		return c, Outcome{Kind: 6, Code: code, Va: p.Addr, Inst: i}, calls
	}
	after := c
	switch x.method {
	case "Load":
		after = regs.Set(c, i.Rd, alu.Extend(i.Op, b.value))
	case "LoadCap":
		loaded := b.cap
		if p.Meta>>32&perm.LoadCap == 0 {
			loaded.Tag = false
		}
		after = regs.With(c, i.Rd, loaded)
	}
	after.Pcc = algebra.Move(c.Pcc, 4)
	return after, Outcome{Inst: i}, calls
}

// resultOf is the result of an instruction that goes on and reaches no memory.
func resultOf(c regs.Context, i inst.Inst, a, b capab.Cap) capab.Cap {
	imm := uint64(i.Imm)
	view, _ := capab.Look(a)
	truth := map[bool]uint64{true: 1}
	length, _ := bounds.Length(a.Addr)
	zeros, aligned := bounds.Align(a.Addr)
	mask := neg(int64(1) << zeros)
	if !aligned {
		mask = 0
	}
	result, ok := map[int]capab.Cap{
		inst.Lui: num(imm), inst.Auipc: algebra.Move(c.Pcc, imm),
		inst.Csetbounds: algebra.Bound(a, b.Addr, false), inst.Csetboundsexact: algebra.Bound(a, b.Addr, true), inst.Csetboundsimm: algebra.Bound(a, imm, false),
		inst.Cseal: algebra.Seal(a, b), inst.Cunseal: algebra.Unseal(a, b), inst.Candperm: algebra.And(a, b.Addr),
		inst.Csetaddr: algebra.Address(a, b.Addr), inst.Cincoffset: algebra.Move(a, b.Addr), inst.Cincoffsetimm: algebra.Move(a, imm),
		inst.Cbuildcap: algebra.Build(b, a), inst.Cmove: a, inst.Ccleartag: algebra.Clear(a), inst.Csealentry: algebra.Enter(a),
		inst.Csub: num(a.Addr - b.Addr), inst.Ctestsubset: num(truth[algebra.Under(b, a)]), inst.Csetequal: num(truth[a == b]),
		inst.Cgetperm: num(view.Perms), inst.Cgettype: num(view.Type), inst.Cgetbase: num(algebra.Base(a)), inst.Cgetlen: num(algebra.Length(a)),
		inst.Cgettag: num(truth[a.Tag]), inst.Cgetoffset: num(algebra.Offset(a)), inst.Cgetaddr: num(a.Addr),
		inst.Crrl: num(length), inst.Cram: num(mask),
	}[i.Op]
	if ok {
		return result
	}
	second := b.Addr
	if inst.Addi <= i.Op && i.Op <= inst.Srai {
		second = imm
	}
	v, _ := alu.Do(i.Op, a.Addr, second)
	return num(v)
}

// caps are capabilities of many kinds, most of which have much in common with another one.
func caps() []capab.Cap {
	var l []capab.Cap
	for _, s := range []api.Span{{Base: textBase, Top: textTop}, {Base: dataBase, Top: dataTop}, {Base: dataBase, Top: dataBase + 16}, {Base: 16, Top: 4096}, {Base: 0, Top: all}, {Base: pc, Top: pc}} {
		for _, perms := range []uint64{perm.All, perm.Load | perm.Execute, perm.Load | perm.Store, perm.Load | perm.Store | perm.LoadCap | perm.StoreCap, perm.Seal | perm.Unseal, 0} {
			for _, kind := range []uint64{capab.Unsealed, capab.Unsealed, capab.Sentry, capab.First, 17} {
				for _, addr := range []uint64{s.Base, s.Base + 16, s.Top - 1} {
					c, ok := capab.Make(capab.View{Span: s, Perms: perms, Type: kind}, addr)
					if ok {
						l = append(l, tagged(c), tagged(c), tagged(c), c, wrong(tagged(c)), at(tagged(c), math.MaxUint64))
					}
				}
			}
		}
	}
	for _, v := range []uint64{0, 1, 2, 4, 5, 8, 16, 17, 64, 255, 4096, 10001, dataBase, pc, all, all + 1, 1 << 63, neg(1), neg(16)} {
		for range 20 {
			l = append(l, num(v))
		}
	}
	return l
}

// usable are capabilities by which much can be done.
func usable() []capab.Cap {
	l := []capab.Cap{text(pc), text(pc + 65), entry(pc + 64), entry(pc), key(16), key(17), retyped(data(dataBase), 16), retyped(text(pc), 17), made(0, all, perm.All, capab.Unsealed, 17)}
	for _, k := range []uint64{0, 0, 1, 2, 4, 8, 16} {
		l = append(l, data(dataBase+k), made(0, all, perm.All, capab.Unsealed, dataBase+k), less(dataBase+k, perm.Load|perm.Store), untagged(less(dataBase+k, perm.Load)))
	}
	return l
}

// instOf is an instruction by a rule, with operands that are often the same ones, and a small Imm that it may have.
func instOf(x *numbers, op int) inst.Inst {
	reg := func() int { return int(x.next() % 9) }
	imms := []int64{0, 0, 1, 2, 4, 8, 16, 32, 63}
	switch inst.Shape(op) {
	case 'I', 'S':
		imms = append(imms, -1, -4, -16, -2048, 2047)
	case 'C':
		imms = append(imms, 4095)
	case 'B', 'J':
		imms = []int64{0, 2, 4, 8, -4, -8, 4094, -4096}
	case 'U':
		imms = []int64{0, 0x1000, -0x1000, 0x7ffff000, -0x80000000}
	}
	i, _ := inst.Decode(word(inst.Inst{Op: op, Rd: reg(), Rs1: reg(), Rs2: reg(), Imm: pick(x, imms)}))
	return i
}

// testCase is a context, and what memory answers.
type testCase struct {
	c regs.Context
	b board
}

// cases are so many for each instruction, and some that are fetched by what they must not be, or are none.
func cases(each int) []testCase {
	x := numbers(17)
	pools := [][]capab.Cap{caps(), usable()}
	pccs := []capab.Cap{text(pc), text(textTop - 4), made(0, all, perm.All, capab.Unsealed, 0x8000), made(pc, pc+4, perm.Execute, capab.Unsealed, pc)}
	for _, bad := range badPccs() {
		pccs = append(pccs, bad.pcc, text(pc+4), text(textBase))
	}
	var l []testCase
	for op := 0; op <= 69; op++ {
		for range each {
			k := testCase{c: regs.Context{Pcc: pick(&x, pccs)}, b: board{value: x.next()<<40 ^ x.next()<<8, cap: pick(&x, pick(&x, pools))}}
			for n := range k.c.Regs {
				k.c.Regs[n] = pick(&x, pick(&x, pools))
			}
			if op > 0 {
				k.b.word = word(instOf(&x, op))
			}
			if x.next()%4 == 0 {
				k.b.codes = map[string]int{pick(&x, []string{"Fetch", "Load", "Store", "LoadCap", "StoreCap"}): pick(&x, codes)}
			}
			l = append(l, k)
		}
	}
	return l
}

// P17.1 to P17.5
func TestStepDoesWhatTheModelDoes(t *testing.T) {
	kinds := map[int]int{}
	for _, k := range cases(1500) {
		b := k.b
		want, wanted, calls := model(k.c, k.b)
		got, o := Step(k.c, &b)
		if o != wanted {
			t.Fatalf("%08x of\n%v: the Outcome is %v, not %v", b.word, k.c, o, wanted)
		}
		if got != want {
			t.Fatalf("%08x of\n%v: the context is\n%v, not\n%v", b.word, k.c, got, want)
		}
		if !slices.Equal(b.calls, calls) {
			t.Fatalf("%08x of\n%v: it calls %v, not %v", b.word, k.c, b.calls, calls)
		}
		kinds[o.Kind]++
	}
	for kind := range 7 {
		if kinds[kind] < 100 {
			t.Errorf("only %d of the cases are of the Kind %d", kinds[kind], kind)
		}
	}
}

// P17.7
func TestWhatTrapsChangesNothing(t *testing.T) {
	for _, k := range cases(300) {
		got, o := Step(k.c, &k.b)
		if o.Kind != Retired && got != k.c {
			t.Errorf("%08x of\n%v traps with %v, and the context is\n%v", k.b.word, k.c, o, got)
		}
		if o.Kind == Retired || o.Kind == Page {
			continue
		}
		if len(k.b.calls) > 1 || len(k.b.calls) == 1 && k.b.calls[0].method != "Fetch" {
			t.Errorf("%08x of\n%v traps with %v, and calls %v", k.b.word, k.c, o, k.b.calls)
		}
	}
}

// P17.7: a capability with a tag is within one that was there.
func TestNothingIsMadeOfNothing(t *testing.T) {
	made := 0
	for _, k := range cases(600) {
		got, o := Step(k.c, &k.b)
		if o.Kind != Retired {
			continue
		}
		had := []capab.Cap{k.c.Pcc}
		for n := 1; n < 32; n++ {
			had = append(had, k.c.Regs[n])
		}
		if o.Inst.Op == inst.Clc {
			had = append(had, k.b.cap)
		}
		for _, v := range append(got.Regs[1:], got.Pcc) {
			if !v.Tag || slices.Contains(had, v) {
				continue
			}
			made++
			if !slices.ContainsFunc(had, func(u capab.Cap) bool { return comesOf(v, u, o.Inst.Op, had) }) {
				t.Errorf("%v of\n%v makes %v", o.Inst, k.c, v)
			}
		}
	}
	if made < 1000 {
		t.Errorf("only %d capabilities with a tag are made", made)
	}
}

// comesOf reports whether v may be made of u: it is within it, and sealed or opened only as that is allowed.
func comesOf(v, u capab.Cap, op int, had []capab.Cap) bool {
	if !u.Tag || !capab.Within(v, u) {
		return false
	}
	from, to := u.Meta>>48&0xfff, v.Meta>>48&0xfff
	by := func(permission, kind uint64) bool {
		return slices.ContainsFunc(had, func(w capab.Cap) bool {
			v, _ := capab.Look(w)
			return w.Tag && capab.Right(w) && v.Type == capab.Unsealed && v.Perms&permission != 0 && w.Addr == kind && v.Span.Base <= kind && kind < v.Span.Top
		})
	}
	switch {
	case from == to:
		return from == capab.Unsealed // others can't be changed
	case from == capab.Unsealed && to == capab.Sentry:
		return true
	case from == capab.Unsealed:
		return op == inst.Cseal && by(perm.Seal, to)
	case from == capab.Sentry && to == capab.Unsealed:
		return op == inst.Jalr
	default:
		return op == inst.Cunseal && to == capab.Unsealed && by(perm.Unseal, from)
	}
}

// P17.7: of registers without a tag, no instruction makes a capability that has one, but for those of the Pcc.
func TestNoTagComesOfNone(t *testing.T) {
	for _, k := range cases(300) {
		for n := range k.c.Regs {
			k.c.Regs[n].Tag = n == 0 // which is not read
		}
		k.c.Regs[0] = data(dataBase)
		got, o := Step(k.c, &k.b)
		for n := 1; n < 32; n++ {
			v := got.Regs[n]
			if v.Tag && (o.Inst.Op != inst.Auipc && o.Inst.Op != inst.Jal || !capab.Within(v, k.c.Pcc)) {
				t.Errorf("%v of\n%v puts %v into register %d", o.Inst, k.c, v, n)
			}
		}
		if got.Pcc.Tag && !capab.Within(got.Pcc, k.c.Pcc) && got.Pcc != k.c.Pcc {
			t.Errorf("%v of\n%v goes on at %v", o.Inst, k.c, got.Pcc)
		}
		k.c.Pcc.Tag = false
		if got, o := Step(k.c, &k.b); got != k.c || o != (Outcome{Kind: 5, Code: noTag, Va: k.c.Pcc.Addr}) {
			t.Errorf("without any tag, the Outcome is %v, and the context\n%v, not\n%v", o, got, k.c)
		}
	}
}

// Rule 1: the methods of nil return zero values, and a word of zeros is no instruction.
func TestStepOfNoMemory(t *testing.T) {
	got, o := Step(laid(), nil)
	if got != laid() || o != (Outcome{Kind: 1, Va: pc}) {
		t.Errorf("the Outcome is %v, and the context %v", o, got)
	}
}

// Rule 1: a Memory that does not return is a trap too, whose Code nobody told.
func TestStepOfAMemoryThatPanics(t *testing.T) {
	c := with(data(dataBase), num(99))
	b := &board{word: word(of(inst.Addi, 1)), panics: map[string]bool{"Fetch": true}}
	for _, m := range []Memory{b, (*board)(nil)} {
		got, o := Step(c, m)
		if got != c || o != (Outcome{Kind: 6, Va: pc}) {
			t.Errorf("the Outcome is %v, and the context %v", o, got)
		}
	}
	for _, x := range accesses() {
		b := &board{value: 7, cap: num(7), panics: map[string]bool{x.method: true}}
		traps(t, c, b, of(x.op, 16), Outcome{Kind: 6, Va: dataBase + 16}, x.called(dataBase+16, num(99)))
	}
}

// memory is one that keeps what is stored, by the addresses of its granules.
type memory struct {
	words []uint32 // from textBase on
	caps  map[uint64]capab.Cap
	bytes map[uint64]byte
}

func (m *memory) Fetch(va uint64) (uint32, int) { return m.words[(va-textBase)/4], 0 }

func (m *memory) Load(va uint64, n int) (uint64, int) {
	var v uint64
	for k := range uint64(n) {
		v |= uint64(m.bytes[va+k]) << (8 * k)
	}
	return v, 0
}

func (m *memory) Store(va uint64, n int, v uint64) int {
	for k := range uint64(n) {
		m.bytes[va+k] = byte(v >> (8 * k))
	}
	return 0
}

func (m *memory) LoadCap(va uint64) (capab.Cap, int) { return m.caps[va], 0 }

func (m *memory) StoreCap(va uint64, c capab.Cap) int {
	m.caps[va] = c
	return 0
}

// P17.1 to P17.5: a program that adds the numbers from 1 to 10 in a called function, stores the sum and the link, and loads both again.
func TestAProgram(t *testing.T) {
	var words []uint32
	for _, i := range []inst.Inst{
		{Op: inst.Addi, Rd: 10, Imm: 10},
		{Op: inst.Jal, Rd: 1, Imm: 24},
		{Op: inst.Sw, Rs1: 2, Rs2: 11, Imm: 4},
		{Op: inst.Lw, Rd: 12, Rs1: 2, Imm: 4},
		{Op: inst.Csc, Rs1: 2, Rs2: 1, Imm: 16},
		{Op: inst.Clc, Rd: 13, Rs1: 2, Imm: 16},
		{Op: inst.Ecall},
		{Op: inst.Add, Rd: 11, Rs1: 11, Rs2: 10},
		{Op: inst.Addi, Rd: 10, Rs1: 10, Imm: -1},
		{Op: inst.Bne, Rs1: 10, Imm: -8},
		{Op: inst.Jalr, Rs1: 1},
	} {
		words = append(words, word(i))
	}
	m := &memory{words: words, caps: map[uint64]capab.Cap{}, bytes: map[uint64]byte{}}
	c := regs.With(regs.Zero(text(textBase)), 2, data(dataBase))
	var o Outcome
	n := 0
	for ; o.Kind == Retired && n < 100; n++ {
		c, o = Step(c, m)
	}
	want := regs.With(regs.Zero(text(textBase+24)), 2, data(dataBase))
	want = regs.With(regs.Set(regs.Set(want, 11, 55), 12, 55), 1, entry(textBase+8))
	want = regs.With(want, 13, entry(textBase+8))
	if c != want || n != 2+1+30+1+4 || o != (Outcome{Kind: 2, Va: textBase + 24, Inst: inst.Inst{Op: inst.Ecall}}) {
		t.Errorf("after %d steps, the Outcome is %v and the context\n%v, not\n%v", n, o, c, want)
	}
}

// The chapter's example.
func TestExample(t *testing.T) {
	c := regs.Zero(text(pc))
	got, o := Step(c, &board{word: word(inst.Inst{Op: inst.Addi, Rd: 1, Imm: 5})})
	if got != (regs.Context{Regs: [32]capab.Cap{1: {Addr: 5}}, Pcc: text(pc + 4)}) || o != (Outcome{Inst: inst.Inst{Op: inst.Addi, Rd: 1, Imm: 5}}) {
		t.Errorf("addi c1, c0, 5: the Outcome is %v, and the context %v", o, got)
	}
}

// The constants of the document's table.
func TestKindsAreNumbered(t *testing.T) {
	if Retired != 0 || Illegal != 1 || Call != 2 || Break != 3 || Misaligned != 4 || Capability != 5 || Page != 6 {
		t.Error("a Kind has another number")
	}
}
