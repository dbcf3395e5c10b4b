package inst

import (
	"math"
	"strconv"
	"strings"
	"testing"
)

// row is one of the document's table; - is 0.
type row struct {
	op       int
	name     string
	constant int
	shape    byte
	code     int64
	f, other int64
}

// rows is the document's table.
func rows() []row {
	return []row{
		{1, "lui", Lui, 'U', 0x37, 0, 0},
		{2, "auipc", Auipc, 'U', 0x17, 0, 0},
		{3, "jal", Jal, 'J', 0x6f, 0, 0},
		{4, "jalr", Jalr, 'I', 0x67, 0, 0},
		{5, "beq", Beq, 'B', 0x63, 0, 0},
		{6, "bne", Bne, 'B', 0x63, 0x1, 0},
		{7, "blt", Blt, 'B', 0x63, 0x4, 0},
		{8, "bge", Bge, 'B', 0x63, 0x5, 0},
		{9, "bltu", Bltu, 'B', 0x63, 0x6, 0},
		{10, "bgeu", Bgeu, 'B', 0x63, 0x7, 0},
		{11, "lb", Lb, 'I', 0x3, 0, 0},
		{12, "lh", Lh, 'I', 0x3, 0x1, 0},
		{13, "lw", Lw, 'I', 0x3, 0x2, 0},
		{14, "ld", Ld, 'I', 0x3, 0x3, 0},
		{15, "lbu", Lbu, 'I', 0x3, 0x4, 0},
		{16, "lhu", Lhu, 'I', 0x3, 0x5, 0},
		{17, "lwu", Lwu, 'I', 0x3, 0x6, 0},
		{18, "sb", Sb, 'S', 0x23, 0, 0},
		{19, "sh", Sh, 'S', 0x23, 0x1, 0},
		{20, "sw", Sw, 'S', 0x23, 0x2, 0},
		{21, "sd", Sd, 'S', 0x23, 0x3, 0},
		{22, "addi", Addi, 'I', 0x13, 0, 0},
		{23, "slti", Slti, 'I', 0x13, 0x2, 0},
		{24, "sltiu", Sltiu, 'I', 0x13, 0x3, 0},
		{25, "xori", Xori, 'I', 0x13, 0x4, 0},
		{26, "ori", Ori, 'I', 0x13, 0x6, 0},
		{27, "andi", Andi, 'I', 0x13, 0x7, 0},
		{28, "slli", Slli, 'H', 0x13, 0x1, 0},
		{29, "srli", Srli, 'H', 0x13, 0x5, 0},
		{30, "srai", Srai, 'H', 0x13, 0x5, 0x10},
		{31, "add", Add, 'R', 0x33, 0, 0},
		{32, "sub", Sub, 'R', 0x33, 0, 0x20},
		{33, "sll", Sll, 'R', 0x33, 0x1, 0},
		{34, "slt", Slt, 'R', 0x33, 0x2, 0},
		{35, "sltu", Sltu, 'R', 0x33, 0x3, 0},
		{36, "xor", Xor, 'R', 0x33, 0x4, 0},
		{37, "srl", Srl, 'R', 0x33, 0x5, 0},
		{38, "sra", Sra, 'R', 0x33, 0x5, 0x20},
		{39, "or", Or, 'R', 0x33, 0x6, 0},
		{40, "and", And, 'R', 0x33, 0x7, 0},
		{41, "ecall", Ecall, 'N', 0x73, 0, 0},
		{42, "ebreak", Ebreak, 'N', 0x73, 0, 0x1},
		{43, "clc", Clc, 'I', 0xf, 0x2, 0},
		{44, "csc", Csc, 'S', 0x23, 0x4, 0},
		{45, "csetbounds", Csetbounds, 'R', 0x5b, 0, 0x8},
		{46, "csetboundsexact", Csetboundsexact, 'R', 0x5b, 0, 0x9},
		{47, "cseal", Cseal, 'R', 0x5b, 0, 0xb},
		{48, "cunseal", Cunseal, 'R', 0x5b, 0, 0xc},
		{49, "candperm", Candperm, 'R', 0x5b, 0, 0xd},
		{50, "csetaddr", Csetaddr, 'R', 0x5b, 0, 0x10},
		{51, "cincoffset", Cincoffset, 'R', 0x5b, 0, 0x11},
		{52, "csub", Csub, 'R', 0x5b, 0, 0x14},
		{53, "cbuildcap", Cbuildcap, 'R', 0x5b, 0, 0x1d},
		{54, "ctestsubset", Ctestsubset, 'R', 0x5b, 0, 0x20},
		{55, "csetequal", Csetequal, 'R', 0x5b, 0, 0x21},
		{56, "cgetperm", Cgetperm, 'G', 0x5b, 0, 0},
		{57, "cgettype", Cgettype, 'G', 0x5b, 0, 0x1},
		{58, "cgetbase", Cgetbase, 'G', 0x5b, 0, 0x2},
		{59, "cgetlen", Cgetlen, 'G', 0x5b, 0, 0x3},
		{60, "cgettag", Cgettag, 'G', 0x5b, 0, 0x4},
		{61, "cgetoffset", Cgetoffset, 'G', 0x5b, 0, 0x6},
		{62, "crrl", Crrl, 'G', 0x5b, 0, 0x8},
		{63, "cram", Cram, 'G', 0x5b, 0, 0x9},
		{64, "cmove", Cmove, 'G', 0x5b, 0, 0xa},
		{65, "ccleartag", Ccleartag, 'G', 0x5b, 0, 0xb},
		{66, "cgetaddr", Cgetaddr, 'G', 0x5b, 0, 0xf},
		{67, "csealentry", Csealentry, 'G', 0x5b, 0, 0x11},
		{68, "cincoffsetimm", Cincoffsetimm, 'I', 0x5b, 0x1, 0},
		{69, "csetboundsimm", Csetboundsimm, 'C', 0x5b, 0x2, 0},
	}
}

// layout is what the words of a shape consist of, from bit 31 down to bit 0: bits of the code (c), of f, of the last column (o), of Rd (d), Rs1 (a), Rs2 (b) and the Imm (i); or so many zeros (z) or ones (w).
func layout(shape byte) string {
	return map[byte]string{
		'R': "o6-0 b4-0 a4-0 f2-0 d4-0 c6-0",
		'G': "w7 o4-0 a4-0 f2-0 d4-0 c6-0",
		'N': "o11-0 z13 c6-0",
		'I': "i11-0 a4-0 f2-0 d4-0 c6-0",
		'C': "i11-0 a4-0 f2-0 d4-0 c6-0",
		'H': "o5-0 i5-0 a4-0 f2-0 d4-0 c6-0",
		'S': "i11-5 b4-0 a4-0 f2-0 i4-0 c6-0",
		'B': "i12-12 i10-5 b4-0 a4-0 f2-0 i4-1 i11-11 c6-0",
		'U': "i31-12 d4-0 c6-0",
		'J': "i20-20 i10-1 i11-11 i19-12 d4-0 c6-0",
	}[shape]
}

// imms is what the Imm of a shape may be: from least to greatest, in steps.
type imms struct{ least, greatest, step int64 }

func immsOf(shape byte) imms {
	return map[byte]imms{
		'I': {-2048, 2047, 1}, 'C': {0, 4095, 1}, 'H': {0, 63, 1}, 'S': {-2048, 2047, 1},
		'B': {-4096, 4094, 2}, 'U': {-2147483648, 2147479552, 4096}, 'J': {-1048576, 1048574, 2},
	}[shape]
}

// bit is where a bit of a word comes from: the bit that is worth so much of what the letter stands for. In the word, it is worth another power of two.
type bit struct {
	letter byte
	worth  int64
	inWord int64
}

// bitsOf are the bits of a shape's words, from bit 31 down to bit 0.
func bitsOf(t *testing.T, shape byte) []bit {
	t.Helper()
	var l []bit
	for _, piece := range strings.Fields(layout(shape)) {
		high, low, ranged := strings.Cut(piece[1:], "-")
		h, _ := strconv.Atoi(high)
		if !ranged {
			h, low = h-1, "0"
		}
		to, _ := strconv.Atoi(low)
		for k := h; k >= to; k-- {
			l = append(l, bit{piece[0], power(k), power(31 - len(l))})
		}
	}
	if len(l) != 32 {
		t.Fatalf("shape %c: the test knows %d bits", shape, len(l))
	}
	return l
}

// power is 2^e, found without shifts.
func power(e int) int64 {
	p := int64(1)
	for range e {
		p *= 2
	}
	return p
}

// model is the document's table, with what each row's words consist of.
type model struct {
	rows []row
	bits [][]bit
}

func newModel(t *testing.T) model {
	t.Helper()
	m := model{rows: rows()}
	for _, r := range m.rows {
		m.bits = append(m.bits, bitsOf(t, r.shape))
	}
	return m
}

// word is that of an instruction whose operands are right, put together bit by bit.
func (m model) word(i Inst) uint32 {
	r := m.rows[i.Op-1]
	value := map[byte]int64{
		'c': r.code, 'f': r.f, 'o': r.other, 'z': 0, 'w': math.MaxInt64,
		'd': int64(i.Rd), 'a': int64(i.Rs1), 'b': int64(i.Rs2), 'i': i.Imm,
	}
	w := uint32(0)
	for _, b := range m.bits[i.Op-1] {
		// Of a negative Imm, the bits are those of the number that is 2^32 above it.
		v := value[b.letter]
		if v < 0 {
			v += power(32)
		}
		w += uint32(v / b.worth % 2 * b.inWord)
	}
	return w
}

// instruction is the one of a word: that of the only row whose fixed bits the word has.
func (m model) instruction(t *testing.T, w uint32) (Inst, bool) {
	t.Helper()
	var found []Inst
	for n, r := range m.rows {
		var value ['z' + 1]int64
		for _, b := range m.bits[n] {
			value[b.letter] += int64(w) / b.inWord % 2 * b.worth
		}
		ones := int64(0)
		if r.shape == 'G' {
			ones = 127
		}
		if value['c'] != r.code || value['f'] != r.f || value['o'] != r.other || value['z'] != 0 || value['w'] != ones {
			continue
		}
		i := Inst{Op: r.op, Rd: int(value['d']), Rs1: int(value['a']), Rs2: int(value['b']), Imm: value['i']}
		if l := immsOf(r.shape); i.Imm > l.greatest {
			i.Imm += l.least - l.step - l.greatest
		}
		found = append(found, i)
	}
	switch len(found) {
	case 0:
		return Inst{}, false
	case 1:
		return found[0], true
	}
	t.Fatalf("the word %08x is that of %v", w, found)
	return Inst{}, false
}

// has is whether the instructions of a shape have an operand, given by its letter.
func has(shape, letter byte) bool {
	return strings.Contains(layout(shape), string(rune(letter)))
}

// only is i with 0 for the operands that its shape does not have.
func only(i Inst, shape byte) Inst {
	if !has(shape, 'd') {
		i.Rd = 0
	}
	if !has(shape, 'a') {
		i.Rs1 = 0
	}
	if !has(shape, 'b') {
		i.Rs2 = 0
	}
	if !has(shape, 'i') {
		i.Imm = 0
	}
	return i
}

// goodImms are numbers that an Imm of the shape may be: the ends, those next to them, those of one bit, and others.
func goodImms(shape byte) []int64 {
	if !has(shape, 'i') {
		return []int64{0}
	}
	l := immsOf(shape)
	out := []int64{l.least, l.least + l.step, l.greatest - l.step, l.greatest, 0}
	for k := range 32 {
		for _, v := range []int64{power(k), -power(k), power(k) - l.step, l.greatest - power(k), 0x2aaaaaaa % power(k), 0x55555000 % power(k)} {
			if v >= l.least && v <= l.greatest && v%l.step == 0 {
				out = append(out, v)
			}
		}
	}
	return out
}

// badImms are numbers that an Imm of the shape may not be.
func badImms(shape byte) []int64 {
	l := immsOf(shape)
	out := []int64{
		l.least - 1, l.least - l.step, 2 * (l.least - l.step), l.greatest + 1, l.greatest + l.step, 2 * (l.greatest + l.step),
		math.MinInt64, math.MinInt64 + 1, math.MaxInt64, math.MaxInt64 - 4095, power(32), -power(32), power(32) + l.step, power(32) - l.step, power(33), power(52), -power(52),
	}
	if l.step > 1 {
		for _, v := range []int64{1, -1, l.step - 1, l.step + 1, 1 - l.step, l.least + 1, l.greatest - 1, l.step / 2 * 3} {
			if v%l.step != 0 {
				out = append(out, v)
			}
		}
		for k := range 62 {
			if power(k) < l.step {
				out = append(out, power(k), -power(k), l.least+power(k), l.greatest-power(k))
			}
		}
	}
	return out
}

// badRegisters are numbers that no register has; the least significant bits of some are those of one.
func badRegisters() []int {
	return []int{
		-1, -2, -31, -32, -33, 32, 33, 63, 64, 127, 128, 255, 256, 1 << 16, 1 << 31, 1<<31 - 1, -1 << 31, 1 << 32, 1<<32 + 10, -1 << 32,
		math.MinInt, math.MinInt + 1, math.MaxInt, math.MaxInt - 31,
	}
}

// noNumbers are numbers that no instruction has.
func noNumbers() []int {
	return []int{
		0, 70, 71, 72, 100, 127, 128, 138, 139, 255, 256, 257, 300, 1 << 16, 1 << 31, 1<<32 + 1, 1<<32 + 69, 1 << 62,
		-1, -2, -10, -69, -70, -255, -256, -1 << 31, -1<<32 + 1, math.MinInt, math.MinInt + 1, math.MinInt + 22, math.MaxInt, math.MaxInt - 1,
	}
}

// encodes reports an error if Encode of i is not that word.
func encodes(t *testing.T, i Inst, want uint32) {
	t.Helper()
	if w, ok := Encode(i); w != want || !ok {
		t.Errorf("Encode(%s %+v) = %08x, %v, want %08x, true", Name(i.Op), i, w, ok, want)
	}
}

// refuses reports an error if Encode of i is a word.
func refuses(t *testing.T, i Inst) {
	t.Helper()
	if w, ok := Encode(i); w != 0 || ok {
		t.Errorf("Encode(%s %+v) = %08x, %v, want 0, false", Name(i.Op), i, w, ok)
	}
}

// decodes reports an error if Decode of w is not that instruction.
func decodes(t *testing.T, w uint32, want Inst) {
	t.Helper()
	if i, ok := Decode(w); i != want || !ok {
		t.Errorf("Decode(%08x) = %+v, %v, want %+v, true", w, i, ok, want)
	}
}

// isNone reports an error if w is the word of an instruction.
func isNone(t *testing.T, w uint32) {
	t.Helper()
	if i, ok := Decode(w); i != (Inst{}) || ok {
		t.Errorf("Decode(%08x) = %+v, %v, want nothing, false", w, i, ok)
	}
}

// numbers are ones that look as if they were random, from a rule.
type numbers uint64

// next returns the next one, of 32 bits.
func (x *numbers) next() uint32 {
	*x = *x*6364136223846793005 + 1442695040888963407
	return uint32(*x >> 32)
}

// The chapter's example, and that of asm.
func TestExamples(t *testing.T) {
	decodes(t, 0x00b50533, Inst{Op: Add, Rd: 10, Rs1: 10, Rs2: 11})
	decodes(t, 0xfff50513, Inst{Op: Addi, Rd: 10, Rs1: 10, Imm: -1})
	encodes(t, Inst{Op: Addi, Rd: 10, Rs1: 10, Imm: -1}, 0xfff50513)
	encodes(t, Inst{Op: Bne, Rs1: 10, Imm: -4}, 0xfe051ee3)
}

// The constants are the numbers of the document's table, which are those from 1 to Last.
func TestConstants(t *testing.T) {
	for n, r := range rows() {
		if r.op != n+1 || r.constant != r.op {
			t.Errorf("%s: the constant is %d, the row %d has the number %d", r.name, r.constant, n+1, r.op)
		}
	}
	if Last != 69 || len(rows()) != 69 {
		t.Errorf("Last is %d, of %d rows", Last, len(rows()))
	}
	if i := (Inst{1, 2, 3, 4, 5}); i != (Inst{Op: 1, Rd: 2, Rs1: 3, Rs2: 4, Imm: 5}) {
		t.Errorf("an instruction is %+v", i)
	}
}

// knownWords are words that other assemblers make, and some that follow from the chapter.
func knownWords() map[uint32]Inst {
	return map[uint32]Inst{
		0x12345537: {Op: Lui, Rd: 10, Imm: 0x12345000},
		0xfffff537: {Op: Lui, Rd: 10, Imm: -4096},
		0x80000f97: {Op: Auipc, Rd: 31, Imm: -2147483648},
		0x7ffff097: {Op: Auipc, Rd: 1, Imm: 2147479552},
		0x0000006f: {Op: Jal},
		0x001000ef: {Op: Jal, Rd: 1, Imm: 2048},
		0xffdff06f: {Op: Jal, Imm: -4},
		0x7fffffef: {Op: Jal, Rd: 31, Imm: 1048574},
		0x800000ef: {Op: Jal, Rd: 1, Imm: -1048576},
		0x000ff0ef: {Op: Jal, Rd: 1, Imm: 0xff000},
		0x00008067: {Op: Jalr, Rs1: 1},
		0x00000063: {Op: Beq},
		0xfe000ee3: {Op: Beq, Imm: -4},
		0x7eb51fe3: {Op: Bne, Rs1: 10, Rs2: 11, Imm: 4094},
		0x80b54063: {Op: Blt, Rs1: 10, Rs2: 11, Imm: -4096},
		0x01f050e3: {Op: Bge, Rs2: 31, Imm: 2048},
		0x000fe463: {Op: Bltu, Rs1: 31, Imm: 8},
		0x02b57063: {Op: Bgeu, Rs1: 10, Rs2: 11, Imm: 32},
		0x00058503: {Op: Lb, Rd: 10, Rs1: 11},
		0x00813083: {Op: Ld, Rd: 1, Rs1: 2, Imm: 8},
		0xfff56583: {Op: Lwu, Rd: 11, Rs1: 10, Imm: -1},
		0x00113423: {Op: Sd, Rs1: 2, Rs2: 1, Imm: 8},
		0xfeb50fa3: {Op: Sb, Rs1: 10, Rs2: 11, Imm: -1},
		0x00000013: {Op: Addi},
		0xff010113: {Op: Addi, Rd: 2, Rs1: 2, Imm: -16},
		0x7ff06513: {Op: Ori, Rd: 10, Imm: 2047},
		0x03f51513: {Op: Slli, Rd: 10, Rs1: 10, Imm: 63},
		0x02055513: {Op: Srli, Rd: 10, Rs1: 10, Imm: 32},
		0x43f55513: {Op: Srai, Rd: 10, Rs1: 10, Imm: 63},
		0x40b50533: {Op: Sub, Rd: 10, Rs1: 10, Rs2: 11},
		0x40b55533: {Op: Sra, Rd: 10, Rs1: 10, Rs2: 11},
		0x00000073: {Op: Ecall},
		0x00100073: {Op: Ebreak},
		0x0005250f: {Op: Clc, Rd: 10, Rs1: 10},
		0x00b54823: {Op: Csc, Rs1: 10, Rs2: 11, Imm: 16},
		0x10b5055b: {Op: Csetbounds, Rd: 10, Rs1: 10, Rs2: 11},
		0x42b5055b: {Op: Csetequal, Rd: 10, Rs1: 10, Rs2: 11},
		0xfe05055b: {Op: Cgetperm, Rd: 10, Rs1: 10},
		0xfea5055b: {Op: Cmove, Rd: 10, Rs1: 10},
		0xff1f8fdb: {Op: Csealentry, Rd: 31, Rs1: 31},
		0xff05155b: {Op: Cincoffsetimm, Rd: 10, Rs1: 10, Imm: -16},
		0xff05255b: {Op: Csetboundsimm, Rd: 10, Rs1: 10, Imm: 4080},
		0xfff0205b: {Op: Csetboundsimm, Imm: 4095},
	}
}

// P13.1, P13.2
func TestKnown(t *testing.T) {
	m := newModel(t)
	for w, i := range knownWords() {
		encodes(t, i, w)
		decodes(t, w, i)
		if got := m.word(i); got != w {
			t.Errorf("the test's word of %+v is %08x, want %08x", i, got, w)
		}
		if got, ok := m.instruction(t, w); got != i || !ok {
			t.Errorf("the test's instruction of %08x is %+v, want %+v", w, got, i)
		}
	}
}

// P13.1, P13.2, P13.4: every instruction, with every register in each of its operands, and with numbers at the ends of what fits.
func TestEachInstruction(t *testing.T) {
	m := newModel(t)
	both := func(i Inst) {
		w := m.word(i)
		encodes(t, i, w)
		decodes(t, w, i)
	}
	for _, r := range m.rows {
		for _, v := range goodImms(r.shape) {
			for _, l := range [][3]int{{0, 0, 0}, {31, 31, 31}, {31, 0, 0}, {0, 31, 0}, {0, 0, 31}, {10, 21, 5}} {
				both(only(Inst{Op: r.op, Rd: l[0], Rs1: l[1], Rs2: l[2], Imm: v}, r.shape))
			}
		}
		some := goodImms(r.shape)[0]
		for n := range 32 {
			for _, l := range [][3]int{{n, 0, 0}, {0, n, 0}, {0, 0, n}, {n, 31 - n, n * 7 % 32}} {
				both(only(Inst{Op: r.op, Rd: l[0], Rs1: l[1], Rs2: l[2], Imm: some}, r.shape))
			}
		}
	}
}

// P13.1, P13.2: all numbers that an Imm of up to thirteen bits may be; of longer ones, some from each part of the range.
func TestEachImm(t *testing.T) {
	m := newModel(t)
	for _, op := range []int{Addi, Sw, Beq, Slli, Srai, Csetboundsimm, Jal, Lui} {
		l := immsOf(m.rows[op-1].shape)
		step := l.step
		if l.greatest > 8192 {
			step = l.step * ((l.greatest-l.least)/l.step/4096 | 1)
		}
		for v := l.least; v <= l.greatest; v += step {
			i := only(Inst{Op: op, Rd: 3, Rs1: 17, Rs2: 30, Imm: v}, m.rows[op-1].shape)
			w := m.word(i)
			encodes(t, i, w)
			decodes(t, w, i)
		}
	}
}

// P13.1: an Imm that does not fit.
func TestBadImms(t *testing.T) {
	for _, r := range rows() {
		if !has(r.shape, 'i') {
			continue
		}
		for _, v := range badImms(r.shape) {
			refuses(t, Inst{Op: r.op, Imm: v})
			refuses(t, Inst{Op: r.op, Rd: 31, Rs1: 31, Rs2: 31, Imm: v})
		}
	}
}

// P13.1: the ends of what fits, and what is next to them, as numbers.
func TestEndsOfImms(t *testing.T) {
	for _, c := range []struct {
		op   int
		good []int64
		bad  []int64
	}{
		{Addi, []int64{-2048, 2047}, []int64{-2049, 2048, 4095}},
		{Jalr, []int64{-2048, 2047}, []int64{-2049, 2048}},
		{Clc, []int64{-2048, 2047}, []int64{-2049, 2048}},
		{Cincoffsetimm, []int64{-2048, 2047}, []int64{-2049, 2048}},
		{Sd, []int64{-2048, 2047}, []int64{-2049, 2048}},
		{Csc, []int64{-2048, 2047}, []int64{-2049, 2048}},
		{Csetboundsimm, []int64{0, 2048, 4095}, []int64{-1, 4096, -2048}},
		{Slli, []int64{0, 32, 63}, []int64{-1, 64}},
		{Srai, []int64{0, 32, 63}, []int64{-1, 64}},
		{Beq, []int64{-4096, -2, 2, 4094}, []int64{-4098, -4097, -4095, -3, -1, 1, 3, 4093, 4095, 4096}},
		{Jal, []int64{-1048576, -2, 2, 1048574}, []int64{-1048578, -1048577, -1048575, -1, 1, 1048573, 1048575, 1048576}},
		{Lui, []int64{-2147483648, -4096, 4096, 2147479552}, []int64{-2147487744, -2147483649, -2147483647, -4095, -2048, -1, 1, 2048, 4095, 4097, 2147479553, 2147483647, 2147483648, 4294963200}},
		{Auipc, []int64{-2147483648, 2147479552}, []int64{-2147487744, 2147483648}},
	} {
		for _, v := range c.good {
			if _, ok := Encode(Inst{Op: c.op, Imm: v}); !ok {
				t.Errorf("%s: %d does not fit", Name(c.op), v)
			}
		}
		for _, v := range c.bad {
			refuses(t, Inst{Op: c.op, Imm: v})
		}
	}
}

// P13.1: an operand that is no register.
func TestBadRegisters(t *testing.T) {
	for _, r := range rows() {
		for _, n := range badRegisters() {
			for _, v := range []int64{0, goodImms(r.shape)[0]} {
				if has(r.shape, 'd') {
					refuses(t, Inst{Op: r.op, Rd: n, Rs1: 1, Rs2: 2, Imm: v})
				}
				if has(r.shape, 'a') {
					refuses(t, Inst{Op: r.op, Rd: 1, Rs1: n, Rs2: 2, Imm: v})
				}
				if has(r.shape, 'b') {
					refuses(t, Inst{Op: r.op, Rd: 1, Rs1: 2, Rs2: n, Imm: v})
				}
				if r.shape != 'N' {
					refuses(t, Inst{Op: r.op, Rd: n, Rs1: n, Rs2: n, Imm: v})
				}
			}
		}
	}
}

// P13.1: operands that the shape does not have may be anything.
func TestIgnored(t *testing.T) {
	m := newModel(t)
	registers := append(badRegisters(), 0, 1, 31)
	imms := []int64{0, 1, -1, 5, 4096, 1 << 32, math.MinInt64, math.MaxInt64}
	for _, r := range m.rows {
		for k, n := range registers {
			i := Inst{Op: r.op, Rd: 9, Rs1: 18, Rs2: 27, Imm: goodImms(r.shape)[0]}
			w := m.word(only(i, r.shape))
			if !has(r.shape, 'd') {
				i.Rd = n
			}
			if !has(r.shape, 'a') {
				i.Rs1 = n
			}
			if !has(r.shape, 'b') {
				i.Rs2 = n
			}
			encodes(t, i, w)
			if !has(r.shape, 'i') {
				i.Imm = imms[k%len(imms)]
			}
			encodes(t, i, w)
		}
	}
}

// P13.1: no instruction has the number.
func TestNoInstruction(t *testing.T) {
	for _, op := range noNumbers() {
		refuses(t, Inst{Op: op})
		refuses(t, Inst{Op: op, Rd: 1, Rs1: 2, Rs2: 3, Imm: 4096})
		refuses(t, Inst{Op: op, Rd: -1, Rs1: 32, Rs2: math.MinInt, Imm: math.MinInt64})
	}
}

// P13.2: words that are no instructions.
func TestDecodeNone(t *testing.T) {
	for _, w := range []uint32{
		0, 0xffffffff, 1, 2, 0x7f, 0x33333333 | 0x7c, 0x80000000,
		0x12345536,             // lui, but for bit 0
		0x00002067, 0x00007067, // jalr with another f
		0x00002063, 0x00003063, // a branch with another f
		0x00007003,                                     // a load
		0x00005023, 0x00006023, 0x00007023, 0x00b57823, // a store
		0x04051513, 0x40051513, 0x80051513, // slli with a number in its upper six bits
		0x04055513, 0x44055513, 0x80055513, 0xc0055513, // srli and srai with another one
		0x02b50533, 0x40b51533, 0x40b57533, 0x80b50533, 0xfeb50533, 0x60b50533, // add and others with another g
		0x00200073, 0x000000f3, 0x00001073, 0x00008073, 0x00100f73, 0x80000073, 0x00300073, // ecall and ebreak with other bits
		0x0000000f, 0x0000100f, 0x0000300f, // clc
		0x00b5055b, 0x0eb5055b, 0x14b5055b, 0x1cb5055b, 0x44b5055b, 0xfcb5055b, 0x7eb5055b, // an R of the code 5b with another g
		0xfe55055b, 0xfe75055b, 0xfec5055b, 0xff05055b, 0xff25055b, 0xfff5055b, // a G with another number
		0xfeb5155a, 0x00b5355b, 0x00b5455b, 0xfeb5755b, // another f
	} {
		isNone(t, w)
	}
}

// P13.2: with one or two bits of what is fixed changed, a word is that of another instruction, or of none.
func TestDecodeOtherFixedBits(t *testing.T) {
	m := newModel(t)
	others, none := 0, 0
	for n, r := range m.rows {
		i := only(Inst{Op: r.op, Rd: 13, Rs1: 6, Rs2: 25, Imm: goodImms(r.shape)[0]}, r.shape)
		w := m.word(i)
		var fixed []uint32
		for _, b := range m.bits[n] {
			if strings.ContainsRune("cfozw", rune(b.letter)) {
				fixed = append(fixed, uint32(b.inWord))
			}
		}
		for _, a := range fixed {
			for _, b := range append([]uint32{0}, fixed...) {
				changed := w ^ a ^ b
				if changed == w {
					continue
				}
				got, ok := Decode(changed)
				if ok && got.Op == r.op {
					t.Errorf("Decode(%08x) = %+v, as of %08x", changed, got, w)
				}
				if want, is := m.instruction(t, changed); got != want || ok != is {
					t.Errorf("Decode(%08x) = %+v, %v, want %+v, %v", changed, got, ok, want, is)
				}
				if ok {
					others++
				} else {
					none++
				}
			}
		}
	}
	if others < 500 || none < 5000 {
		t.Errorf("%d words of other instructions, %d of none", others, none)
	}
}

// P13.2: in each field that has a part of an instruction's number, every value.
func TestDecodeEachField(t *testing.T) {
	m := newModel(t)
	for _, r := range m.rows {
		w := m.word(only(Inst{Op: r.op, Rd: 1, Rs1: 2, Rs2: 3, Imm: 0}, r.shape))
		for _, place := range []struct {
			at    int
			count int64
		}{{0, 128}, {12, 8}, {20, 32}, {25, 128}, {26, 64}, {20, 4096}} {
			field := uint32(power(place.at)) * uint32(place.count-1)
			for v := range place.count {
				changed := w&^field | uint32(v*power(place.at))
				got, ok := Decode(changed)
				if want, is := m.instruction(t, changed); got != want || ok != is {
					t.Fatalf("Decode(%08x) = %+v, %v, want %+v, %v", changed, got, ok, want, is)
				}
			}
		}
	}
}

// P13.2, P13.4: many words; those that are instructions are their words.
func TestDecodeMany(t *testing.T) {
	m := newModel(t)
	x := numbers(1)
	counts := map[byte]int{}
	for n := range 60000 {
		w := x.next()
		if n%4 != 0 { // most words have a code of the table
			w = w&^127 | uint32(m.rows[x.next()%69].code)
		}
		if n%4 == 3 { // and some the upper bits of one
			w = w&(1<<25-1) | m.word(Inst{Op: int(x.next()%69) + 1})&^(1<<25-1)
		}
		got, ok := Decode(w)
		if want, is := m.instruction(t, w); got != want || ok != is {
			t.Fatalf("Decode(%08x) = %+v, %v, want %+v, %v", w, got, ok, want, is)
		}
		if ok {
			encodes(t, got, w)
			counts[Shape(got.Op)]++
		}
	}
	for _, shape := range "RGICHSBUJ" {
		if counts[byte(shape)] < 30 {
			t.Errorf("shape %c: only %d words", shape, counts[byte(shape)])
		}
	}
}

// P13.4: Encode of Decode, for words of all codes, f and g, with each number in Rs2, and with others.
func TestEncodeInvertsDecode(t *testing.T) {
	count := 0
	again := func(w uint32) {
		i, ok := Decode(w)
		if !ok {
			if i != (Inst{}) {
				t.Fatalf("Decode(%08x) = %+v, false", w, i)
			}
			return
		}
		count++
		if back, ok := Encode(i); back != w || !ok {
			t.Fatalf("Decode(%08x) = %+v, whose word is %08x, %v", w, i, back, ok)
		}
		if i.Op < 1 || i.Op > Last || i != only(i, Shape(i.Op)) {
			t.Fatalf("Decode(%08x) = %+v, of the shape %c", w, i, Shape(i.Op))
		}
	}
	for code := range uint32(128) {
		for f := range uint32(8) {
			for g := range uint32(128) {
				for _, rest := range []uint32{0, 10<<7 | 11<<15 | 12<<20, 31<<7 | 31<<15 | 31<<20} {
					again(code | f<<12 | g<<25 | rest)
				}
			}
		}
	}
	for rs2 := range uint32(32) {
		for g := range uint32(128) {
			for _, code := range []uint32{0x5b, 0x73, 0x13, 0x33} {
				again(code | rs2<<20 | g<<25)
				again(code | 5<<12 | rs2<<20 | g<<25)
			}
		}
	}
	x := numbers(2)
	for range 300000 {
		again(x.next())
		again(x.next()&^127 | 0x5b)
	}
	if count < 50000 {
		t.Errorf("only %d words of instructions", count)
	}
}

// P13.4: Decode of Encode, with 0 for the operands that the shape does not have.
func TestDecodeInvertsEncode(t *testing.T) {
	for _, r := range rows() {
		for _, v := range goodImms(r.shape) {
			for n := range 32 {
				i := Inst{Op: r.op, Rd: n, Rs1: (n + 11) % 32, Rs2: 31 - n, Imm: v}
				if !has(r.shape, 'i') {
					i.Imm = 123456789
				}
				w, ok := Encode(i)
				if !ok {
					t.Fatalf("Encode(%+v) is no word", i)
				}
				decodes(t, w, only(i, r.shape))
			}
		}
	}
}

// P13.4: no two instructions have the same word: of each two, one has a fixed bit 1 that is a fixed 0 of the other one.
func TestNoTwoWords(t *testing.T) {
	ones, zeros := map[int]uint32{}, map[int]uint32{}
	for _, r := range rows() {
		// A bit is fixed if it is the same in all words: those of one bit of an operand show each of the others.
		all, any := uint32(math.MaxUint32), uint32(0)
		for _, v := range goodImms(r.shape) {
			for k := range 5 {
				for _, n := range []int{0, int(power(k)), 31 - int(power(k))} {
					w, ok := Encode(only(Inst{Op: r.op, Rd: n, Rs1: n, Rs2: n, Imm: v}, r.shape))
					if !ok {
						t.Fatalf("%s has no word with the number %d", r.name, v)
					}
					all, any = all&w, any|w
				}
			}
		}
		ones[r.op], zeros[r.op] = all, ^any
	}
	for a := 1; a <= Last; a++ {
		for b := 1; b < a; b++ {
			if ones[a]&zeros[b]|ones[b]&zeros[a] == 0 {
				t.Errorf("%s and %s may have the same word", Name(a), Name(b))
			}
		}
	}
}

// P13.3
func TestNames(t *testing.T) {
	for _, r := range rows() {
		if got := Name(r.op); got != r.name {
			t.Errorf("Name(%d) = %q, want %q", r.op, got, r.name)
		}
		if got := Find(r.name); got != r.op {
			t.Errorf("Find(%q) = %d, want %d", r.name, got, r.op)
		}
		if got := Shape(r.op); got != r.shape {
			t.Errorf("Shape(%d) = %c, want %c", r.op, got, r.shape)
		}
	}
}

// P13.3: numbers that are not in the table.
func TestNoNames(t *testing.T) {
	for _, op := range noNumbers() {
		if got := Name(op); got != "" {
			t.Errorf("Name(%d) = %q", op, got)
		}
		if got := Shape(op); got != 0 {
			t.Errorf("Shape(%d) = %c", op, got)
		}
	}
}

// P13.3: texts that are no names.
func TestFindNone(t *testing.T) {
	isName := map[string]bool{}
	for _, r := range rows() {
		isName[r.name] = true
	}
	none := func(s string) {
		if got := Find(s); !isName[s] && got != 0 {
			t.Errorf("Find(%q) = %d, want 0", s, got)
		}
	}
	for _, s := range []string{
		"", " ", "\x00", "-", "Lui", "LUI", "R", "x", "c", "nop", "ret", "li", "j", "mv", "addw", "subi", "cgetaddress", "csetboundsexac", "c10",
		"lui auipc", "lui,auipc", "ádd", "add\xff", strings.Repeat("add", 5000), strings.Repeat("a", 1<<16),
	} {
		none(s)
	}
	for _, r := range rows() {
		upper := strings.ToUpper(r.name)
		for _, s := range []string{
			upper, upper[:1] + r.name[1:], r.name[:len(r.name)-1] + upper[len(r.name)-1:],
			" " + r.name, r.name + " ", "\t" + r.name, r.name + "\n", r.name + "\x00", r.name + "x", r.name + r.name, r.name + ",",
			r.name + " c1", r.name[1:], r.name[:len(r.name)-1], r.name[:len(r.name)/2],
		} {
			none(s)
		}
	}
	if got := Find("ad"); got != 0 {
		t.Errorf("Find(ad) = %d", got)
	}
}
