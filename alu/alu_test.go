package alu

import (
	"math"
	"math/big"
	"slices"
	"testing"

	"mintmark/inst"
)

const highest = 1 << 63 // the bit that is the sign

// names are those of the document's table, at their numbers.
func names() []string {
	return []string{
		"", "lui", "auipc", "jal", "jalr",
		"beq", "bne", "blt", "bge", "bltu", "bgeu",
		"lb", "lh", "lw", "ld", "lbu", "lhu", "lwu",
		"sb", "sh", "sw", "sd",
		"addi", "slti", "sltiu", "xori", "ori", "andi", "slli", "srli", "srai",
		"add", "sub", "sll", "slt", "sltu", "xor", "srl", "sra", "or", "and",
		"ecall", "ebreak", "clc", "csc",
		"csetbounds", "csetboundsexact", "cseal", "cunseal", "candperm", "csetaddr", "cincoffset", "csub", "cbuildcap", "ctestsubset", "csetequal",
		"cgetperm", "cgettype", "cgetbase", "cgetlen", "cgettag", "cgetoffset", "crrl", "cram", "cmove", "ccleartag", "cgetaddr", "csealentry",
		"cincoffsetimm", "csetboundsimm",
	}
}

// nameOf is the name of an instruction; nothing for a number that is none's.
func nameOf(op int) string {
	l := names()
	if op < 0 || op >= len(l) {
		return ""
	}
	return l[op]
}

// noOps are numbers that no instruction has.
func noOps() []int {
	l := []int{0, math.MinInt, math.MinInt + 1, math.MaxInt - 1, math.MaxInt, math.MinInt32, math.MaxInt32}
	for op := 1; op <= inst.Last; op++ {
		l = append(l, -op, inst.Last+op, op+1<<8, op+1<<16, op+1<<32, op-1<<8, op-1<<32, op+math.MinInt, ^op)
	}
	return l
}

// ops are the numbers of all instructions, and some that none has.
func ops() []int {
	l := noOps()
	for op := range names() {
		l = append(l, op)
	}
	return l
}

// edges are the numbers at which something ends or begins.
func edges() []uint64 {
	l := []uint64{
		0, 1, 2, 3, 7, 8, 9, 31, 32, 33, 62, 63, 64, 65, 66, 127, 128, 129, 191, 192, 193,
		0x5555555555555555, 0xaaaaaaaaaaaaaaaa, 0x0123456789abcdef, 0xfedcba9876543210,
	}
	for _, at := range []int{8, 15, 16, 31, 32, 48, 62, 63} {
		l = append(l, 1<<at-1, 1<<at, 1<<at+1)
	}
	for _, below := range []uint64{1, 2, 3, 8, 63, 64, 65} {
		l = append(l, -below)
	}
	return l
}

// pairs are any two of the edges, and others.
func pairs() [][2]uint64 {
	var l [][2]uint64
	for _, a := range edges() {
		for _, b := range edges() {
			l = append(l, [2]uint64{a, b})
		}
	}
	x := numbers(15)
	for range 2000 {
		l = append(l, [2]uint64{x.next(), x.next()}, [2]uint64{x.next(), x.next() % 64})
	}
	return l
}

// numbers are by a rule, the same in each run, and of any width.
type numbers uint64

func (x *numbers) next() uint64 {
	var l [3]uint64
	for k := range l {
		*x = *x*6364136223846793005 + 1442695040888963407
		l[k] = uint64(*x >> 32)
	}
	return (l[0]<<32 | l[1]) >> (l[2] % 64)
}

// exact is a number without a sign, as an integer of any size.
func exact(x uint64) *big.Int { return new(big.Int).SetUint64(x) }

// signed is a number in two's complement, as an integer of any size.
func signed(x uint64) *big.Int {
	if x < highest {
		return exact(x)
	}
	return new(big.Int).Sub(exact(x), new(big.Int).Lsh(big.NewInt(1), 64))
}

// word is an integer modulo 2^64.
func word(x *big.Int) uint64 {
	return new(big.Int).Mod(x, new(big.Int).Lsh(big.NewInt(1), 64)).Uint64()
}

// one is 1 if it holds, and 0 if not.
func one(holds bool) *big.Int {
	if holds {
		return big.NewInt(1)
	}
	return new(big.Int)
}

// doModel is Do by integers of any size.
func doModel(op int, a, b uint64) (uint64, bool) {
	by := uint(b & 63)
	r := new(big.Int)
	switch nameOf(op) {
	case "add", "addi":
		r.Add(exact(a), exact(b))
	case "sub":
		r.Sub(exact(a), exact(b))
	case "and", "andi":
		r.And(exact(a), exact(b))
	case "or", "ori":
		r.Or(exact(a), exact(b))
	case "xor", "xori":
		r.Xor(exact(a), exact(b))
	case "sll", "slli":
		r.Mul(exact(a), new(big.Int).Lsh(big.NewInt(1), by))
	case "srl", "srli":
		r.Div(exact(a), new(big.Int).Lsh(big.NewInt(1), by))
	case "sra", "srai":
		r.Div(signed(a), new(big.Int).Lsh(big.NewInt(1), by)) // Div rounds down for what is divided by a positive number
	case "slt", "slti":
		r = one(signed(a).Cmp(signed(b)) < 0)
	case "sltu", "sltiu":
		r = one(exact(a).Cmp(exact(b)) < 0)
	default:
		return 0, false
	}
	return word(r), true
}

// takesModel is Takes by integers of any size.
func takesModel(op int, a, b uint64) (bool, bool) {
	bySign, without := signed(a).Cmp(signed(b)), exact(a).Cmp(exact(b))
	switch nameOf(op) {
	case "beq":
		return without == 0, true
	case "bne":
		return without != 0, true
	case "blt":
		return bySign < 0, true
	case "bge":
		return bySign >= 0, true
	case "bltu":
		return without < 0, true
	case "bgeu":
		return without >= 0, true
	}
	return false, false
}

// The numbers of inst are those of the names by which the tests go.
func TestNamesAreThoseOfInst(t *testing.T) {
	if len(names()) != inst.Last+1 {
		t.Fatalf("the test has %d names", len(names()))
	}
	for op, name := range names() {
		if inst.Name(op) != name {
			t.Errorf("%d is %q, not %q", op, inst.Name(op), name)
		}
	}
}

// P15.1
func TestDoAsByIntegersOfAnySize(t *testing.T) {
	l := pairs()
	for op := 1; op <= inst.Last; op++ {
		for _, p := range l {
			want, has := doModel(op, p[0], p[1])
			if got, ok := Do(op, p[0], p[1]); got != want || ok != has {
				t.Errorf("Do(%s, %x, %x) = %x, %v; not %x, %v", nameOf(op), p[0], p[1], got, ok, want, has)
			}
		}
	}
}

// does tests Do for each of some instructions.
func does(t *testing.T, a, b, want uint64, ops ...int) {
	t.Helper()
	for _, op := range ops {
		if got, ok := Do(op, a, b); got != want || !ok {
			t.Errorf("Do(%s, %x, %x) = %x, %v; not %x, true", nameOf(op), a, b, got, ok, want)
		}
	}
}

// P15.1
func TestDoAddsAndSubtractsModulo(t *testing.T) {
	const top = math.MaxUint64
	for _, c := range []struct{ a, b, sum, difference uint64 }{
		{0, 0, 0, 0}, {7, 5, 12, 2}, {5, 7, 12, top - 1},
		{0, 1, 1, top}, {1, 0, 1, 1},
		{top, 0, top, top}, {top, 1, 0, top - 1}, {1, top, 0, 2}, {top, top, top - 1, 0}, {0, top, top, 1},
		{highest, highest, 0, 0}, {highest, 1, highest + 1, highest - 1}, {highest - 1, 1, highest, highest - 2},
		{highest - 1, highest, top, top}, {highest, highest - 1, top, 1}, {0, highest, highest, highest},
	} {
		does(t, c.a, c.b, c.sum, inst.Add, inst.Addi)
		does(t, c.a, c.b, c.difference, inst.Sub)
	}
}

// P15.1
func TestDoBits(t *testing.T) {
	for _, c := range []struct{ a, b, and, or, xor uint64 }{
		{0, 0, 0, 0, 0}, {12, 10, 8, 14, 6}, {1, 2, 0, 3, 3},
		{math.MaxUint64, 0, 0, math.MaxUint64, math.MaxUint64},
		{math.MaxUint64, math.MaxUint64, math.MaxUint64, math.MaxUint64, 0},
		{highest, math.MaxUint64, highest, math.MaxUint64, highest - 1},
		{highest + 5, highest + 3, highest + 1, highest + 7, 6},
		{0xff00ff00ff00ff00, 0x0ff00ff00ff00ff0, 0x0f000f000f000f00, 0xfff0fff0fff0fff0, 0xf0f0f0f0f0f0f0f0},
	} {
		does(t, c.a, c.b, c.and, inst.And, inst.Andi)
		does(t, c.a, c.b, c.or, inst.Or, inst.Ori)
		does(t, c.a, c.b, c.xor, inst.Xor, inst.Xori)
	}
}

// P15.1
func TestDoShiftsModulo64(t *testing.T) {
	const top = math.MaxUint64
	for _, c := range []struct{ a, b, left, right, withSign uint64 }{
		{5, 0, 5, 5, 5}, {5, 1, 10, 2, 2}, {5, 63, highest, 0, 0},
		{5, 64, 5, 5, 5}, {5, 65, 10, 2, 2}, {5, 127, highest, 0, 0}, {5, 128, 5, 5, 5},
		{5, highest, 5, 5, 5}, {5, highest + 1, 10, 2, 2}, {5, highest - 1, highest, 0, 0},
		{5, top, highest, 0, 0}, {5, top - 63, 5, 5, 5}, {5, 1 << 8, 5, 5, 5}, {5, 1<<32 + 1, 10, 2, 2},
		{highest + 2, 0, highest + 2, highest + 2, highest + 2},
		{highest + 2, 1, 4, highest/2 + 1, highest + highest/2 + 1},
		{highest + 2, 63, 0, 1, top},
		{highest + 2, 64, highest + 2, highest + 2, highest + 2},
		{highest + 2, 65, 4, highest/2 + 1, highest + highest/2 + 1},
		{highest + 2, highest, highest + 2, highest + 2, highest + 2},
		{highest + 2, top, 0, 1, top},
		{highest - 1, 1, top - 1, highest/2 - 1, highest/2 - 1},
		{highest - 1, 62, highest + highest/2, 1, 1}, {highest - 1, 63, highest, 0, 0},
		{top, 1, top - 1, highest - 1, top}, {top, 63, highest, 1, top}, {top, 64, top, top, top},
		{0, 1, 0, 0, 0}, {0, 63, 0, 0, 0}, {0, top, 0, 0, 0},
	} {
		does(t, c.a, c.b, c.left, inst.Sll, inst.Slli)
		does(t, c.a, c.b, c.right, inst.Srl, inst.Srli)
		does(t, c.a, c.b, c.withSign, inst.Sra, inst.Srai)
	}
}

// inOrder are numbers from the least to the greatest: without a sign, and with one.
func inOrder() (without, bySign []uint64) {
	const top = math.MaxUint64
	low := []uint64{0, 1, 2, highest - 2, highest - 1}
	high := []uint64{highest, highest + 1, highest + 2, top - 1, top}
	return slices.Concat(low, high), slices.Concat(high, low)
}

// P15.1
func TestDoLess(t *testing.T) {
	less := func(l []uint64, ops ...int) {
		for i, a := range l {
			for j, b := range l {
				want := uint64(0)
				if i < j {
					want = 1
				}
				does(t, a, b, want, ops...)
			}
		}
	}
	without, bySign := inOrder()
	less(without, inst.Sltu, inst.Sltiu)
	less(bySign, inst.Slt, inst.Slti)
}

// P15.1
func TestDoIsForItsInstructionsOnly(t *testing.T) {
	for _, op := range ops() {
		for _, p := range [][2]uint64{{0, 0}, {3, 5}, {5, 3}, {highest, 1}, {math.MaxUint64, math.MaxUint64}} {
			want := inst.Addi <= op && op <= inst.And
			got, ok := Do(op, p[0], p[1])
			if ok != want || !ok && got != 0 {
				t.Errorf("Do(%d, %x, %x) = %x, %v", op, p[0], p[1], got, ok)
			}
		}
	}
}

// P15.2
func TestTakesAsByIntegersOfAnySize(t *testing.T) {
	l := pairs()
	for op := 1; op <= inst.Last; op++ {
		for _, p := range l {
			want, has := takesModel(op, p[0], p[1])
			if got, ok := Takes(op, p[0], p[1]); got != want || ok != has {
				t.Errorf("Takes(%s, %x, %x) = %v, %v; not %v, %v", nameOf(op), p[0], p[1], got, ok, want, has)
			}
		}
	}
}

// takes tests Takes.
func takes(t *testing.T, op int, a, b uint64, want bool) {
	t.Helper()
	if got, ok := Takes(op, a, b); got != want || !ok {
		t.Errorf("Takes(%s, %x, %x) = %v, %v; not %v, true", nameOf(op), a, b, got, ok, want)
	}
}

// P15.2
func TestTakes(t *testing.T) {
	without, bySign := inOrder()
	for i, a := range without {
		for j, b := range without {
			takes(t, inst.Beq, a, b, i == j)
			takes(t, inst.Bne, a, b, i != j)
			takes(t, inst.Bltu, a, b, i < j)
			takes(t, inst.Bgeu, a, b, i >= j)
		}
	}
	for i, a := range bySign {
		for j, b := range bySign {
			takes(t, inst.Blt, a, b, i < j)
			takes(t, inst.Bge, a, b, i >= j)
		}
	}
}

// P15.2
func TestTakesIsForBranchesOnly(t *testing.T) {
	for _, op := range ops() {
		for _, p := range [][2]uint64{{0, 0}, {3, 5}, {5, 3}, {highest, 1}, {1, highest}} {
			want := inst.Beq <= op && op <= inst.Bgeu
			taken, ok := Takes(op, p[0], p[1])
			if ok != want || !ok && taken {
				t.Errorf("Takes(%d, %x, %x) = %v, %v", op, p[0], p[1], taken, ok)
			}
		}
	}
}

// widthModel is the width of an instruction by its name.
func widthModel(name string) int {
	return map[string]int{
		"lb": 1, "lbu": 1, "sb": 1, "lh": 2, "lhu": 2, "sh": 2, "lw": 4, "lwu": 4, "sw": 4, "ld": 8, "sd": 8, "clc": 16, "csc": 16,
	}[name]
}

// P15.3
func TestWidth(t *testing.T) {
	for _, op := range ops() {
		if got := Width(op); got != widthModel(nameOf(op)) {
			t.Errorf("Width(%d) = %d", op, got)
		}
	}
}

// P15.3
func TestExtend(t *testing.T) {
	for _, c := range []struct {
		op      int
		v, want uint64
	}{
		{inst.Lb, 0, 0}, {inst.Lb, 0x7f, 0x7f}, {inst.Lb, 0x80, 0xffffffffffffff80}, {inst.Lb, 0xff, math.MaxUint64},
		{inst.Lb, 0x123456789abcde7f, 0x7f}, {inst.Lb, 0x123456789abcde80, 0xffffffffffffff80}, {inst.Lb, 0x100, 0},
		{inst.Lbu, 0x7f, 0x7f}, {inst.Lbu, 0x80, 0x80}, {inst.Lbu, math.MaxUint64, 0xff}, {inst.Lbu, 0x123456789abcde80, 0x80}, {inst.Lbu, 0x100, 0},
		{inst.Lh, 0x7fff, 0x7fff}, {inst.Lh, 0x8000, 0xffffffffffff8000}, {inst.Lh, 0x80, 0x80},
		{inst.Lh, 0x123456789abc7fff, 0x7fff}, {inst.Lh, 0x123456789abc8000, 0xffffffffffff8000}, {inst.Lh, 0x10000, 0},
		{inst.Lhu, 0x7fff, 0x7fff}, {inst.Lhu, 0x8000, 0x8000}, {inst.Lhu, math.MaxUint64, 0xffff}, {inst.Lhu, 0x10000, 0},
		{inst.Lw, 0x7fffffff, 0x7fffffff}, {inst.Lw, 0x80000000, 0xffffffff80000000}, {inst.Lw, 0x8000, 0x8000},
		{inst.Lw, 0x123456787fffffff, 0x7fffffff}, {inst.Lw, 0x1234567880000000, 0xffffffff80000000}, {inst.Lw, 0x100000000, 0},
		{inst.Lwu, 0x7fffffff, 0x7fffffff}, {inst.Lwu, 0x80000000, 0x80000000}, {inst.Lwu, math.MaxUint64, 0xffffffff}, {inst.Lwu, 0x100000000, 0},
		{inst.Ld, 0, 0}, {inst.Ld, 0x80, 0x80}, {inst.Ld, highest, highest}, {inst.Ld, highest - 1, highest - 1}, {inst.Ld, math.MaxUint64, math.MaxUint64},
		{inst.Clc, math.MaxUint64, 0}, {inst.Csc, math.MaxUint64, 0}, {inst.Sb, math.MaxUint64, 0}, {inst.Sd, math.MaxUint64, 0},
	} {
		if got := Extend(c.op, c.v); got != c.want {
			t.Errorf("Extend(%s, %x) = %x, not %x", nameOf(c.op), c.v, got, c.want)
		}
	}
}

// extendModel is Extend by remainders: what is left of v modulo a power of two, less that power if the number has a sign and would be half of it or more.
func extendModel(name string, v uint64) uint64 {
	if !slices.Contains([]string{"lb", "lh", "lw", "ld", "lbu", "lhu", "lwu"}, name) {
		return 0
	}
	all := new(big.Int).Exp(big.NewInt(256), big.NewInt(int64(widthModel(name))), nil)
	r := new(big.Int).Mod(exact(v), all)
	if name[len(name)-1] != 'u' && new(big.Int).Add(r, r).Cmp(all) >= 0 {
		r.Sub(r, all)
	}
	return word(r)
}

// P15.3
func TestExtendAsByRemainders(t *testing.T) {
	l := edges()
	x := numbers(3)
	for range 200 {
		l = append(l, x.next())
	}
	for _, op := range ops() {
		for _, v := range l {
			if got, want := Extend(op, v), extendModel(nameOf(op), v); got != want {
				t.Errorf("Extend(%d, %x) = %x, not %x", op, v, got, want)
			}
		}
	}
}

// P15.4
func TestKinds(t *testing.T) {
	for _, c := range []struct {
		name string
		is   func(int) bool
		are  []string
	}{
		{"Loads", Loads, []string{"lb", "lh", "lw", "ld", "lbu", "lhu", "lwu"}},
		{"Stores", Stores, []string{"sb", "sh", "sw", "sd"}},
		{"Branches", Branches, []string{"beq", "bne", "blt", "bge", "bltu", "bgeu"}},
		{"Immediate", Immediate, []string{"addi", "slti", "sltiu", "xori", "ori", "andi", "slli", "srli", "srai"}},
	} {
		for _, op := range ops() {
			if got, want := c.is(op), slices.Contains(c.are, nameOf(op)); got != want {
				t.Errorf("%s(%d) = %v", c.name, op, got)
			}
		}
	}
}

// lower are so many of the least significant bits of x, found without shifts; as a number in two's complement if it is asked for.
func lower(x uint64, count int, withSign bool) uint64 {
	all := new(big.Int).Exp(big.NewInt(2), big.NewInt(int64(count)), nil)
	r := new(big.Int).Mod(exact(x), all)
	if withSign && new(big.Int).Add(r, r).Cmp(all) >= 0 {
		r.Sub(r, all)
	}
	return word(r)
}

// P15.5
func TestShiftedLeftAndRightAgain(t *testing.T) {
	for _, x := range edges() {
		for by := range uint64(64) {
			count := 64 - int(by)
			for _, left := range []int{inst.Sll, inst.Slli} {
				up, _ := Do(left, x, by)
				does(t, up, by, lower(x, count, false), inst.Srl, inst.Srli)
				does(t, up, by, lower(x, count, true), inst.Sra, inst.Srai)
				does(t, up, by+64, lower(x, count, false), inst.Srl, inst.Srli)
			}
		}
	}
}

// P15.5
func TestExactlyOneOfLessEqualAndGreater(t *testing.T) {
	for _, p := range pairs() {
		a, b := p[0], p[1]
		equal, _ := Takes(inst.Beq, a, b)
		unequal, _ := Takes(inst.Bne, a, b)
		if equal == unequal {
			t.Errorf("%x, %x: equal %v, unequal %v", a, b, equal, unequal)
		}
		for _, l := range [][4]int{{inst.Blt, inst.Bge, inst.Slt, inst.Slti}, {inst.Bltu, inst.Bgeu, inst.Sltu, inst.Sltiu}} {
			less, _ := Takes(l[0], a, b)
			greater, _ := Takes(l[0], b, a)
			if holding(less, equal, greater) != 1 {
				t.Errorf("%s, %x, %x: less %v, equal %v, greater %v", nameOf(l[0]), a, b, less, equal, greater)
			}
			takes(t, l[1], a, b, !less)
			does(t, a, b, uint64(holding(less)), l[2], l[3])
		}
	}
}

// holding is how many of l hold.
func holding(l ...bool) int {
	n := 0
	for _, holds := range l {
		if holds {
			n++
		}
	}
	return n
}

// The chapter's examples.
func TestExamples(t *testing.T) {
	does(t, math.MaxUint64-7, 1, math.MaxUint64-3, inst.Sra) // -8 and -4
	does(t, 1, 65, 2, inst.Sll)
	if got := Width(inst.Lhu); got != 2 {
		t.Errorf("Width(lhu) = %d", got)
	}
}
