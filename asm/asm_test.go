package asm

import (
	"fmt"
	"math"
	"regexp"
	"slices"
	"strconv"
	"strings"
	"testing"

	"mintmark/api"
	"mintmark/inst"
)

// pattern is how the operands of a shape are written: d, a and b for Rd, Rs1 and Rs2, and i for the Imm.
func pattern(shape byte) string {
	return map[byte]string{
		'R': "dab", 'G': "da", 'I': "dai", 'C': "dai", 'H': "dai", 'S': "bai", 'B': "abi", 'U': "di", 'J': "di", 'N': "",
	}[shape]
}

// has is whether the instructions of a shape have an operand, given by its letter.
func has(shape, letter byte) bool {
	return strings.Contains(pattern(shape), string(rune(letter)))
}

// textOf is the text of an instruction whose operands are right.
func textOf(i inst.Inst) string {
	var l []string
	for _, letter := range pattern(inst.Shape(i.Op)) {
		l = append(l, map[rune]string{
			'd': fmt.Sprintf("c%d", i.Rd), 'a': fmt.Sprintf("c%d", i.Rs1), 'b': fmt.Sprintf("c%d", i.Rs2), 'i': fmt.Sprint(i.Imm),
		}[letter])
	}
	if len(l) == 0 {
		return inst.Name(i.Op)
	}
	return inst.Name(i.Op) + " " + strings.Join(l, ", ")
}

// only is i with 0 for the operands that its shape does not have.
func only(i inst.Inst) inst.Inst {
	shape := inst.Shape(i.Op)
	if !has(shape, 'd') {
		i.Rd = 0
	}
	if !has(shape, 'a') {
		i.Rs1 = 0
	}
	if !has(shape, 'b') {
		i.Rs2 = 0
	}
	if !has(shape, 'i') {
		i.Imm = 0
	}
	return i
}

// ends are the least and the greatest Imm of a shape, and the step between two.
func ends(shape byte) (int64, int64, int64) {
	l := map[byte][3]int64{
		'I': {-2048, 2047, 1}, 'C': {0, 4095, 1}, 'H': {0, 63, 1}, 'S': {-2048, 2047, 1},
		'B': {-4096, 4094, 2}, 'U': {-2147483648, 2147479552, 4096}, 'J': {-1048576, 1048574, 2},
	}[shape]
	return l[0], l[1], l[2]
}

// instances are instructions of each number, with several registers and the ends of what their Imm may be.
func instances() []inst.Inst {
	var all []inst.Inst
	for op := 1; op <= inst.Last; op++ {
		least, greatest, step := ends(inst.Shape(op))
		for _, v := range []int64{least, least + step, 0, step, 7 * step, 10 * step, greatest - step, greatest} {
			for _, l := range [][3]int{{0, 0, 0}, {31, 31, 31}, {1, 2, 3}, {30, 9, 10}, {19, 20, 29}} {
				all = append(all, only(inst.Inst{Op: op, Rd: l[0], Rs1: l[1], Rs2: l[2], Imm: v}))
			}
		}
	}
	return all
}

const (
	registerPattern = `c(0|[1-9]|[12][0-9]|3[01])`
	numberPattern   = `(0|-?[1-9][0-9]{0,9})`
	namePattern     = `[a-z][a-z0-9_]{0,63}`
)

var (
	instructionLine = regexp.MustCompile(`^([a-z]+)(?: ([^ ,]+)(?:, ([^ ,]+))?(?:, ([^ ,]+))?)?$`)
	registerWord    = regexp.MustCompile(`^` + registerPattern + `$`)
	numberWord      = regexp.MustCompile(`^` + numberPattern + `$`)
	markLine        = regexp.MustCompile(`^(` + namePattern + `):$`)
	jumpLine        = regexp.MustCompile(`^j ([^ ,]+)$`)
	moveLine        = regexp.MustCompile(`^mv (` + registerPattern + `), (` + registerPattern + `)$`)
	loadLine        = regexp.MustCompile(`^li (` + registerPattern + `), ` + numberPattern + `$`)
)

// modelRead is what the text of an instruction says, where marks tells the Imm of a branch for a name.
func modelRead(s string, marks func(name string) (int64, bool)) (inst.Inst, bool) {
	m := instructionLine.FindStringSubmatch(s)
	if m == nil || inst.Find(m[1]) == 0 {
		return inst.Inst{}, false
	}
	i := inst.Inst{Op: inst.Find(m[1])}
	shape := inst.Shape(i.Op)
	texts := slices.DeleteFunc(m[2:], func(s string) bool { return s == "" })
	if len(texts) != len(pattern(shape)) {
		return inst.Inst{}, false
	}
	for k, letter := range pattern(shape) {
		if letter == 'i' {
			v, ok := int64(0), numberWord.MatchString(texts[k])
			if ok {
				v, _ = strconv.ParseInt(texts[k], 10, 64)
			} else if shape == 'B' || shape == 'J' {
				v, ok = marks(texts[k])
			}
			if !ok {
				return inst.Inst{}, false
			}
			i.Imm = v
			continue
		}
		if !registerWord.MatchString(texts[k]) {
			return inst.Inst{}, false
		}
		n, _ := strconv.Atoi(texts[k][1:])
		switch letter {
		case 'd':
			i.Rd = n
		case 'a':
			i.Rs1 = n
		case 'b':
			i.Rs2 = n
		}
	}
	if _, ok := inst.Encode(i); !ok {
		return inst.Inst{}, false
	}
	return i, true
}

// modelLoad is the number of a line that is a li; false if the line is none.
func modelLoad(s string) (string, int64, bool) {
	m := loadLine.FindStringSubmatch(s)
	if m == nil {
		return "", 0, false
	}
	n, _ := strconv.ParseInt(m[3], 10, 64)
	return m[1], n, n >= math.MinInt32 && n <= math.MaxInt32
}

// modelCount is how many instructions a line counts as.
func modelCount(s string) int {
	if s == "" || s[0] == '#' || markLine.MatchString(s) {
		return 0
	}
	if _, n, ok := modelLoad(s); ok && (n < -2048 || n > 2047) {
		return 2
	}
	return 1
}

// modelLine is the words of a line that is an instruction or a short form.
func modelLine(s string, marks func(name string) (int64, bool)) ([]uint32, bool) {
	texts := []string{s}
	if s == "nop" {
		texts = []string{"addi c0, c0, 0"}
	} else if s == "ret" {
		texts = []string{"jalr c0, c1, 0"}
	} else if m := jumpLine.FindStringSubmatch(s); m != nil {
		texts = []string{"jal c0, " + m[1]}
	} else if m := moveLine.FindStringSubmatch(s); m != nil {
		texts = []string{"cmove " + m[1] + ", " + m[3]}
	} else if r, n, ok := modelLoad(s); ok {
		// Of the numbers whose least significant twelve bits are those of n, low is the one from -2048 to 2047.
		low := ((n+2048)%4096+4096)%4096 - 2048
		texts = []string{fmt.Sprintf("lui %s, %d", r, n-low), fmt.Sprintf("addi %s, %s, %d", r, r, low)}
		if n == low {
			texts = []string{fmt.Sprintf("addi %s, c0, %d", r, n)}
		}
	}
	var words []uint32
	for _, text := range texts {
		i, ok := modelRead(text, marks)
		if !ok {
			return nil, false
		}
		w, _ := inst.Encode(i)
		words = append(words, w)
	}
	return words, true
}

// modelAssemble is what a program's text is assembled to.
func modelAssemble(s string) ([]uint32, int, api.Errno) {
	lines := strings.Split(s, "\n")
	before, marks, total := []int{}, map[string][]int{}, 0
	for n, l := range lines {
		for strings.HasPrefix(l, " ") {
			l = l[1:]
		}
		lines[n] = l
		before = append(before, total)
		if m := markLine.FindStringSubmatch(l); m != nil {
			marks[m[1]] = append(marks[m[1]], n)
		}
		total += modelCount(l)
	}
	if len(s) > 16384 || total > 1024 {
		return nil, 0, 3
	}
	var words []uint32
	for n, l := range lines {
		if m := markLine.FindStringSubmatch(l); m != nil && marks[m[1]][0] != n {
			return nil, n + 1, 11
		}
		if modelCount(l) == 0 {
			continue
		}
		more, ok := modelLine(l, func(name string) (int64, bool) {
			if len(marks[name]) != 1 {
				return 0, false
			}
			return int64(4 * (before[marks[name][0]] - before[n])), true
		})
		if !ok {
			return nil, n + 1, 11
		}
		words = append(words, more...)
	}
	return words, 0, 0
}

// modelListing is the listing of words.
func modelListing(words []uint32) string {
	goals := map[int64]bool{}
	var lines []string
	for k, w := range words {
		i, ok := inst.Decode(w)
		if !ok {
			lines = append(lines, fmt.Sprintf("# word %08x\n", w))
			continue
		}
		text := textOf(i)
		if to := int64(k)*4 + i.Imm; strings.Contains("BJ", string(rune(inst.Shape(i.Op)))) && to >= 0 && to <= int64(len(words))*4 && to%4 == 0 {
			goals[to/4] = true
			text = text[:strings.LastIndex(text, " ")] + fmt.Sprintf(" m%d", to/4)
		}
		lines = append(lines, text+"\n")
	}
	out := ""
	for k := range len(words) + 1 {
		if goals[int64(k)] {
			out += fmt.Sprintf("m%d:\n", k)
		}
		if k < len(words) {
			out += lines[k]
		}
	}
	return out
}

// assembles reports an error if a program is not assembled to these words.
func assembles(t *testing.T, s string, want ...uint32) {
	t.Helper()
	if words, line, err := Assemble(s); !slices.Equal(words, want) || line != 0 || err != api.OK {
		t.Errorf("Assemble(%.200q) = %08x, %d, %d, want %08x", s, words, line, err, want)
	}
}

// fails reports an error if that line of a program is not the first one that is wrong.
func fails(t *testing.T, s string, want int) {
	t.Helper()
	if words, line, err := Assemble(s); len(words) != 0 || line != want || err != 11 {
		t.Errorf("Assemble(%.200q) = %d words, %d, %d, want line %d and ErrForm", s, len(words), line, err, want)
	}
}

// isBig reports an error if a program is not too great.
func isBig(t *testing.T, s string) {
	t.Helper()
	if words, line, err := Assemble(s); len(words) != 0 || line != 0 || err != 3 {
		t.Errorf("Assemble of %d bytes = %d words, %d, %d, want ErrBig", len(s), len(words), line, err)
	}
}

// asModel reports an error if a program is not assembled as the model does it.
func asModel(t *testing.T, s string) api.Errno {
	t.Helper()
	words, line, err := Assemble(s)
	wantWords, wantLine, wantErr := modelAssemble(s)
	if !slices.Equal(words, wantWords) || line != wantLine || err != wantErr {
		t.Errorf("Assemble(%q) = %08x, %d, %d, want %08x, %d, %d", s, words, line, err, wantWords, wantLine, wantErr)
	}
	return err
}

// parses reports an error if s is not the text of that instruction.
func parses(t *testing.T, s string, want inst.Inst) {
	t.Helper()
	if i, ok := Parse(s); i != want || !ok {
		t.Errorf("Parse(%q) = %+v, %v, want %+v, true", s, i, ok, want)
	}
}

// isNoText reports an error if s is the text of an instruction.
func isNoText(t *testing.T, s string) {
	t.Helper()
	if i, ok := Parse(s); i != (inst.Inst{}) || ok {
		t.Errorf("Parse(%.200q) = %+v, %v, want nothing, false", s, i, ok)
	}
}

// lines are these lines, each with a byte 10 behind it.
func lines(l ...string) string {
	return strings.Join(l, "\n") + "\n"
}

// nops are so many lines.
func nops(n int) string {
	return strings.Repeat("nop\n", n)
}

const nop = 0x00000013

// encoded is the word of an instruction.
func encoded(t *testing.T, i inst.Inst) uint32 {
	t.Helper()
	w, ok := inst.Encode(i)
	if !ok {
		t.Fatalf("%+v has no word", i)
	}
	return w
}

// numbers are ones that look as if they were random, from a rule.
type numbers uint64

// below returns the next one, from 0 to below n.
func (x *numbers) below(n int) int {
	*x = *x*6364136223846793005 + 1442695040888963407
	return int(uint64(*x>>33) % uint64(n))
}

// of returns one of the texts.
func (x *numbers) of(l ...string) string {
	return l[x.below(len(l))]
}

// The chapter's examples.
func TestExamples(t *testing.T) {
	assembles(t, lines("a:", "addi c10, c10, -1", "bne c10, c0, a"), 0xfff50513, 0xfe051ee3)
	assembles(t, "a:\naddi c10, c10, -1\nbne c10, c0, a", 0xfff50513, 0xfe051ee3)
	fails(t, lines("a:", "a:"), 2)
	fails(t, "a:\na:", 2)
}

// known are texts of each shape, written by hand.
func known() map[string]inst.Inst {
	return map[string]inst.Inst{
		"add c10, c11, c12":          {Op: inst.Add, Rd: 10, Rs1: 11, Rs2: 12},
		"sub c0, c31, c0":            {Op: inst.Sub, Rs1: 31},
		"csetbounds c31, c0, c31":    {Op: inst.Csetbounds, Rd: 31, Rs2: 31},
		"cgetperm c10, c11":          {Op: inst.Cgetperm, Rd: 10, Rs1: 11},
		"cmove c0, c31":              {Op: inst.Cmove, Rs1: 31},
		"csealentry c31, c0":         {Op: inst.Csealentry, Rd: 31},
		"addi c10, c11, -1":          {Op: inst.Addi, Rd: 10, Rs1: 11, Imm: -1},
		"addi c0, c0, 0":             {Op: inst.Addi},
		"ld c31, c0, -2048":          {Op: inst.Ld, Rd: 31, Imm: -2048},
		"jalr c0, c31, 2047":         {Op: inst.Jalr, Rs1: 31, Imm: 2047},
		"clc c1, c2, 16":             {Op: inst.Clc, Rd: 1, Rs1: 2, Imm: 16},
		"cincoffsetimm c1, c2, -16":  {Op: inst.Cincoffsetimm, Rd: 1, Rs1: 2, Imm: -16},
		"csetboundsimm c1, c2, 0":    {Op: inst.Csetboundsimm, Rd: 1, Rs1: 2},
		"csetboundsimm c9, c8, 4095": {Op: inst.Csetboundsimm, Rd: 9, Rs1: 8, Imm: 4095},
		"slli c10, c20, 0":           {Op: inst.Slli, Rd: 10, Rs1: 20},
		"srai c10, c20, 63":          {Op: inst.Srai, Rd: 10, Rs1: 20, Imm: 63},
		"sd c1, c2, 8":               {Op: inst.Sd, Rs2: 1, Rs1: 2, Imm: 8},
		"sb c31, c0, -2048":          {Op: inst.Sb, Rs2: 31, Imm: -2048},
		"csc c0, c31, 2047":          {Op: inst.Csc, Rs1: 31, Imm: 2047},
		"beq c1, c2, 8":              {Op: inst.Beq, Rs1: 1, Rs2: 2, Imm: 8},
		"bne c31, c0, -4096":         {Op: inst.Bne, Rs1: 31, Imm: -4096},
		"bgeu c0, c31, 4094":         {Op: inst.Bgeu, Rs2: 31, Imm: 4094},
		"lui c10, 4096":              {Op: inst.Lui, Rd: 10, Imm: 4096},
		"lui c31, -2147483648":       {Op: inst.Lui, Rd: 31, Imm: -2147483648},
		"auipc c0, 2147479552":       {Op: inst.Auipc, Imm: 2147479552},
		"jal c1, 2":                  {Op: inst.Jal, Rd: 1, Imm: 2},
		"jal c31, -1048576":          {Op: inst.Jal, Rd: 31, Imm: -1048576},
		"jal c0, 1048574":            {Op: inst.Jal, Imm: 1048574},
		"ecall":                      {Op: inst.Ecall},
		"ebreak":                     {Op: inst.Ebreak},
		"ctestsubset c4, c5, c6":     {Op: inst.Ctestsubset, Rd: 4, Rs1: 5, Rs2: 6},
	}
}

// P14.1
func TestKnownTexts(t *testing.T) {
	for s, i := range known() {
		if got := Text(i); got != s {
			t.Errorf("Text(%+v) = %q, want %q", i, got, s)
		}
		parses(t, s, i)
	}
}

// P14.1, P14.4: every instruction, with registers and numbers at the ends of what fits.
func TestEachText(t *testing.T) {
	for _, i := range instances() {
		s := textOf(i)
		if got := Text(i); got != s {
			t.Errorf("Text(%+v) = %q, want %q", i, got, s)
		}
		parses(t, s, i)
		assembles(t, s, encoded(t, i))
		assembles(t, s+"\n", encoded(t, i))
	}
}

// P14.1, P14.4: every register in each operand.
func TestEachRegister(t *testing.T) {
	for op := 1; op <= inst.Last; op++ {
		for n := range 32 {
			for _, l := range [][3]int{{n, 0, 0}, {0, n, 0}, {0, 0, n}, {n, 31 - n, n * 7 % 32}} {
				i := only(inst.Inst{Op: op, Rd: l[0], Rs1: l[1], Rs2: l[2]})
				if got := Text(i); got != textOf(i) {
					t.Errorf("Text(%+v) = %q, want %q", i, got, textOf(i))
				}
				parses(t, textOf(i), i)
			}
		}
	}
}

// P14.1, P14.4: operands that the shape does not have are neither written nor read.
func TestOtherOperands(t *testing.T) {
	for op := 1; op <= inst.Last; op++ {
		for _, n := range []int{1, 31, 32, -1, math.MinInt, math.MaxInt} {
			i := inst.Inst{Op: op, Rd: 9, Rs1: 18, Rs2: 27, Imm: 0}
			shape := inst.Shape(op)
			if !has(shape, 'd') {
				i.Rd = n
			}
			if !has(shape, 'a') {
				i.Rs1 = n
			}
			if !has(shape, 'b') {
				i.Rs2 = n
			}
			if !has(shape, 'i') {
				i.Imm = int64(n)
			}
			want := textOf(only(i))
			if got := Text(i); got != want {
				t.Errorf("Text(%+v) = %q, want %q", i, got, want)
			}
			parses(t, Text(i), only(i))
		}
	}
}

// P14.1: instructions that have no word.
func TestNoText(t *testing.T) {
	none := func(i inst.Inst) {
		t.Helper()
		if got := Text(i); got != "" {
			t.Errorf("Text(%+v) = %q, want nothing", i, got)
		}
	}
	for _, op := range []int{0, -1, inst.Last + 1, 256, 1<<32 + 1, math.MinInt, math.MaxInt} {
		none(inst.Inst{Op: op})
		none(inst.Inst{Op: op, Rd: 1, Rs1: 2, Rs2: 3, Imm: 4096})
	}
	for op := 1; op <= inst.Last; op++ {
		shape := inst.Shape(op)
		for _, n := range []int{-1, 32, 1 << 32, math.MinInt, math.MaxInt} {
			if has(shape, 'd') {
				none(inst.Inst{Op: op, Rd: n})
			}
			if has(shape, 'a') {
				none(inst.Inst{Op: op, Rs1: n})
			}
			if has(shape, 'b') {
				none(inst.Inst{Op: op, Rs2: n})
			}
		}
		if least, greatest, step := ends(shape); has(shape, 'i') {
			for _, v := range []int64{least - 1, least - step, greatest + 1, greatest + step, math.MinInt64, math.MaxInt64, 1 << 32} {
				none(inst.Inst{Op: op, Imm: v})
			}
			if step > 1 {
				none(inst.Inst{Op: op, Imm: 1})
				none(inst.Inst{Op: op, Imm: -1})
			}
		}
	}
}

// P14.1: texts of no instruction.
func TestParseNone(t *testing.T) {
	for _, s := range []string{
		"", " ", ",", ", ", "\n", "c1", "0", "-", "#", "a:",
		"add c01, c2, c3", "add c1, c02, c3", "add c1, c2, c00", "add c001, c2, c3", "lui c01, 4096", // leading zeros
		"addi c1, c2, 007", "addi c1, c2, 00", "addi c1, c2, -01", "addi c1, c2, -0", "addi c1, c2, 01", "jal c0, 010",
		"addi c1, c2, +1", "addi c1, c2, --1", "addi c1, c2, -", "addi c1, c2, ", "addi c1, c2, 1-", "addi c1, c2, 1_0", "addi c1, c2, 0x1", "addi c1, c2, 1e1", "addi c1, c2, 1.0", "addi c1, c2, ٣",
		"addi c1, c2, 00000000001", "addi c1, c2, 12345678901", "lui c1, 40960000000", "lui c1, 99999999999", "lui c1, -99999999999", // digits
		"lui c1, 18446744073709555712", "addi c1, c2, 18446744073709551617", "addi c1, c2, " + strings.Repeat("9", 5000), "addi c1, c2, " + strings.Repeat("0", 5000),
		"lui c1, 9999998976", "lui c1, 4294967296", "lui c1, 2147483648", "lui c1, -2147487744", "addi c1, c2, 4294967297", "addi c1, c2, 2048", "addi c1, c2, -2049",
		"csetboundsimm c1, c2, -1", "csetboundsimm c1, c2, 4096", "slli c1, c2, 64", "slli c1, c2, -1", "lui c1, 1", "lui c1, 4095", "beq c1, c2, 1", "beq c1, c2, 4096", "jal c1, 1048576", "jal c1, -3",
		"ad c1, c2, c3", "addd c1, c2, c3", "Add c1, c2, c3", "ADD c1, c2, c3", "aDd c1, c2, c3", "subi c1, c2, 3", "x c1, c2, c3", " c1, c2, c3", // names
		"nop", "ret", "j 4", "j a", "mv c1, c2", "li c1, 5", "li c1, 4096", // short forms are no texts of instructions
		"add C1, c2, c3", "add x1, c2, c3", "add 1, c2, c3", "add c, c2, c3", "add c1, c2, c", "add cc1, c2, c3", "add c1c, c2, c3", "add c-1, c2, c3", "add c+1, c2, c3", "add c-0, c2, c3", "add c1, c2, 3",
		"add c32, c2, c3", "add c1, c32, c3", "add c1, c2, c32", "add c100, c2, c3", "add c4294967296, c2, c3", "add c4294967297, c2, c3", "add c18446744073709551617, c2, c3", "add c99999999999999999999, c2, c3", "lui c32, 0", "cmove c1, c32", "sd c32, c1, 0", "sd c1, c32, 0", "beq c32, c0, 0", "beq c0, c32, 0",
		"add c1,c2,c3", "add c1 ,c2, c3", "add c1; c2; c3", "add c1 c2 c3", "add c1,, c2, c3", "add c1, c2 c3", "add c1, c2,c3", "add,c1, c2, c3", "add, c1, c2, c3", "add\tc1, c2, c3", "add c1,\tc2, c3", "add c1,\nc2, c3", // separators
		"addc1, c2, c3", "add  c1, c2, c3", " add c1, c2, c3", "add c1, c2, c3 ", "add c1,  c2, c3", "add c1, c2,  c3", "add c1 , c2, c3", "add c1, c2, c3\n", "add c1, c2, c3,", "add c1, c2, c3, ", "add c1, c2, ", "add , c1, c2", "\tadd c1, c2, c3", "add c1, c2, c3\x00", "add c1, c2, c3\r", // blanks
		"add", "add ", "add c1", "add c1, c2", "add c1, c2, c3, c4", "add c1, c2, c3, 0", "cmove c1", "cmove c1, c2, c3", "cmove c1, c2, 0", "addi c1, c2", "addi c1, 5", "addi c1, c2, 3, 4", "addi c1, c2, c3", "lui c1", "lui 4096", "lui c1, c2, 4096", "jal 4", "jal c1, c2, 4", "jal c1", "sd c1, c2", "sd c1, c2, c3", "beq c1, c2", "beq c1, 4", "beq c1, c2, c3",
		"ecall ", " ecall", "ecall c1", "ecall 0", "ecall ,", "ebreak c0, c0", "ebreak 1", "ecall, ", "ecallebreak",
		"beq c1, c2, a", "jal c0, a", "jal c0, m1", "# word 00000000", "# add c1, c2, c3", "add c1, c2, c3 # x", "addi c1, c2, 4: ",
		strings.Repeat("add c1, c2, c3", 2), "add " + strings.Repeat("c1, ", 10000) + "c1", strings.Repeat(" ", 10000), strings.Repeat(", ", 10000), strings.Repeat("a", 10000), "add c" + strings.Repeat("1", 10000) + ", c2, c3",
	} {
		isNoText(t, s)
	}
}

// P14.1: texts in which a byte is missing, another one, or one too many are those of other instructions, or of none.
func TestParseChanged(t *testing.T) {
	x := numbers(1)
	good, bad := 0, 0
	for _, i := range instances() {
		s := textOf(i)
		for range 12 {
			at := x.below(len(s) + 1)
			byteThere := x.of("0", "1", "3", "9", "-", "c", " ", ",", ", ", "\n", "x", "A", "_", "\xff", string(s[x.below(len(s))]))
			changed := s[:at] + byteThere + s[at:]
			switch {
			case x.below(3) == 0 && at < len(s):
				changed = s[:at] + byteThere + s[at+1:]
			case x.below(3) == 0 && at < len(s):
				changed = s[:at] + s[at+1:]
			}
			want, is := modelRead(changed, func(string) (int64, bool) { return 0, false })
			got, ok := Parse(changed)
			if got != want || ok != is {
				t.Fatalf("Parse(%q) = %+v, %v, want %+v, %v", changed, got, ok, want, is)
			}
			if !ok {
				bad++
				continue
			}
			good++
			if back := Text(got); back != changed {
				t.Fatalf("Parse(%q) = %+v, whose text is %q", changed, got, back)
			}
		}
	}
	if good < 1000 || bad < 5000 {
		t.Errorf("%d texts of instructions, %d others", good, bad)
	}
}

// P14.4: instructions with any numbers: those that have a word are inverted, the others have no text.
func TestParseInvertsText(t *testing.T) {
	x := numbers(2)
	texts, none := 0, 0
	for range 40000 {
		i := inst.Inst{Op: x.below(72) - 1, Rd: x.below(33), Rs1: x.below(33), Rs2: x.below(33)}
		least, greatest, step := ends(inst.Shape(i.Op))
		if step > 0 {
			i.Imm = least + int64(x.below(int((greatest-least)/step)+2))*step
		}
		w, ok := inst.Encode(i)
		s := Text(i)
		if ok != (s != "") {
			t.Fatalf("Text(%+v) = %q, but Encode tells %v", i, s, ok)
		}
		if !ok {
			none++
			continue
		}
		texts++
		parses(t, s, only(i))
		assembles(t, s, w)
	}
	if texts < 20000 || none < 1000 {
		t.Errorf("%d texts, %d instructions without", texts, none)
	}
}

// P14.2: programs without instructions.
func TestAssembleNothing(t *testing.T) {
	for _, s := range []string{
		"", "\n", "\n\n\n", " ", "     ", "   \n  \n ", "#", "# x", "#add c1, c2, c3", "   # nop", "##\n#", "# \xff\x00", "a:", "a:\nb:\n", "  a:", "#a:\na:",
	} {
		assembles(t, s)
	}
}

// P14.2: lines that are skipped, and leading blanks.
func TestAssembleSkips(t *testing.T) {
	assembles(t, "nop", nop)
	assembles(t, "nop\n", nop)
	assembles(t, "\n\nnop\n\n", nop)
	assembles(t, "   nop", nop)
	assembles(t, strings.Repeat(" ", 1000)+"add c1, c2, c3", 0x003100b3)
	assembles(t, lines("# one", "nop", "", "   ", "  # nop", "#nop", "  ecall", "#", ""), nop, 0x73)
	fails(t, lines("# one", "", "  ", "nop", "  #", "wrong"), 6)
	for _, s := range []string{
		"nop ", "nop\t", "\tnop", "\rnop", "nop\r", "nop\r\n", "nop\x00", "nop # x", "nop;nop", "nop nop", "ecall #", "\u00a0nop", "nop\vnop", "ecall ", "add c1, c2, c3 ", "%", "word 00000000",
	} {
		fails(t, s, 1)
		fails(t, "\n\n  \n"+s, 4)
	}
}

// P14.2: short forms without a number.
func TestShortForms(t *testing.T) {
	jal := func(imm int64) uint32 { return encoded(t, inst.Inst{Op: inst.Jal, Imm: imm}) }
	assembles(t, "nop", 0x00000013)
	assembles(t, "ret", 0x00008067)
	assembles(t, "j 0", 0x0000006f)
	assembles(t, "j 16", 0x0100006f)
	assembles(t, "j -1048576", jal(-1048576))
	assembles(t, "j 1048574", jal(1048574))
	assembles(t, "a:\nj a", jal(0))
	assembles(t, "j a\nnop\na:", jal(8), nop)
	assembles(t, "j c1\nc1:\n", jal(4))
	assembles(t, "j j\nj:\n", jal(4))
	assembles(t, "mv c31, c0", encoded(t, inst.Inst{Op: inst.Cmove, Rd: 31}))
	assembles(t, "mv c0, c31", encoded(t, inst.Inst{Op: inst.Cmove, Rs1: 31}))
	assembles(t, "  mv c10, c11", 0xfea5855b)
	for _, s := range []string{
		"nop 0", "nop c0", "Nop", "NOP", "nopp", "no", "nop:x", "nop,", "ret 0", "ret c1", "Ret", "rett", "re", "ret ", "nop ",
		"j", "j ", "j  4", "j 1", "j 3", "j 1048576", "j -1048577", "j 04", "j -0", "j c1", "j a", "j a:", "j c0, 4", "j c0, a", "J 4", "jj 4", "j4", "j 4 ", "j 4, 4", "j\t4",
		"mv", "mv ", "mv c1", "mv c1,c2", "mv c1, c2, c3", "mv c32, c1", "mv c1, c32", "mv c01, c1", "mv  c1, c2", "mv c1, c2 ", "mv c1, 2", "mv c1, a", "MV c1, c2", "mvc1, c2", "mv c1 c2",
	} {
		fails(t, s, 1)
		fails(t, "nop\n"+s+"\nnop", 2)
	}
}

// P14.2: numbers of li, and the words that load them.
func TestLoad(t *testing.T) {
	lui := func(imm int64) uint32 { return encoded(t, inst.Inst{Op: inst.Lui, Rd: 7, Imm: imm}) }
	add := func(imm int64) uint32 { return encoded(t, inst.Inst{Op: inst.Addi, Rd: 7, Rs1: 7, Imm: imm}) }
	for _, n := range []int64{0, 1, -1, 5, 10, 2046, 2047, -2047, -2048} {
		assembles(t, fmt.Sprintf("li c7, %d", n), encoded(t, inst.Inst{Op: inst.Addi, Rd: 7, Imm: n}))
	}
	for _, c := range [][3]int64{
		{2048, 4096, -2048}, {2049, 4096, -2047}, {-2049, -4096, 2047}, {4095, 4096, -1}, {4096, 4096, 0}, {-4096, -4096, 0}, {4097, 4096, 1}, {-4097, -4096, -1}, {6143, 4096, 2047}, {6144, 8192, -2048}, {-6144, -4096, -2048}, {-6145, -8192, 2047},
		{305419896, 305418240, 1656}, {1000000000, 1000001536, -1536}, {-1000000000, -1000001536, 1536},
		{2147481599, 2147479552, 2047}, {2147479552, 2147479552, 0}, {-2147483648, -2147483648, 0}, {-2147483647, -2147483648, 1}, {-2147481601, -2147483648, 2047}, {-2147481600, -2147479552, -2048},
	} {
		assembles(t, fmt.Sprintf("li c7, %d", c[0]), lui(c[1]), add(c[2]))
	}
	assembles(t, "li c0, 4096", 0x00001037, 0x00000013)
	assembles(t, "li c31, 305419896", 0x12345fb7, 0x678f8f93)
	for _, s := range []string{
		"li c7, 2147481600", "li c7, 2147481601", "li c7, 2147483646", "li c7, 2147483647", // H does not fit
		"li c7, 2147483648", "li c7, -2147483649", "li c7, 4294967296", "li c7, 4294967295", "li c7, 9999999999", "li c7, 10000000000", "li c7, 18446744073709551616", "li c7, 18446744073709551617",
		"li", "li ", "li c7", "li c7, ", "li c7,5", "li c7 5", "li  c7, 5", "li c7,  5", "li c7, 5 ", "li c7, 5, 5", "li c7, c0, 5", "li c7, -0", "li c7, 05", "li c7, +5", "li c7, --5", "li c7, -", "li c7, 0x5", "li c7, a", "li c7, c8",
		"li 5, c7", "li c32, 5", "li c32, 5000", "li c07, 5", "li c07, 5000", "li x7, 5", "li 7, 5", "li c-1, 5", "LI c7, 5", "Li c7, 5", "lic7, 5", "lii c7, 5", "li , 5", "li c7, 00000000005",
	} {
		fails(t, s, 1)
		fails(t, lines("nop", s, "nop"), 2)
	}
	fails(t, lines("a:", "li c7, a"), 2)
	fails(t, lines("c7:", "li c7, c7"), 2)
}

// P14.2: all the words of li add up to the number.
func TestLoadAddsUp(t *testing.T) {
	x := numbers(3)
	for k := range 20000 {
		n := int64(int32(uint32(x.below(1<<31))<<1 | uint32(x.below(2))))
		if k%2 == 0 {
			n = int64(x.below(40000) - 20000)
		}
		words, line, err := Assemble(fmt.Sprintf("li c9, %d", n))
		if n >= 2147481600 {
			if len(words) != 0 || line != 1 || err != api.ErrForm {
				t.Fatalf("li of %d: %08x, %d, %d", n, words, line, err)
			}
			continue
		}
		short := n >= -2048 && n <= 2047
		sum := int64(0)
		for at, w := range words {
			i, _ := inst.Decode(w)
			sum += i.Imm
			want := inst.Inst{Op: inst.Addi, Rd: 9, Rs1: 9, Imm: i.Imm}
			switch {
			case short:
				want.Rs1 = 0
			case at == 0:
				want = inst.Inst{Op: inst.Lui, Rd: 9, Imm: i.Imm}
			}
			if i != want {
				t.Fatalf("li of %d: %+v", n, i)
			}
		}
		if sum != n || err != api.OK || short != (len(words) == 1) || len(words) > 2 {
			t.Fatalf("li of %d: %08x, %d, %d", n, words, line, err)
		}
	}
}

// P14.2: marks ahead of and behind a branch.
func TestMarks(t *testing.T) {
	beq := func(imm int64) uint32 { return encoded(t, inst.Inst{Op: inst.Beq, Rs1: 1, Rs2: 2, Imm: imm}) }
	jal := func(imm int64) uint32 { return encoded(t, inst.Inst{Op: inst.Jal, Rd: 1, Imm: imm}) }
	assembles(t, lines("a:", "beq c1, c2, a"), beq(0))
	assembles(t, lines("beq c1, c2, a", "a:"), beq(4))
	assembles(t, "beq c1, c2, a\na:", beq(4))
	assembles(t, lines("beq c1, c2, a", "a:", "nop"), beq(4), nop)
	assembles(t, lines("a:", "nop", "nop", "beq c1, c2, a"), nop, nop, beq(-8))
	assembles(t, lines("beq c1, c2, a", "nop", "nop", "a:", "nop"), beq(12), nop, nop, nop)
	assembles(t, lines("a:", "jal c1, a", "jal c1, b", "b:"), jal(0), jal(4))
	assembles(t, lines("  a:", "", "# a:", "    ", "jal c1, a"), jal(0))
	assembles(t, lines("jal c1, a", "", "a:", "#", "b:", "", "jal c1, b", "jal c1, a"), jal(4), jal(0), jal(-4))
	assembles(t, lines("a:", "b:", "c:", "jal c1, c", "jal c1, b", "jal c1, a"), jal(0), jal(-4), jal(-8))
	// A li counts as the instructions for which it stands.
	assembles(t, lines("jal c1, a", "li c9, 4096", "a:"), jal(12), encoded(t, inst.Inst{Op: inst.Lui, Rd: 9, Imm: 4096}), encoded(t, inst.Inst{Op: inst.Addi, Rd: 9, Rs1: 9}))
	assembles(t, lines("jal c1, a", "li c9, 5", "a:"), jal(8), encoded(t, inst.Inst{Op: inst.Addi, Rd: 9, Imm: 5}))
	assembles(t, lines("a:", "li c9, 4096", "jal c1, a"), encoded(t, inst.Inst{Op: inst.Lui, Rd: 9, Imm: 4096}), encoded(t, inst.Inst{Op: inst.Addi, Rd: 9, Rs1: 9}), jal(-8))
	// Numbers may be used beside marks.
	assembles(t, lines("a:", "jal c1, -2", "beq c1, c2, 6"), jal(-2), beq(6))
	for op := 1; op <= inst.Last; op++ {
		shape := inst.Shape(op)
		if shape != 'B' && shape != 'J' {
			continue
		}
		i := only(inst.Inst{Op: op, Rd: 5, Rs1: 6, Rs2: 7, Imm: -4})
		s := strings.TrimSuffix(textOf(i), "-4") + "back"
		assembles(t, lines("back:", "nop", s), nop, encoded(t, i))
		fails(t, lines("back:", "nop", s+" "), 3)
		fails(t, lines("back:", "nop", s+":"), 3)
		fails(t, lines("back:", "nop", s+", back"), 3)
		for _, register := range []string{"c32", "c01", "back", ""} {
			fails(t, lines("back:", "nop", strings.NewReplacer("c5", register, "c6", register).Replace(s)), 3)
		}
	}
}

// P14.2: names that a mark may have.
func TestNames(t *testing.T) {
	jal := encoded(t, inst.Inst{Op: inst.Jal, Imm: -4})
	for _, name := range []string{
		"a", "z", "m", "a0", "a9", "a_", "a__", "abcdefghijklmnopqrstuvwxyz", "x0123456789", "c1", "c0", "c32", "m1", "add", "ecall", "nop", "ret", "li", "j", "mv", "word", "a_b_1",
		strings.Repeat("a", 63), strings.Repeat("z", 64), "a" + strings.Repeat("9", 63), "a" + strings.Repeat("_", 63),
	} {
		assembles(t, lines(name+":"))
		assembles(t, lines(name+":", "nop", "j "+name), nop, jal)
		fails(t, lines(name+":", name+":"), 2)
	}
	for _, name := range []string{
		"", "_", "_a", "0", "1", "9a", "0a", "-", "-1", "A", "Z", "aB", "Ab", "a-b", "a b", "a ", " ", "a.b", "a:", ":", ":a", "a#", "é", "aé", "a\x00", "a\xff", "a\t", "@", "`", "{", "a{", "a`", "a/", "a@", "a[", ".a", "a,", "+",
		strings.Repeat("a", 65), strings.Repeat("a", 66), "a" + strings.Repeat("9", 64), strings.Repeat("a", 1000),
	} {
		fails(t, lines(name+":"), 1)
		fails(t, lines("nop", name+":", "j "+name), 2)
		if name != "0" {
			fails(t, lines("j "+name), 1)
		}
	}
	for _, s := range []string{"a", "a :", "a: ", "a:nop", "a: nop", "a::", "a:b:", ":", "a:#", "a: # x", "a:\r", "\ta:", "a;"} {
		fails(t, s, 1)
		fails(t, lines("nop", s), 2)
	}
	// Names are told apart by all of their bytes.
	long := strings.Repeat("a", 63)
	assembles(t, lines(long+"b:", "nop", long+"c:", "nop", long+":", "j "+long+"b", "j "+long+"c", "j "+long), nop, nop,
		encoded(t, inst.Inst{Op: inst.Jal, Imm: -8}), encoded(t, inst.Inst{Op: inst.Jal, Imm: -8}), encoded(t, inst.Inst{Op: inst.Jal, Imm: -8}))
}

// P14.2: marks that occur more than once, or not at all.
func TestWrongMarks(t *testing.T) {
	fails(t, lines("a:", "a:"), 2)
	fails(t, lines("a:", "nop", "b:", "a:", "b:"), 4)
	fails(t, lines("a:", "a:", "a:"), 2)
	fails(t, lines("a:", "", "# x", "   a:"), 4)
	fails(t, lines("j a", "a:", "a:"), 1)
	fails(t, lines("a:", "j a", "a:"), 2)
	fails(t, lines("a:", "a:", "j a"), 2)
	fails(t, lines("nop", "a:", "nop", "bne c1, c0, a", "nop", "a:"), 4)
	fails(t, lines("a:", "j b", "b:", "b:", "a:"), 2)
	fails(t, lines("j a"), 1)
	fails(t, lines("nop", "j a", "b:"), 2)
	fails(t, lines("ab:", "abcd:", "abc_:", "nop", "j abc"), 5)
	fails(t, lines("a:", "j A"), 2)
	fails(t, lines("beq c1, c0, b", "a:"), 1)
	fails(t, lines("#a:", "j a"), 2)
}

// P14.2: only branches and jal have marks.
func TestMarksOfOthers(t *testing.T) {
	for op := 1; op <= inst.Last; op++ {
		shape := inst.Shape(op)
		i := only(inst.Inst{Op: op, Rd: 1, Rs1: 2, Rs2: 3, Imm: 0})
		s := textOf(i)
		if !has(shape, 'i') {
			assembles(t, lines("a:", s, "c1:", "c2:", "c3:"), encoded(t, i))
			fails(t, lines("a:", s+" a"), 2)
			fails(t, lines("a:", s+", a"), 2)
			continue
		}
		s = strings.TrimSuffix(s, "0") + "a"
		if shape == 'B' || shape == 'J' {
			assembles(t, lines("a:", s), encoded(t, i))
			continue
		}
		fails(t, lines("a:", s), 2)
		fails(t, lines("nop", s, "a:"), 2)
		fails(t, lines("nop", s), 2)
	}
	fails(t, lines("a:", "li c1, a"), 2)
	fails(t, lines("a:", "mv c1, a"), 2)
	fails(t, lines("a:", "mv a, c1"), 2)
	fails(t, lines("a:", "beq a, c1, a"), 2)
	fails(t, lines("a:", "jal a, a"), 2)
	fails(t, lines("a:", "ecall a"), 2)
}

// P14.2: a branch reaches all marks of a program but one: from the first of 1024 instructions to behind the last.
func TestFarMarks(t *testing.T) {
	bne := func(imm int64) uint32 { return encoded(t, inst.Inst{Op: inst.Bne, Rs1: 1, Imm: imm}) }
	jal := func(imm int64) uint32 { return encoded(t, inst.Inst{Op: inst.Jal, Imm: imm}) }
	many := slices.Repeat([]uint32{nop}, 1023)
	assembles(t, "bne c1, c0, a\n"+nops(1022)+"a:\n", append([]uint32{bne(4092)}, many[:1022]...)...)
	assembles(t, "bne c1, c0, a\n"+nops(1022)+"a:\nnop", append([]uint32{bne(4092)}, many...)...)
	fails(t, "bne c1, c0, a\n"+nops(1023)+"a:\n", 1)
	fails(t, "#\n\nbne c1, c0, a\n"+nops(1022)+"\nnop\n a:", 3)
	assembles(t, "j a\n"+nops(1023)+"a:\n", append([]uint32{jal(4096)}, many...)...)
	assembles(t, "a:\n"+nops(1023)+"bne c1, c0, a\n", append(slices.Clone(many), bne(-4092))...)
	assembles(t, "a:\n"+nops(1023)+"j a\n", append(slices.Clone(many), jal(-4092))...)
	assembles(t, "nop\nbne c1, c0, a\n"+nops(1022)+"a:\n", append([]uint32{nop, bne(4092)}, many[:1022]...)...)
	for op := inst.Beq; op <= inst.Bgeu; op++ {
		fails(t, inst.Name(op)+" c1, c0, a\n"+nops(1023)+"a:\n", 1)
	}
	// A li behind the branch counts twice.
	fails(t, "bne c1, c0, a\nli c1, 4096\n"+nops(1021)+"a:\n", 1)
	fails(t, "bne c1, c0, a\n"+nops(1021)+"li c1, -2049\na:\n", 1)
	if _, line, err := Assemble("bne c1, c0, a\nli c1, 2047\n" + nops(1021) + "a:\n"); line != 0 || err != api.OK {
		t.Errorf("a li of one word counts twice: %d, %d", line, err)
	}
}

// P14.2: the first of several lines that are wrong, where lines that are no instructions count as they do elsewhere.
func TestFirstWrongLine(t *testing.T) {
	fails(t, lines("nop", "x", "y"), 2)
	fails(t, lines("x"), 1)
	fails(t, lines("a:", "x", "a:"), 2)
	fails(t, lines("a:", "a:", "x"), 2)
	fails(t, lines("j b", "x"), 1)
	fails(t, lines("x", "j b"), 1)
	fails(t, lines("j a", "x", "a:"), 2)
	fails(t, lines("", "#", "  ", "a:", "nop", "j a", "add c1, c2"), 7)
	// Without the wrong lines, the mark would be near enough.
	fails(t, "bne c1, c0, a\nx\n"+nops(1022)+"a:\n", 1)
	fails(t, "bne c1, c0, a\n"+strings.Repeat("x\n", 1023)+"a:\n", 1)
	fails(t, "bne c1, c0, a\n"+nops(1022)+"x y z\na:\n", 1)
	fails(t, "bne c1, c0, a\n"+strings.Repeat("a b\n", 1022)+"a:\n", 2)
	fails(t, "bne c1, c0, a\n"+nops(1021)+"x\na:\n", 1023)
	// A li whose upper part does not fit counts twice, other wrong ones once.
	fails(t, "bne c1, c0, a\nli c1, 2147483647\n"+nops(1021)+"a:\n", 1)
	fails(t, "bne c1, c0, a\nli c1, 2147481600\n"+nops(1020)+"a:\n", 2)
	for _, s := range []string{"li c1, 2147483648", "li c1, -2147483649", "li c32, 4096", "li c1, 04096", "li c1, 4096 ", "li c1,4096", "li c1, 99999999999", "li c01, 4096", "li c1, a", "LI c1, 4096"} {
		fails(t, "bne c1, c0, a\n"+s+"\n"+nops(1021)+"a:\n", 2)
		fails(t, "bne c1, c0, a\n"+s+"\n"+nops(1022)+"a:\n", 1)
	}
	// A wrong mark counts as a line that is no instruction.
	fails(t, "bne c1, c0, a\n_:\n"+nops(1022)+"a:\n", 1)
	fails(t, "bne c1, c0, a\n_:\n"+nops(1021)+"a:\n", 2)
	// A mark that occurs twice counts as nothing.
	fails(t, "bne c1, c0, a\nb:\nb:\n"+nops(1022)+"a:\n", 3)
}

// P14.2: 1024 instructions and 1025.
func TestManyInstructions(t *testing.T) {
	assembles(t, nops(1024), slices.Repeat([]uint32{nop}, 1024)...)
	isBig(t, nops(1025))
	isBig(t, nops(4000))
	isBig(t, nops(1024)+"x")
	isBig(t, "x\n"+nops(1024))
	isBig(t, strings.Repeat("x\n", 1025))
	fails(t, strings.Repeat("x\n", 1024), 1)
	fails(t, nops(1023)+"x", 1024)
	isBig(t, nops(1024)+"_:")
	isBig(t, nops(1024)+strings.Repeat("a", 65)+":")
	isBig(t, "a:\na:\nj b\n"+nops(1024))
	// Marks and lines that are skipped do not count.
	assembles(t, nops(512)+"a:\n\n#\n  \n  # x\n"+nops(512)+"b:\n", slices.Repeat([]uint32{nop}, 1024)...)
	fails(t, nops(1024)+"a:\na:\n", 1026)
	// A li counts as one or two.
	if words, line, err := Assemble(nops(1022) + "li c1, 4096"); len(words) != 1024 || line != 0 || err != api.OK {
		t.Errorf("1022 and a li: %d words, %d, %d", len(words), line, err)
	}
	if words, line, err := Assemble(nops(1023) + "li c1, -2048"); len(words) != 1024 || line != 0 || err != api.OK {
		t.Errorf("1023 and a li: %d words, %d, %d", len(words), line, err)
	}
	for _, n := range []string{"2048", "-2049", "4096", "2147481599", "-2147483648", "2147481600", "2147483647"} {
		isBig(t, nops(1023)+"li c1, "+n)
		isBig(t, "li c1, "+n+"\n"+nops(1023))
	}
	isBig(t, strings.Repeat("li c1, 4096\n", 513))
	isBig(t, strings.Repeat("li c1, 2147483647\n", 513))
	fails(t, strings.Repeat("li c1, 2147483647\n", 512), 1)
	fails(t, nops(1022)+"li c1, 2147483647", 1023)
	// What is no li counts once.
	for _, s := range []string{"li c1, 2147483648", "li c1, -2147483649", "li c32, 4096", "li c01, 4096", "li c1, 04096", "li c1,4096", "li c1, 4096 ", "li  c1, 4096", "li c1, 4096, 4096", "li c1, a", "li", "li 4096", "LI c1, 4096", "nop nop", "mv", "j b", "lui c1, 1"} {
		fails(t, nops(1023)+s, 1024)
		isBig(t, nops(1024)+s)
	}
}

// P14.2: MaxText bytes and one more.
func TestLongTexts(t *testing.T) {
	if api.MaxText != 16384 {
		t.Fatalf("MaxText is %d", api.MaxText)
	}
	assembles(t, "#"+strings.Repeat("x", 16383))
	isBig(t, "#"+strings.Repeat("x", 16384))
	assembles(t, strings.Repeat(" ", 16384))
	isBig(t, strings.Repeat(" ", 16385))
	assembles(t, strings.Repeat("\n", 16384))
	isBig(t, strings.Repeat("\n", 16385))
	assembles(t, strings.Repeat(" ", 16381)+"nop", nop)
	isBig(t, strings.Repeat(" ", 16382)+"nop")
	fails(t, strings.Repeat("x", 16384), 1)
	isBig(t, strings.Repeat("x", 16385))
	fails(t, strings.Repeat("\n", 16383)+"x", 16384)
	fails(t, strings.Repeat("a:\n", 5461)+"x", 2)
	isBig(t, strings.Repeat("x\n", 1<<16))
	isBig(t, strings.Repeat("li c1, 5, ", 1<<16))
	fails(t, "li c1, "+strings.Repeat("5, ", 5000), 1)
	fails(t, "add "+strings.Repeat("c1, ", 4000), 1)
	// As many marks as there is room for.
	var b strings.Builder
	n := 0
	for ; b.Len() < 16300; n++ {
		fmt.Fprintf(&b, "m%x:\n", n)
	}
	assembles(t, b.String())
	fails(t, b.String()+"m0:", n+1)
	assembles(t, b.String()+fmt.Sprintf("j m0\nj m%x", n-1), 0x6f, encoded(t, inst.Inst{Op: inst.Jal, Imm: -4}))
}

// aLine is a line of a program, which may be wrong.
func aLine(x *numbers) string {
	name := x.of("a", "b", "c1", "loop", "m0", "x_1", "none", strings.Repeat("q", 64), strings.Repeat("q", 65), "Bad")
	number := x.of("0", "1", "4", "-4", "2", "-8", "2047", "2048", "-2048", "-2049", "4096", "305419896", "2147483647", "2147481599", "2147483648", "-2147483648", "-2147483649", "4094", "62", "-0", "07")
	register := func() string {
		return x.of("c0", "c1", "c9", "c31", "c10", "c22", "c5", "c6", "c7", "c8", "c11", "c12", "c13", "c14", "c15", "c16", "c17", "c18", "c19", "c20", "c32", "c01")
	}
	switch x.below(12) {
	case 0:
		return name + ":"
	case 1:
		return x.of("", "#", "# nop", "   ", "#x:")
	case 2:
		return "li " + register() + ", " + number
	case 3:
		return "j " + x.of(name, number)
	case 4:
		return x.of("beq ", "bne ", "bltu ", "bge ") + register() + ", " + register() + ", " + x.of(name, name, name, number)
	case 5:
		return "jal " + register() + ", " + x.of(name, name, number)
	case 6:
		return "mv " + register() + ", " + register()
	case 7:
		return x.of("nop", "ret", "ecall", "nop", "ret", "ebreak", "nop")
	case 8:
		return x.of("addi ", "sd ", "clc ", "slli ") + register() + ", " + register() + ", " + number
	default:
		i := inst.Inst{Op: 1 + x.below(inst.Last), Rd: x.below(32), Rs1: x.below(32), Rs2: x.below(32)}
		return textOf(only(i))
	}
}

// P14.2: many programs, right and wrong ones.
func TestAssembleMany(t *testing.T) {
	x := numbers(4)
	right, wrong := 0, 0
	for range 30000 {
		var l []string
		for range x.below(12) {
			l = append(l, x.of("", "", "", " ", "   ")+aLine(&x))
		}
		if x.below(40) == 0 {
			l = append(l, x.of("nop x", "a", " ", "nop ", "\tnop", "_:"))
		}
		s := strings.Join(l, "\n")
		if asModel(t, s) == api.OK {
			right++
		} else {
			wrong++
		}
	}
	if right < 5000 || wrong < 5000 {
		t.Errorf("%d programs are right, %d wrong", right, wrong)
	}
}

// P14.2: programs of about as many instructions as there may be.
func TestAssembleGreat(t *testing.T) {
	x := numbers(5)
	counts := map[api.Errno]int{}
	for range 400 {
		var b strings.Builder
		b.WriteString(x.of("", "bne c1, c0, b\n", "j b\n", "nop\n", "bge c1, c2, b\nbge c1, c2, b\n"))
		for range 1012 + x.below(10) {
			b.WriteString("nop\n")
		}
		for range x.below(8) {
			b.WriteString(x.of("li c1, 4096\n", "li c1, 5\n", "li c1, 2147483647\n", "nop\n", "nop\n", "x\n", "b:\n", "ecall\n", "\n", "nop\n"))
		}
		b.WriteString(x.of("", "b:\n", "b:\n", "b:\n", "b:\nnop"))
		counts[asModel(t, b.String())]++
	}
	for _, e := range []api.Errno{0, 3, 11} {
		if counts[e] < 20 {
			t.Errorf("the error %d occurs %d times", e, counts[e])
		}
	}
}

// P14.2: what is returned is new, and the same each time.
func TestAssembleAgain(t *testing.T) {
	s := lines("a:", "nop", "j a", "li c1, 4096")
	one, _, _ := Assemble(s)
	two, _, _ := Assemble(s)
	want := slices.Clone(two)
	for k := range one[:cap(one)] {
		one[:cap(one)][k] = 1
	}
	if !slices.Equal(two, want) {
		t.Errorf("%08x, want %08x", two, want)
	}
}

// P14.3
func TestBytes(t *testing.T) {
	for _, c := range []struct {
		words []uint32
		want  []byte
	}{
		{nil, nil},
		{[]uint32{}, nil},
		{[]uint32{0x01020304}, []byte{4, 3, 2, 1}},
		{[]uint32{0xfff50513, 0xfe051ee3}, []byte{0x13, 5, 0xf5, 0xff, 0xe3, 0x1e, 5, 0xfe}},
		{[]uint32{0, 0xffffffff, 0x80000000, 1}, []byte{0, 0, 0, 0, 255, 255, 255, 255, 0, 0, 0, 128, 1, 0, 0, 0}},
	} {
		if got := Bytes(c.words); !slices.Equal(got, c.want) {
			t.Errorf("Bytes(%08x) = %x, want %x", c.words, got, c.want)
		}
	}
	x := numbers(6)
	var words []uint32
	for range 5000 {
		words = append(words, uint32(x.below(1<<32)))
	}
	before := slices.Clone(words)
	b := Bytes(words)
	if len(b) != 20000 || !slices.Equal(words, before) {
		t.Fatalf("%d bytes", len(b))
	}
	for k, w := range words {
		back := uint64(0)
		for j := range 4 {
			back = back*256 + uint64(b[4*k+3-j])
		}
		if back != uint64(w) {
			t.Fatalf("the bytes %x, want those of %08x", b[4*k:4*k+4], w)
		}
	}
}

// lists reports an error if words have not that listing.
func lists(t *testing.T, want string, words ...uint32) {
	t.Helper()
	if got := Listing(words); got != want {
		t.Errorf("Listing(%08x) = %q, want %q", words, got, want)
	}
}

// P14.5
func TestListing(t *testing.T) {
	beq := func(imm int64) uint32 { return encoded(t, inst.Inst{Op: inst.Beq, Rs1: 1, Rs2: 2, Imm: imm}) }
	jal := func(imm int64) uint32 { return encoded(t, inst.Inst{Op: inst.Jal, Rd: 1, Imm: imm}) }
	lists(t, "")
	lists(t, "addi c0, c0, 0\n", nop)
	lists(t, lines("m0:", "addi c10, c10, -1", "bne c10, c0, m0"), 0xfff50513, 0xfe051ee3)
	// Words that are no instructions.
	lists(t, "# word 00000000\n", 0)
	lists(t, "# word ffffffff\n", 0xffffffff)
	lists(t, lines("# word 000000ff", "ecall", "# word 9abcdef0", "# word 01234567"), 0xff, 0x73, 0x9abcdef0, 0x01234567)
	// To itself, to the end, and beyond.
	lists(t, lines("m0:", "jal c1, m0"), jal(0))
	lists(t, lines("jal c1, m1", "m1:"), jal(4))
	lists(t, lines("jal c1, 8"), jal(8))
	lists(t, lines("jal c1, -4"), jal(-4))
	lists(t, lines("m0:", "beq c1, c2, m0"), beq(0))
	lists(t, lines("beq c1, c2, m1", "m1:"), beq(4))
	lists(t, lines("beq c1, c2, 8"), beq(8))
	lists(t, lines("beq c1, c2, -4"), beq(-4))
	lists(t, lines("beq c1, c2, -4096", "jal c1, 1048574", "jal c1, -1048576"), beq(-4096), jal(1048574), jal(-1048576))
	// Into a word.
	lists(t, lines("beq c1, c2, 2", "jal c1, 2", "beq c1, c2, -2", "jal c1, -6"), beq(2), jal(2), beq(-2), jal(-6))
	lists(t, lines("beq c1, c2, -2", "jal c1, 6"), beq(-2), jal(6))
	// To words that are no instructions, and from several branches.
	lists(t, lines("m0:", "# word 00000000", "jal c1, m0", "m2:", "beq c1, c2, m2", "beq c1, c2, m2", "jal c1, m5", "m5:"), 0, jal(-4), beq(0), beq(-4), jal(4))
	lists(t, lines("jal c1, m2", "# word 0000007f", "m2:", "# word 0000007f"), jal(8), 0x7f, 0x7f)
	// The Imm of others is no target.
	for op := 1; op <= inst.Last; op++ {
		if shape := inst.Shape(op); shape != 'B' && shape != 'J' {
			i := only(inst.Inst{Op: op, Rd: 1, Rs1: 2, Rs2: 3, Imm: 0})
			lists(t, lines(textOf(i), "addi c0, c0, 0"), encoded(t, i), nop)
		}
	}
	lists(t, lines("jalr c0, c1, 4", "lui c1, 0", "auipc c1, 0", "addi c1, c0, -4"), 0x00408067, 0x000000b7, 0x00000097, 0xffc00093)
	// Every kind of branch to each word of three, and beside them.
	for op := 1; op <= inst.Last; op++ {
		if shape := inst.Shape(op); shape != 'B' && shape != 'J' {
			continue
		}
		for at := range 3 {
			for imm := int64(-20); imm <= 20; imm += 2 {
				words := []uint32{nop, nop, nop}
				words[at] = encoded(t, only(inst.Inst{Op: op, Rd: 3, Rs1: 4, Rs2: 5, Imm: imm}))
				lists(t, modelListing(words), words...)
			}
		}
	}
}

// aWord is a word, which may be none of an instruction.
func aWord(t *testing.T, x *numbers, near int) uint32 {
	switch x.below(6) {
	case 0:
		return uint32(x.below(1 << 31))
	case 1, 2, 3:
		ops := []int{inst.Jal, inst.Beq, inst.Bne, inst.Blt, inst.Bge, inst.Bltu, inst.Bgeu}
		imm := int64(x.below(2*near+1)-near) * 4
		if x.below(8) == 0 {
			imm += 2
		}
		if x.below(8) == 0 {
			imm = int64(x.below(4000)-2000) * 2
		}
		return encoded(t, only(inst.Inst{Op: ops[x.below(len(ops))], Rd: x.below(32), Rs1: x.below(32), Rs2: x.below(32), Imm: imm}))
	default:
		return encoded(t, only(inst.Inst{Op: 1 + x.below(inst.Last), Rd: x.below(32), Rs1: x.below(32), Rs2: x.below(32)}))
	}
}

// P14.5: many lists of words; Assemble of the listing returns the words that are instructions, in their places.
func TestListingMany(t *testing.T) {
	x := numbers(7)
	back := 0
	for range 8000 {
		var words []uint32
		all := true
		n := x.below(14)
		for range n {
			w := aWord(t, &x, n)
			_, ok := inst.Decode(w)
			words, all = append(words, w), all && ok
		}
		before := slices.Clone(words)
		s := Listing(words)
		if want := modelListing(words); s != want {
			t.Fatalf("Listing(%08x) = %q, want %q", words, s, want)
		}
		if !slices.Equal(words, before) {
			t.Fatalf("Listing(%08x) changed the words", before)
		}
		if all {
			back++
			assembles(t, s, words...)
		}
	}
	if back < 1000 {
		t.Errorf("only %d lists are all instructions", back)
	}
}

// P14.5: 1024 words, and more.
func TestListingGreat(t *testing.T) {
	x := numbers(8)
	var words []uint32
	for k := range 1024 {
		w := encoded(t, inst.Inst{Op: inst.Ecall})
		if k%8 == 0 {
			w = encoded(t, inst.Inst{Op: inst.Jal, Imm: int64(x.below(1025)-k) * 4})
		}
		words = append(words, w)
	}
	words[0] = encoded(t, inst.Inst{Op: inst.Jal, Imm: 4096})
	words[1023] = encoded(t, inst.Inst{Op: inst.Bne, Imm: -4092})
	s := Listing(words)
	if s != modelListing(words) || len(s) > api.MaxText {
		t.Errorf("a listing of %d bytes", len(s))
	}
	assembles(t, s, words...)
	more := append(slices.Clone(words), words[0])
	if s := Listing(more); s != modelListing(more) {
		t.Errorf("1025 words: %q", s)
	} else {
		isBig(t, s)
	}
	long := slices.Repeat([]uint32{encoded(t, inst.Inst{Op: inst.Csetboundsexact, Rd: 31, Rs1: 31, Rs2: 31})}, 1024)
	if s := Listing(long); len(s) != 1024*len("csetboundsexact c31, c31, c31\n") {
		t.Errorf("a listing of %d bytes", len(s))
	} else {
		isBig(t, s)
	}
	if s := Listing(make([]uint32, 100000)); len(s) != 100000*len("# word 00000000\n") {
		t.Errorf("a listing of %d bytes", len(s))
	}
	far := make([]uint32, 300000)
	far[0] = encoded(t, inst.Inst{Op: inst.Jal, Imm: 1048572})
	far[299999] = encoded(t, inst.Inst{Op: inst.Jal, Imm: -1048576})
	s = Listing(far)
	for _, want := range []string{"jal c0, m262143\n", "\nm262143:\n# word 00000000\n", "jal c0, m37855\n", "\nm37855:\n"} {
		if !strings.Contains(s, want) {
			t.Errorf("the listing has no %q", want)
		}
	}
	if strings.Count(s, ":") != 2 {
		t.Errorf("the listing has %d marks", strings.Count(s, ":"))
	}
}
