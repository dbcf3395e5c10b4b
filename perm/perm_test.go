package perm

import (
	"math"
	"slices"
	"strings"
	"testing"
	"unicode/utf8"
)

// inOrder are the letters of the permissions, the least significant one first.
const inOrder = "rwxRWsuSg"

// power is 2^e, found without shifts.
func power(e int) uint64 {
	p := uint64(1)
	for range e {
		p *= 2
	}
	return p
}

// has tells a bit of a word, without any of the functions that are tested.
func has(x uint64, at int) bool { return x/power(at)%2 == 1 }

// wrongKinds are numbers that no kind of access has.
func wrongKinds() []int {
	return []int{
		-1, -2, -5, -1 << 32, -1<<32 + 1, math.MinInt + 1, math.MinInt,
		5, 6, 7, 8, 255, 256, 257, 511, 1 << 16, 1 << 32, 1<<32 + 1, 1<<32 + 4, math.MaxInt - 1, math.MaxInt,
	}
}

// numbers are 0, all granted permissions, each single bit and its complement, bits above All, all bits, and mixed ones.
func numbers() []uint64 {
	l := []uint64{
		0, 3, 5, 9, 11, 18, 27, 96, 255, 510, 511, 512, 513, 1023, 0xfffffffffffffe00, 0xfffffffffffffe01, math.MaxUint64,
		0x5555555555555555, 0xaaaaaaaaaaaaaaaa, 0x0123456789abcdef, 0xfedcba9876543210, 0x00000000ffffffff, 0xffffffff00000000,
	}
	for k := range 64 {
		l = append(l, power(k), math.MaxUint64-power(k))
	}
	slices.Sort(l)
	return slices.Compact(l)
}

// The document's constants.
func TestConstants(t *testing.T) {
	permissions := []uint64{Load, Store, Execute, LoadCap, StoreCap, Seal, Unseal, System, Global}
	sum := uint64(0)
	for k, p := range permissions {
		if p != power(k) {
			t.Errorf("permission %d is %d", k, p)
		}
		sum += p
	}
	if All != 511 || sum != All {
		t.Errorf("All is %d, and their sum %d", All, sum)
	}
	if kinds := []int{Fetch, Read, Write, ReadCap, WriteCap}; !slices.Equal(kinds, []int{0, 1, 2, 3, 4}) {
		t.Errorf("the kinds are %v", kinds)
	}
}

// P4.1
func TestNeedsOfEachKind(t *testing.T) {
	for kind, want := range []uint64{4, 1, 2, 1 + 8, 2 + 16} {
		if got := Needs(kind); got != want {
			t.Errorf("Needs(%d) = %d, not %d", kind, got, want)
		}
	}
	if Needs(Fetch) != Execute || Needs(Read) != Load || Needs(Write) != Store || Needs(ReadCap) != Load+LoadCap || Needs(WriteCap) != Store+StoreCap {
		t.Error("Needs of the kinds by their names")
	}
}

// P4.1
func TestNeedsAllForOtherNumbers(t *testing.T) {
	for _, kind := range wrongKinds() {
		if got := Needs(kind); got != 511 {
			t.Errorf("Needs(%d) = %d", kind, got)
		}
	}
}

// P4.2
func TestWithinComparesEachBit(t *testing.T) {
	for _, p := range numbers() {
		for _, q := range numbers() {
			want := true
			for k := range 64 {
				want = want && (!has(p, k) || has(q, k))
			}
			if got := Within(p, q); got != want {
				t.Errorf("Within(%x, %x) = %v", p, q, got)
			}
		}
	}
}

// P4.2
func TestWithinOfKnownNumbers(t *testing.T) {
	const every = math.MaxUint64
	for _, w := range []struct {
		p, q uint64
		want bool
	}{
		{0, 0, true}, {0, All, true}, {0, every, true}, {1, 0, false}, {All, 0, false}, {every, 0, false},
		{All, All, true}, {All, every, true}, {every, All, false}, {every, every, true},
		{1, 3, true}, {3, 1, false}, {4, 3, false}, {3, 4, false}, {1, 2, false}, {2, 1, false}, {9, 11, true}, {11, 9, false}, {5, 511, true},
		{256, 255, false}, {256, 256, true}, {All, 510, false}, {510, All, true},
		{512, All, false}, {512, 512, true}, {513, 512, false}, {512, 513, true}, {All, 1023, true}, {1023, All, false},
		{1 << 63, every, true}, {1 << 63, 1 << 63, true}, {1 << 63, 1<<63 - 1, false}, {every, 1<<63 - 1, false}, {1<<63 - 1, every, true},
		{1 << 32, 1, false}, {1, 1 << 32, false}, {1<<32 + 1, 1, false}, {1<<32 + 1, 1<<32 + 1, true},
	} {
		if got := Within(w.p, w.q); got != w.want {
			t.Errorf("Within(%x, %x) = %v", w.p, w.q, got)
		}
	}
}

// textOf is the chapter's text of a number.
func textOf(p uint64) string {
	text := ""
	for k := range 9 {
		if has(p, k) {
			text += inOrder[k : k+1]
		}
	}
	if p >= 512 {
		text += "+"
	}
	return text
}

// P4.3
func TestTextOfAllGrantedPermissions(t *testing.T) {
	for p := uint64(0); p <= 511; p++ {
		if got := Text(p); got != textOf(p) {
			t.Errorf("Text(%d) = %q, not %q", p, got, textOf(p))
		}
	}
}

// P4.3
func TestTextMarksOtherBits(t *testing.T) {
	for k := 9; k < 64; k++ {
		for p := uint64(0); p <= 511; p++ {
			if got := Text(power(k) + p); got != textOf(p)+"+" {
				t.Errorf("Text(%x) = %q, not %q", power(k)+p, got, textOf(p)+"+")
			}
		}
	}
	for _, p := range numbers() {
		if got := Text(p); got != textOf(p) {
			t.Errorf("Text(%x) = %q, not %q", p, got, textOf(p))
		}
	}
}

// P4.3
func TestTextOfKnownNumbers(t *testing.T) {
	for _, k := range []struct {
		p    uint64
		want string
	}{
		{0, ""}, {Load, "r"}, {Store, "w"}, {Execute, "x"}, {LoadCap, "R"}, {StoreCap, "W"}, {Seal, "s"}, {Unseal, "u"}, {System, "S"}, {Global, "g"},
		{All, "rwxRWsuSg"}, {11, "rwR"}, {5, "rx"}, {27, "rwRW"}, {96, "su"}, {160, "sS"}, {510, "wxRWsuSg"}, {255, "rwxRWsuS"},
		{512, "+"}, {1 << 63, "+"}, {0xfffffffffffffe00, "+"}, {513, "r+"}, {768, "g+"}, {523, "rwR+"}, {1<<63 + 128, "S+"},
		{1<<32 + 1, "r+"}, {1023, "rwxRWsuSg+"}, {math.MaxUint64, "rwxRWsuSg+"},
	} {
		if got := Text(k.p); got != k.want {
			t.Errorf("Text(%x) = %q, not %q", k.p, got, k.want)
		}
	}
}

func parses(t *testing.T, s string, want uint64) {
	t.Helper()
	if p, ok := Parse(s); p != want || !ok {
		t.Errorf("Parse(%q) = %d, %v, not %d", s, p, ok, want)
	}
}

func parsesNot(t *testing.T, s string) {
	t.Helper()
	if p, ok := Parse(s); p != 0 || ok {
		t.Errorf("Parse(%q) = %d, %v", s, p, ok)
	}
}

// P4.3
func TestParseOfKnownTexts(t *testing.T) {
	for _, k := range []struct {
		s    string
		want uint64
	}{
		{"", 0}, {"r", Load}, {"w", Store}, {"x", Execute}, {"R", LoadCap}, {"W", StoreCap}, {"s", Seal}, {"u", Unseal}, {"S", System}, {"g", Global},
		{"rwxRWsuSg", All}, {"gSusWRxwr", All}, {"RWSrwsxug", All}, {"sSrRwWgux", All},
		{"xr", 5}, {"rx", 5}, {"rwR", 11}, {"Rwr", 11}, {"wRr", 11}, {"rR", 9}, {"Rr", 9}, {"wW", 18}, {"Ww", 18}, {"sS", 160}, {"Ss", 160}, {"su", 96}, {"gr", 257},
	} {
		parses(t, k.s, k.want)
	}
}

// orders calls visit with each order of the letters.
func orders(letters string, visit func(string)) {
	var more func(done, left string)
	more = func(done, left string) {
		if left == "" {
			visit(done)
		}
		for i := range left {
			more(done+left[i:i+1], left[:i]+left[i+1:])
		}
	}
	more("", letters)
}

// P4.3
func TestParseTakesLettersInAnyOrder(t *testing.T) {
	met := 0
	orders(inOrder, func(s string) {
		if p, ok := Parse(s); p != 511 || !ok {
			t.Fatalf("Parse(%q) = %d, %v", s, p, ok)
		}
		met++
	})
	if met != 362880 {
		t.Errorf("%d orders", met)
	}
	for i, a := range inOrder {
		for k, b := range inOrder {
			if i != k {
				parses(t, string(a)+string(b), power(i)+power(k))
			}
		}
	}
}

// P4.3
func TestParseTellsLettersOfBothCasesApart(t *testing.T) {
	for _, pair := range []struct {
		small, great string
		p, q         uint64
	}{{"r", "R", 1, 8}, {"w", "W", 2, 16}, {"s", "S", 32, 128}} {
		parses(t, pair.small, pair.p)
		parses(t, pair.great, pair.q)
		parses(t, pair.small+pair.great, pair.p+pair.q)
		if Text(pair.p) != pair.small || Text(pair.q) != pair.great {
			t.Errorf("Text of %d and %d: %q and %q", pair.p, pair.q, Text(pair.p), Text(pair.q))
		}
	}
	for _, s := range []string{"X", "U", "G"} { // these have one case only
		parsesNot(t, s)
		parsesNot(t, "r"+s)
	}
}

// P4.3
func TestParseTakesNoLetterTwice(t *testing.T) {
	for i := range inOrder {
		letter, others := inOrder[i:i+1], inOrder[:i]+inOrder[i+1:]
		parsesNot(t, letter+letter)
		parsesNot(t, letter+letter+letter)
		parsesNot(t, letter+others+letter)
		parsesNot(t, letter+letter+others)
		parsesNot(t, others+letter+letter)
		for k := range others {
			parsesNot(t, letter+others[k:k+1]+letter)
			parsesNot(t, others[k:k+1]+letter+letter)
			parsesNot(t, letter+letter+others[k:k+1])
		}
	}
	parsesNot(t, inOrder+inOrder)
	parsesNot(t, strings.Repeat("r", 1<<20))
}

// everywhere puts a text that is no letter alone, ahead of, between and behind letters: none of these may be parsed.
func everywhere(t *testing.T, wrong string) {
	t.Helper()
	for _, s := range []string{wrong, wrong + wrong, wrong + "r", "r" + wrong, "r" + wrong + "w", wrong + inOrder, inOrder + wrong} {
		parsesNot(t, s)
	}
	for i := range inOrder {
		parsesNot(t, inOrder[:i]+wrong+inOrder[i:])
	}
}

// P4.3: from 128 on, a single byte is no valid UTF-8.
func TestParseTakesNoOtherByte(t *testing.T) {
	for b := range 256 {
		if wrong := string([]byte{byte(b)}); !strings.Contains(inOrder, wrong) {
			everywhere(t, wrong)
		}
	}
	everywhere(t, "+")
	parsesNot(t, "rwR+")
	parsesNot(t, " r")
	parsesNot(t, "r,w")
	parsesNot(t, "r\n")
}

// P4.3: neither bytes that are no valid UTF-8, nor valid ones whose rune resembles a letter.
func TestParseTakesNoOtherText(t *testing.T) {
	for _, wrong := range []string{
		"\xff", "\xff\xfe", "\x80", "\xc3", "\xe2\x82", "\xf0\x9f\x98", "\xed\xa0\x80", "\xf4\x90\x80\x80",
		"\xc1\xb2", "\xe0\x81\xb2", "\xf0\x80\x81\xb2", // r in more bytes than it needs
		"\xef\xbf\xbd", string(utf8.RuneError), "\xef\xbb\xbf", "é", "日", "\U0001f600", "\u212a",
		"\u0433", "\u0455", "\uff52", "\uff37", // letters that look like g, s, r and W
	} {
		everywhere(t, wrong)
	}
	for _, letter := range inOrder { // a rune that has a letter's bits, and others above them
		for _, above := range []rune{0x80, 0x100, 0x2000, 0xff00, 0x10000, 0x100000} {
			everywhere(t, string(letter+above))
		}
	}
}

// P4.3: no more of a text than what it consists of is read.
func TestParseOfAPieceOfAText(t *testing.T) {
	const long = "xr+"
	parses(t, long[:2], 5)
	parses(t, long[:0], 0)
	parses(t, long[1:2], 1)
	parsesNot(t, long)
	parsesNot(t, long[2:])
}

// P4.4
func TestNameOfEachKind(t *testing.T) {
	for kind, want := range []string{"fetch", "read", "write", "readcap", "writecap"} {
		if got := Name(kind); got != want {
			t.Errorf("Name(%d) = %q, not %q", kind, got, want)
		}
	}
	if Name(Fetch) != "fetch" || Name(Read) != "read" || Name(Write) != "write" || Name(ReadCap) != "readcap" || Name(WriteCap) != "writecap" {
		t.Error("Name of the kinds by their names")
	}
}

// P4.4
func TestOtherNumbersHaveNoName(t *testing.T) {
	for _, kind := range wrongKinds() {
		if got := Name(kind); got != "" {
			t.Errorf("Name(%d) = %q", kind, got)
		}
	}
}

// P4.5
func TestParseOfTextRestoresPermissions(t *testing.T) {
	for p := uint64(0); p <= 511; p++ {
		parses(t, Text(p), p)
	}
}

// P4.5 goes up to All: a text with + is no text of permissions.
func TestParseOfTextOfOtherNumbers(t *testing.T) {
	for _, p := range numbers() {
		if p > 511 {
			parsesNot(t, Text(p))
		}
	}
}

// The examples of the chapter.
func TestExamples(t *testing.T) {
	if s := Text(11); s != "rwR" {
		t.Errorf("Text(11) = %q", s)
	}
	if p, ok := Parse("xr"); p != 5 || !ok {
		t.Errorf("Parse(xr) = %d, %v", p, ok)
	}
	if s := Name(ReadCap); s != "readcap" {
		t.Errorf("Name(ReadCap) = %q", s)
	}
	if !Within(1, 3) || Within(4, 3) {
		t.Error("Within")
	}
}
