package pte

import (
	"math"
	"slices"
	"testing"

	"mintmark/api"
)

// power is 2^e, found without shifts.
func power(e int) uint64 {
	p := uint64(1)
	for range e {
		p *= 2
	}
	return p
}

// frames is how many numbers a Frame of a word may have.
var frames = power(44)

// bitOf are the bits of the chapter's list.
var bitOf = map[string]int{
	"Valid": 0, "Read": 1, "Write": 2, "Exec": 3, "User": 4, "Global": 5, "Accessed": 6, "Dirty": 7,
	"CapWrite": 58, "CapRead": 59, "CapDirty": 60, "Gen": 61,
}

// names are the flags' names, in the order of their bits.
var names = []string{
	"Valid", "Read", "Write", "Exec", "User", "Global", "Accessed", "Dirty", "CapWrite", "CapRead", "CapDirty", "Gen",
}

// ignored are the bits that no entry has.
var ignored = []int{8, 9, 54, 55, 56, 57, 62, 63}

// has is whether an entry has the flag of a name.
func has(e Entry, name string) bool {
	return map[string]bool{
		"Valid": e.Valid, "Read": e.Read, "Write": e.Write, "Exec": e.Exec,
		"User": e.User, "Global": e.Global, "Accessed": e.Accessed, "Dirty": e.Dirty,
		"CapWrite": e.CapWrite, "CapRead": e.CapRead, "CapDirty": e.CapDirty, "Gen": e.Gen,
	}[name]
}

// with is the entry of a Frame that has exactly the flags of those names.
func with(frame uint64, on ...string) Entry {
	is := func(name string) bool { return slices.Contains(on, name) }
	return Entry{
		Valid: is("Valid"), Read: is("Read"), Write: is("Write"), Exec: is("Exec"),
		User: is("User"), Global: is("Global"), Accessed: is("Accessed"), Dirty: is("Dirty"),
		CapWrite: is("CapWrite"), CapRead: is("CapRead"), CapDirty: is("CapDirty"), Gen: is("Gen"),
		Frame: frame,
	}
}

// all are all sets of flags: entry k of the list has the i-th name if bit i of k is 1.
func all(frame uint64) []Entry {
	var l []Entry
	for k := range int(power(len(names))) {
		var on []string
		for i, name := range names {
			if k/int(power(i))%2 == 1 {
				on = append(on, name)
			}
		}
		l = append(l, with(frame, on...))
	}
	return l
}

// wordOf is the chapter's word of an entry: a sum of powers of two.
func wordOf(e Entry) uint64 {
	w := e.Frame % frames * power(10)
	for _, name := range names {
		if has(e, name) {
			w += power(bitOf[name])
		}
	}
	return w
}

// bit is bit k of a word.
func bit(w uint64, k int) bool { return w/power(k)%2 == 1 }

// someFrames are Frames at the ends of what a word has of them, and others.
func someFrames() []uint64 {
	return []uint64{
		0, 1, 2, 5, 63, 64, 0x555_5555_5555, 0xaaa_aaaa_aaaa, 0x123_4567_89ab, frames/2 - 1, frames / 2, frames - 2, frames - 1,
		frames, frames + 1, frames + 5, 2 * frames, 2*frames - 1, power(52), power(54) - 1, power(54), power(58), power(63), math.MaxUint64 - 1, math.MaxUint64,
	}
}

// someWords are words of one bit, of all but one, and mixed ones.
func someWords() []uint64 {
	l := []uint64{0, math.MaxUint64, 0x0123456789abcdef, 0xfedcba9876543210, 0x5555555555555555, 0xaaaaaaaaaaaaaaaa, 0xff00ff00ff00ff00, 0x1403}
	for k := range 64 {
		l = append(l, power(k), math.MaxUint64-power(k))
	}
	w := uint64(1)
	for range 2000 {
		w = w*6364136223846793005 + 1442695040888963407
		l = append(l, w)
	}
	return l
}

// The limits on which the layer depends, and the type, whose entries are compared.
func TestConstants(t *testing.T) {
	if api.PageBytes != 4096 || api.VirtualBits != 38 {
		t.Errorf("limits %d, %d", api.PageBytes, api.VirtualBits)
	}
	e := Entry{true, false, true, false, true, false, true, false, true, false, true, false, 9}
	if e != with(9, "Valid", "Write", "User", "Accessed", "CapWrite", "CapDirty") {
		t.Errorf("an entry is %v", e)
	}
}

// P9.1
func TestWordKnown(t *testing.T) {
	for _, c := range []struct {
		e    Entry
		want uint64
	}{
		{Entry{}, 0},
		{Entry{Valid: true}, 0x1},
		{Entry{Read: true}, 0x2},
		{Entry{Write: true}, 0x4},
		{Entry{Exec: true}, 0x8},
		{Entry{User: true}, 0x10},
		{Entry{Global: true}, 0x20},
		{Entry{Accessed: true}, 0x40},
		{Entry{Dirty: true}, 0x80},
		{Entry{CapWrite: true}, 0x0400_0000_0000_0000},
		{Entry{CapRead: true}, 0x0800_0000_0000_0000},
		{Entry{CapDirty: true}, 0x1000_0000_0000_0000},
		{Entry{Gen: true}, 0x2000_0000_0000_0000},
		{with(frames-1, names...), 0x3c3f_ffff_ffff_fcff},
		{with(math.MaxUint64, names...), 0x3c3f_ffff_ffff_fcff},
		{with(0, names...), 0x3c00_0000_0000_00ff},
		{Entry{Frame: 1}, 0x400},
		{Entry{Frame: frames - 1}, 0x003f_ffff_ffff_fc00},
		{Entry{Frame: frames}, 0},
		{Entry{Frame: frames + 3}, 0xc00},
		{Entry{Frame: math.MaxUint64}, 0x003f_ffff_ffff_fc00},
		{Entry{Frame: math.MaxUint64 - 1}, 0x003f_ffff_ffff_f800},
		{Entry{Valid: true, Read: true, CapRead: true, Gen: true, Frame: 0x2000000001}, 0x2800_8000_0000_0403},
	} {
		if got := Word(c.e); got != c.want {
			t.Errorf("Word(%+v) = %x, want %x", c.e, got, c.want)
		}
	}
}

// P9.1
func TestWordEach(t *testing.T) {
	for _, f := range someFrames() {
		for _, e := range all(f) {
			if got := Word(e); got != wordOf(e) {
				t.Fatalf("Word(%+v) = %x, want %x", e, got, wordOf(e))
			}
		}
	}
}

// P9.1
func TestOfKnown(t *testing.T) {
	for _, c := range []struct {
		w    uint64
		want Entry
	}{
		{0, Entry{}},
		{0x1403, Entry{Valid: true, Read: true, Frame: 5}},
		{0xff, with(0, names[:8]...)},
		{0x3c00_0000_0000_0000, with(0, names[8:]...)},
		{0x003f_ffff_ffff_fc00, Entry{Frame: frames - 1}},
		{0x0020_0000_0000_0000, Entry{Frame: frames / 2}},
		{0x400, Entry{Frame: 1}},
		{0x300, Entry{}},
		{0x03c0_0000_0000_0000, Entry{}},
		{0xc000_0000_0000_0000, Entry{}},
		{0xc3c0_0000_0000_0300, Entry{}},
		{math.MaxUint64, with(frames-1, names...)},
	} {
		if got := Of(c.w); got != c.want {
			t.Errorf("Of(%x) = %+v, want %+v", c.w, got, c.want)
		}
	}
}

// P9.1
func TestOfEachBit(t *testing.T) {
	seen := 0
	for k := range 64 {
		want := Entry{}
		if k >= 10 && k <= 53 {
			want.Frame = power(k - 10)
			seen++
		}
		for _, name := range names {
			if bitOf[name] == k {
				want = with(0, name)
				seen++
			}
		}
		if slices.Contains(ignored, k) {
			seen++
		}
		if got := Of(power(k)); got != want {
			t.Errorf("Of(2^%d) = %+v, want %+v", k, got, want)
		}
	}
	if seen != 64 {
		t.Errorf("the test knows %d bits", seen)
	}
}

// P9.1
func TestOfEach(t *testing.T) {
	for _, w := range someWords() {
		got := Of(w)
		for _, name := range names {
			if has(got, name) != bit(w, bitOf[name]) {
				t.Errorf("Of(%x) has %s: %v", w, name, has(got, name))
			}
		}
		if want := w / power(10) % frames; got.Frame != want {
			t.Errorf("Of(%x) has the Frame %x, want %x", w, got.Frame, want)
		}
	}
}

// P9.2
func TestLeafKnown(t *testing.T) {
	for _, c := range []struct {
		e    Entry
		want bool
	}{
		{Entry{}, false},
		{Entry{Valid: true}, false},
		{with(0, "Valid", "Read"), true},
		{with(0, "Valid", "Write"), true},
		{with(0, "Valid", "Exec"), true},
		{with(0, "Valid", "Read", "Write"), true},
		{with(0, "Valid", "Read", "Exec"), true},
		{with(0, "Valid", "Write", "Exec"), true},
		{with(0, "Valid", "Read", "Write", "Exec"), true},
		{with(0, "Read"), false},
		{with(0, "Write"), false},
		{with(0, "Exec"), false},
		{with(5, "Read", "Write", "Exec"), false},
		{with(5, names[1:]...), false},
		{with(5, "Valid", "User", "Global", "Accessed", "Dirty", "CapWrite", "CapRead", "CapDirty", "Gen"), false},
		{with(math.MaxUint64, names...), true},
		{with(math.MaxUint64, "Valid"), false},
	} {
		if got := Leaf(c.e); got != c.want {
			t.Errorf("Leaf(%+v) = %v", c.e, got)
		}
	}
}

// P9.2
func TestLeafEach(t *testing.T) {
	yes, no := 0, 0
	for _, f := range []uint64{0, 5, frames, math.MaxUint64} {
		for _, e := range all(f) {
			some := 0
			for _, name := range []string{"Read", "Write", "Exec"} {
				if has(e, name) {
					some++
				}
			}
			want := has(e, "Valid") && some >= 1
			if got := Leaf(e); got != want {
				t.Fatalf("Leaf(%+v) = %v", e, got)
			}
			if want {
				yes++
			} else {
				no++
			}
		}
	}
	if yes == 0 || no == 0 {
		t.Errorf("%d are, %d are not", yes, no)
	}
}

// P9.2
func TestRightKnown(t *testing.T) {
	for _, c := range []struct {
		e    Entry
		want bool
	}{
		// What is not Valid is well-formed, whatever else it has.
		{Entry{}, true},
		{with(0, "Write"), true},
		{with(0, "CapWrite"), true},
		{with(0, "CapRead"), true},
		{with(0, "Dirty", "Gen"), true},
		{with(frames-1, names[1:]...), true},
		{with(frames, names[1:]...), true},
		{with(math.MaxUint64), true},
		// What needs another flag.
		{with(5, "Valid", "Read"), true},
		{with(5, "Valid", "Write"), false},
		{with(5, "Valid", "Exec"), true},
		{with(5, "Valid", "Write", "Exec"), false},
		{with(5, "Valid", "Read", "Write"), true},
		{with(5, "Valid", "Read", "Exec"), true},
		{with(5, "Valid", "Read", "Write", "Exec"), true},
		{with(5, "Valid", "Read", "CapWrite"), false},
		{with(5, "Valid", "Exec", "CapWrite"), false},
		{with(5, "Valid", "Write", "CapWrite"), false},
		{with(5, "Valid", "Read", "Exec", "CapWrite"), false},
		{with(5, "Valid", "Read", "Write", "CapWrite"), true},
		{with(5, "Valid", "Read", "CapRead"), true},
		{with(5, "Valid", "Exec", "CapRead"), false},
		{with(5, "Valid", "Write", "CapRead"), false},
		{with(5, "Valid", "Read", "Write", "CapRead", "CapWrite"), true},
		{with(5, "Valid", "Read", "CapRead", "CapWrite"), false},
		// What a page's entry has without conditions.
		{with(5, "Valid", "Exec", "User", "Global", "Accessed", "Dirty", "CapDirty", "Gen"), true},
		{with(0, names...), true},
		// The Frame.
		{with(frames-1, names...), true},
		{with(frames, names...), false},
		{with(frames+5, "Valid", "Read"), false},
		{with(frames-1, "Valid"), true},
		{with(frames, "Valid"), false},
		{with(power(63), "Valid"), false},
		{with(power(63), "Valid", "Read"), false},
		{with(math.MaxUint64, "Valid", "Read"), false},
		{with(math.MaxUint64, "Valid"), false},
		// A table's entry.
		{with(5, "Valid"), true},
		{with(5, "Valid", "Global"), true},
		{with(0, "Valid", "Global"), true},
		{with(frames, "Valid", "Global"), false},
		{with(5, "Valid", "User"), false},
		{with(5, "Valid", "Accessed"), false},
		{with(5, "Valid", "Dirty"), false},
		{with(5, "Valid", "CapWrite"), false},
		{with(5, "Valid", "CapRead"), false},
		{with(5, "Valid", "CapDirty"), false},
		{with(5, "Valid", "Gen"), false},
		{with(5, "Valid", "Global", "User"), false},
		{with(5, "Valid", "Global", "Gen"), false},
	} {
		if got := Right(c.e); got != c.want {
			t.Errorf("Right(%+v) = %v", c.e, got)
		}
	}
}

// mayBe is the chapter's list of what a well-formed entry must not have, as pairs of what a flag needs.
func mayBe(e Entry) bool {
	if !e.Valid {
		return true
	}
	for _, need := range [][2]string{{"Write", "Read"}, {"CapWrite", "Write"}, {"CapRead", "Read"}} {
		if has(e, need[0]) && !has(e, need[1]) {
			return false
		}
	}
	if e.Frame >= frames {
		return false
	}
	if e.Read || e.Write || e.Exec {
		return true
	}
	for _, name := range []string{"User", "Accessed", "Dirty", "CapWrite", "CapRead", "CapDirty", "Gen"} {
		if has(e, name) {
			return false
		}
	}
	return true
}

// P9.2
func TestRightEach(t *testing.T) {
	count := map[[2]bool]int{}
	for _, f := range someFrames() {
		for _, e := range all(f) {
			want := mayBe(e)
			if got := Right(e); got != want {
				t.Fatalf("Right(%+v) = %v", e, got)
			}
			count[[2]bool{want, Leaf(e)}]++
		}
	}
	if len(count) != 4 {
		t.Errorf("the entries are of %d sorts", len(count))
	}
}

// P9.3
func TestIndexKnown(t *testing.T) {
	const (
		low  = 0x1ff000
		mid  = 0x3fe00000
		high = 0x7fc0000000
	)
	for _, c := range []struct {
		va    uint64
		level int
		want  int
	}{
		{0, 0, 0}, {0, 1, 0}, {0, 2, 0},
		{low, 0, 511}, {low, 1, 0}, {low, 2, 0},
		{mid, 0, 0}, {mid, 1, 511}, {mid, 2, 0},
		{high, 0, 0}, {high, 1, 0}, {high, 2, 511},
		{low + mid + high, 0, 511}, {low + mid + high, 1, 511}, {low + mid + high, 2, 511},
		{math.MaxUint64 - low, 0, 0}, {math.MaxUint64 - low, 1, 511}, {math.MaxUint64 - low, 2, 511},
		{math.MaxUint64 - mid, 0, 511}, {math.MaxUint64 - mid, 1, 0}, {math.MaxUint64 - mid, 2, 511},
		{math.MaxUint64 - high, 0, 511}, {math.MaxUint64 - high, 1, 511}, {math.MaxUint64 - high, 2, 0},
		{4095, 0, 0}, {4096, 0, 1}, {4097, 0, 1}, {8191, 0, 1}, {8192, 0, 2},
		{1<<21 - 1, 0, 511}, {1<<21 - 1, 1, 0}, {1 << 21, 0, 0}, {1 << 21, 1, 1},
		{1<<30 - 1, 1, 511}, {1<<30 - 1, 2, 0}, {1 << 30, 1, 0}, {1 << 30, 2, 1},
		{1<<38 - 1, 2, 255}, {1 << 38, 2, 256}, {1<<39 - 1, 2, 511}, {1 << 39, 2, 0},
		{3<<30 + 5<<21 + 7<<12 + 11, 2, 3}, {3<<30 + 5<<21 + 7<<12 + 11, 1, 5}, {3<<30 + 5<<21 + 7<<12 + 11, 0, 7},
	} {
		if got := Index(c.va, c.level); got != c.want {
			t.Errorf("Index(%x, %d) = %d, want %d", c.va, c.level, got, c.want)
		}
	}
}

// P9.3
func TestIndexNoLevel(t *testing.T) {
	levels := []int{-1, -2, 3, 4, 5, 64, -64, 256, 257, 258, 1 << 32, 1<<32 + 1, math.MinInt, math.MinInt + 1, math.MinInt + 2, math.MinInt / 9, math.MaxInt, math.MaxInt - 1, math.MaxInt / 9}
	// With a wrap-round, nine times such a level would lead to a place in the word.
	ninth := uint64(9)
	for range 6 {
		ninth *= 2 - 9*ninth
	}
	if ninth*9 != 1 {
		t.Fatalf("the test's ninth is %x", ninth)
	}
	for k := range 64 {
		levels = append(levels, int((uint64(k)-12)*ninth))
	}
	for _, level := range levels {
		if level >= 0 && level <= 2 {
			continue
		}
		for _, va := range []uint64{math.MaxUint64, 0x7fffffffff, 0x1ff000, 0xfff, 0} {
			if got := Index(va, level); got != 0 {
				t.Errorf("Index(%x, %d) = %d", va, level, got)
			}
		}
	}
}

// P9.3
func TestIndexEach(t *testing.T) {
	for _, va := range someWords() {
		for level := range 3 {
			want := int(va / power(12+9*level) % 512)
			if got := Index(va, level); got != want {
				t.Errorf("Index(%x, %d) = %d, want %d", va, level, got, want)
			}
		}
	}
}

// P9.3
func TestNumberKnown(t *testing.T) {
	for _, c := range []struct{ va, number, offset, first uint64 }{
		{0, 0, 0, 0},
		{1, 0, 1, 0},
		{4095, 0, 4095, 0},
		{4096, 1, 0, 4096},
		{4097, 1, 1, 4096},
		{8191, 1, 4095, 4096},
		{0x3fffffffff, 0x3ffffff, 4095, 0x3ffffff000},
		{0x4000000000, 0x4000000, 0, 0x4000000000},
		{0x123456789abcdef0, 0x123456789abcd, 0xef0, 0x123456789abcd000},
		{math.MaxUint64 - 4095, 0xfffffffffffff, 0, 0xfffffffffffff000},
		{math.MaxUint64 - 4096, 0xffffffffffffe, 4095, 0xffffffffffffe000},
		{math.MaxUint64, 0xfffffffffffff, 4095, 0xfffffffffffff000},
	} {
		if got := Number(c.va); got != c.number {
			t.Errorf("Number(%x) = %x, want %x", c.va, got, c.number)
		}
		if got := Offset(c.va); got != c.offset {
			t.Errorf("Offset(%x) = %x, want %x", c.va, got, c.offset)
		}
		if got := Address(c.number); got != c.first {
			t.Errorf("Address(%x) = %x, want %x", c.number, got, c.first)
		}
	}
}

// P9.3
func TestAddressKnown(t *testing.T) {
	for _, c := range []struct{ number, want uint64 }{
		{0, 0}, {1, 4096}, {4095, 0xfff000}, {4096, 0x1000000}, {4097, 0x1001000},
		{power(52) - 1, 0xfffffffffffff000}, {power(52), 0}, {power(52) + 1, 4096}, {power(53), 0}, {power(53) + 7, 7 * 4096},
		{power(63), 0}, {power(63) + 2, 8192}, {math.MaxUint64 - 1, 0xffffffffffffe000}, {math.MaxUint64, 0xfffffffffffff000},
	} {
		if got := Address(c.number); got != c.want {
			t.Errorf("Address(%x) = %x, want %x", c.number, got, c.want)
		}
	}
}

// P9.3
func TestNumberEach(t *testing.T) {
	for _, va := range someWords() {
		if n, o := Number(va), Offset(va); n != va/4096 || o != va-va/4096*4096 || o > 4095 || Address(n)+o != va {
			t.Errorf("%x has the number %x and the offset %x", va, n, o)
		}
		if got, want := Address(va), va%power(52)*4096; got != want {
			t.Errorf("Address(%x) = %x, want %x", va, got, want)
		}
	}
}

// P9.3
func TestMay(t *testing.T) {
	for _, c := range []struct {
		va   uint64
		want bool
	}{
		{0, true}, {1, true}, {4096, true}, {power(37), true}, {0x3ffffffffe, true}, {0x3fffffffff, true},
		{0x4000000000, false}, {0x4000000001, false}, {0x7fffffffff, false}, {0x8000000000, false},
		{power(48), false}, {power(63), false}, {math.MaxUint64 - 0x3fffffffff, false}, {math.MaxUint64, false},
	} {
		if got := May(c.va); got != c.want {
			t.Errorf("May(%x) = %v", c.va, got)
		}
	}
	for _, va := range someWords() {
		for _, va := range []uint64{va, va % power(38), va % power(39)} {
			if got := May(va); got != (va/power(38) == 0) {
				t.Errorf("May(%x) = %v", va, got)
			}
		}
	}
}

// P9.4
func TestOfWord(t *testing.T) {
	for _, f := range someFrames() {
		for _, e := range all(f) {
			want := e
			want.Frame %= frames
			if got := Of(Word(e)); got != want {
				t.Fatalf("Of(Word(%+v)) = %+v", e, got)
			}
		}
	}
}

// P9.4
func TestWordOf(t *testing.T) {
	for _, w := range someWords() {
		want := w
		for _, k := range ignored {
			if bit(w, k) {
				want -= power(k)
			}
		}
		if got := Word(Of(w)); got != want {
			t.Errorf("Word(Of(%x)) = %x, want %x", w, got, want)
		}
	}
}

// P9.4
func TestIndicesDetermine(t *testing.T) {
	together := func(va uint64) uint64 {
		return ((uint64(Index(va, 2))*512+uint64(Index(va, 1)))*512+uint64(Index(va, 0)))*4096 + Offset(va)
	}
	may, not := 0, 0
	for _, va := range someWords() {
		for _, va := range []uint64{va, va % power(38), va % power(39)} {
			if !May(va) {
				not++
				continue
			}
			may++
			if got := together(va); got != va {
				t.Errorf("%x is put together as %x", va, got)
			}
		}
	}
	if may == 0 || not == 0 {
		t.Errorf("%d may, %d may not", may, not)
	}
	for _, va := range []uint64{0, 4095, 4096, 0x3ffffff000, 0x3fffffffff} {
		if got := together(va); got != va {
			t.Errorf("%x is put together as %x", va, got)
		}
	}
}

// Example 1
func TestExample(t *testing.T) {
	if got := Word(Entry{Valid: true, Frame: 5, Read: true}); got != 0x1403 {
		t.Errorf("%x", got)
	}
	if !May(1<<38-1) || May(1<<38) {
		t.Error("May")
	}
}
