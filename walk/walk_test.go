package walk

import (
	"math"
	"slices"
	"testing"

	"mintmark/api"
	"mintmark/capab"
	"mintmark/perm"
	"mintmark/pte"
	"mintmark/ram"
	"mintmark/tags"
)

const pageBytes = 4096

// The bits of an entry's word, as chapter 9 lists them.
const (
	valid    = 1 << 0
	read1    = 1 << 1
	write    = 1 << 2
	exec     = 1 << 3
	user     = 1 << 4
	global   = 1 << 5
	accessed = 1 << 6
	dirty    = 1 << 7
	capWrite = 1 << 58
	capRead  = 1 << 59
	capDirty = 1 << 60
	gen      = 1 << 61
	page     = valid | read1 | user
)

// flagBits are the bits of all flags.
var flagBits = []uint64{valid, read1, write, exec, user, global, accessed, dirty, capWrite, capRead, capDirty, gen}

// framed is the word of an entry with that Frame and those flags.
func framed(frame, flags uint64) uint64 { return frame*1024 + flags }

// address is the address with these indices and this offset.
func address(high, mid, low, offset uint64) uint64 {
	return ((high*512+mid)*512+low)*pageBytes + offset
}

// zeros is memory of so many frames, of zero bytes.
func zeros(t *testing.T, frames int) *ram.Ram {
	t.Helper()
	r, err := ram.New(frames)
	if err != api.OK {
		t.Fatalf("New(%d): %d", frames, err)
	}
	return r
}

// lay stores a word as an entry of the table in a frame.
func lay(t *testing.T, r *ram.Ram, table, index, w uint64) {
	t.Helper()
	if err := r.Store(table*pageBytes+index*8, 8, w); err != api.OK {
		t.Fatalf("Store of entry %d of the table %d: %d", index, table, err)
	}
}

// content is all that the memory has.
func content(t *testing.T, r *ram.Ram) []ram.Page {
	t.Helper()
	var l []ram.Page
	for i := range r.Frames() {
		p, err := r.Read(i)
		if err != api.OK {
			t.Fatalf("Read(%d): %d", i, err)
		}
		l = append(l, p)
	}
	return l
}

// finds reports an error if the walk does not find the entry with that word there.
func finds(t *testing.T, r *ram.Ram, root, va, w, at uint64) {
	t.Helper()
	f, fault := Walk(r, root, va)
	if want := (Found{pte.Of(w), at}); f != want || fault != 0 {
		t.Errorf("Walk(%x, %x) = %+v, %d, want %+v, 0", root, va, f, fault, want)
	}
}

// absent reports an error if the walk finds something.
func absent(t *testing.T, r *ram.Ram, root, va uint64) {
	t.Helper()
	if f, fault := Walk(r, root, va); f != (Found{}) || fault != 1 {
		t.Errorf("Walk(%x, %x) = %+v, %d, want nothing, 1", root, va, f, fault)
	}
}

// someAddresses are addresses at the ends of what is translated, and others.
func someAddresses() []uint64 {
	return []uint64{0, 1, 4095, 4096, 1 << 21, 1 << 30, 1<<37 + 5, 1<<38 - 1, 1 << 38, 1<<38 + 1, 1 << 39, 1 << 63, math.MaxUint64}
}

// theFrames are where chain has its tables, from the highest one to the lowest one, and the page.
var theFrames = [4]uint64{6, 2, 5, 3}

const (
	theHigh, theMid, theLow = 3, 5, 7
	memoryFrames            = 8
)

// chain is memory in which one page is found from the frame 6 on, for the indices 3, 5 and 7: the words are those of its entries of the levels 2, 1 and 0.
func chain(t *testing.T, words [3]uint64) *ram.Ram {
	t.Helper()
	r := zeros(t, memoryFrames)
	for i, index := range [3]uint64{theHigh, theMid, theLow} {
		lay(t, r, theFrames[i], index, words[i])
	}
	return r
}

// chainWords are words with which chain has a page.
func chainWords() [3]uint64 {
	return [3]uint64{framed(theFrames[1], valid), framed(theFrames[2], valid), framed(theFrames[3], page)}
}

// The numbers of the answers, and of the kinds on which they depend; the type, whose values are compared.
func TestConstants(t *testing.T) {
	if Fine != 0 || Absent != 1 || Denied != 2 || Barrier != 3 || NoStore != 4 {
		t.Error("answers", Fine, Absent, Denied, Barrier, NoStore)
	}
	if perm.Fetch != 0 || perm.Read != 1 || perm.Write != 2 || perm.ReadCap != 3 || perm.WriteCap != 4 {
		t.Error("kinds")
	}
	if f := (Found{pte.Entry{Valid: true}, 8}); f != (Found{At: 8, Entry: pte.Of(valid)}) {
		t.Errorf("a Found is %v", f)
	}
}

// P10.1, example 1
func TestWalkZeros(t *testing.T) {
	for _, n := range []int{1, 2, 64} {
		r := zeros(t, n)
		for _, root := range []uint64{0, 1, 63, 64, math.MaxUint64} {
			for _, va := range someAddresses() {
				absent(t, r, root, va)
			}
		}
	}
}

// P10.1
func TestWalkNoMemory(t *testing.T) {
	for _, r := range []*ram.Ram{nil, {}} {
		for _, root := range []uint64{0, 1, 1 << 52, math.MaxUint64} {
			for _, va := range someAddresses() {
				absent(t, r, root, va)
			}
		}
	}
}

// P10.1
func TestWalkFound(t *testing.T) {
	words := chainWords()
	for _, flags := range []uint64{
		valid | read1, valid | exec, page, valid | read1 | write | user,
		page | write | exec | global | accessed | dirty | capWrite | capRead | capDirty | gen,
		page | gen, page | 1<<8 | 1<<9 | 1<<54 | 1<<57 | 1<<62 | 1<<63,
	} {
		for _, frame := range []uint64{0, 3, 6, 7} { // a table may be a page, too
			words[2] = framed(frame, flags)
			r := chain(t, words)
			for _, offset := range []uint64{0, 1, 0xabc, 4095} {
				finds(t, r, 6, address(theHigh, theMid, theLow, offset), words[2], 5*pageBytes+theLow*8)
			}
		}
	}
}

// P10.1: each index is the one of its level.
func TestWalkIndices(t *testing.T) {
	r := chain(t, chainWords())
	for high := range uint64(9) {
		for mid := range uint64(9) {
			for low := range uint64(9) {
				if high != theHigh || mid != theMid || low != theLow {
					absent(t, r, 6, address(high, mid, low, 0))
				}
			}
		}
	}
	for _, root := range []uint64{0, 1, 2, 3, 4, 5, 7} {
		absent(t, r, root, address(theHigh, theMid, theLow, 0))
	}
}

// P10.1: the first and the last entry of a table, the first and the last address.
func TestWalkEnds(t *testing.T) {
	r := zeros(t, 4)
	for _, index := range []uint64{0, 255, 256, 511} {
		lay(t, r, 1, index, framed(2, valid))
	}
	for _, index := range []uint64{0, 511} {
		lay(t, r, 2, index, framed(3, valid))
	}
	lay(t, r, 3, 0, framed(0, page))
	lay(t, r, 3, 511, framed(3, page|exec))
	for _, offset := range []uint64{0, 4095} {
		finds(t, r, 1, offset, framed(0, page), 3*pageBytes)
		finds(t, r, 1, address(0, 0, 511, offset), framed(3, page|exec), 4*pageBytes-8)
		finds(t, r, 1, address(255, 511, 0, offset), framed(0, page), 3*pageBytes)
		finds(t, r, 1, address(255, 511, 511, offset), framed(3, page|exec), 4*pageBytes-8)
	}
	finds(t, r, 1, 1<<38-1, framed(3, page|exec), 4*pageBytes-8)
	// Beyond, there are entries for the indices, but the addresses are not translated.
	for _, va := range []uint64{1 << 38, 1<<38 + 4095, 1<<39 - 1, 1 << 39, 1 << 40, 1 << 48, 1 << 63, math.MaxUint64 - 4095, math.MaxUint64} {
		absent(t, r, 1, va)
	}
}

// P10.1: with the root of the last frame, and of frames that do not exist, though their addresses modulo 2^64 would be those of tables.
func TestWalkRoot(t *testing.T) {
	for _, n := range []uint64{4, 64} {
		r := zeros(t, int(n))
		for _, table := range []uint64{0, n - 1} {
			lay(t, r, table, 0, framed(1, valid))
		}
		lay(t, r, 1, 0, framed(2, valid))
		lay(t, r, 2, 0, framed(3, page))
		finds(t, r, n-1, 0, framed(3, page), 2*pageBytes)
		finds(t, r, 0, 0, framed(3, page), 2*pageBytes)
		for _, root := range []uint64{n, n + 1, 64, 65, 1<<32 + n - 1, 1 << 32, 1<<44 - 1, 1 << 44, 1 << 52, 1<<52 + n - 1, 1 << 63, 1<<64 - 1<<52, math.MaxUint64} {
			absent(t, r, root, 0)
		}
	}
}

// noEntries are words that end a walk wherever they are, though their Frame is this one or one that does not exist.
func noEntries(frame uint64) []uint64 {
	l := []uint64{0, framed(frame, 0), framed(frame, read1|user), framed(frame, 0xfe), framed(frame, 0xfe|capWrite|capRead|gen)}
	for _, none := range []uint64{memoryFrames, memoryFrames + 1, 63, 64, 1 << 32, 1<<32 + frame, 1<<44 - 1} {
		l = append(l, framed(none, valid), framed(none, page))
	}
	for _, flags := range []uint64{
		write, write | exec, write | user, read1 | capWrite, exec | capRead, exec | capWrite, write | capRead | capWrite,
		user, accessed, dirty, capWrite, capRead, capDirty, gen, global | user, accessed | dirty,
	} {
		l = append(l, framed(frame, valid|flags))
	}
	return l
}

// P10.1: what ends the walk at each level.
func TestWalkEachLevel(t *testing.T) {
	va := address(theHigh, theMid, theLow, 9)
	finds(t, chain(t, chainWords()), 6, va, chainWords()[2], 5*pageBytes+theLow*8)
	for level := range 3 {
		frame := theFrames[level+1]
		wrong := noEntries(frame)
		if level < 2 {
			wrong = append(wrong, framed(frame, page), framed(frame, valid|read1), framed(frame, valid|exec), framed(frame, page|write|exec|global))
		} else {
			wrong = append(wrong, framed(frame, valid), framed(frame, valid|global))
		}
		for _, w := range wrong {
			words := chainWords()
			words[level] = w
			absent(t, chain(t, words), 6, va)
		}
	}
}

// P10.1: a table's entry may be Global, and has bits that are ignored.
func TestWalkTables(t *testing.T) {
	for level := range 2 {
		for _, bits := range []uint64{global, 1 << 8, 1 << 9, 1 << 54, 1 << 57, 1 << 62, 1 << 63, global | 3<<8 | 15<<54 | 3<<62} {
			words := chainWords()
			words[level] |= bits
			finds(t, chain(t, words), 6, address(theHigh, theMid, theLow, 0), words[2], 5*pageBytes+theLow*8)
		}
	}
}

// P10.1: all three entries may be in one table.
func TestWalkOneTable(t *testing.T) {
	r := zeros(t, 1)
	lay(t, r, 0, 7, framed(0, valid))
	lay(t, r, 0, 9, framed(0, valid|global))
	lay(t, r, 0, 511, framed(0, page))
	for _, c := range [][2]uint64{{7, 7}, {7, 9}, {9, 7}, {9, 9}} {
		finds(t, r, 0, address(c[0], c[1], 511, 1), framed(0, page), 511*8)
		absent(t, r, 0, address(c[0], 511, 511, 1))
		absent(t, r, 0, address(c[0], c[1], 7, 1))
		absent(t, r, 0, address(c[0], c[1], 8, 1))
	}
	absent(t, r, 0, address(255, 7, 511, 0))
}

// P10.1: one page is the memory's last one, another one behind it.
func TestWalkLastPage(t *testing.T) {
	for n := uint64(3); n <= 64; n++ {
		r := zeros(t, int(n))
		lay(t, r, 0, 1, framed(n-1, valid))
		lay(t, r, n-1, 1, framed(1, valid))
		lay(t, r, 1, 1, framed(n-1, page))
		lay(t, r, 1, 2, framed(n, page))
		finds(t, r, 0, address(1, 1, 1, 0), framed(n-1, page), pageBytes+8)
		absent(t, r, 0, address(1, 1, 2, 0))
	}
}

// numberAt is the number in the eight bytes from there on, of a memory's pages.
func numberAt(pages []ram.Page, at uint64) uint64 {
	v := uint64(0)
	for i := range uint64(8) {
		v = v*256 + uint64(pages[at/pageBytes].Bytes[at%pageBytes+7-i])
	}
	return v
}

// looked is P10.1 for the bytes of a memory: where the entry of level 0 is, with its word; false if there is none.
func looked(pages []ram.Page, root, va uint64) (at, w uint64, ok bool) {
	if va >= 1<<38 {
		return 0, 0, false
	}
	frame := root
	for _, size := range []uint64{1 << 30, 1 << 21, 1 << 12} {
		if frame >= uint64(len(pages)) {
			return 0, 0, false
		}
		at = frame*pageBytes + va/size%512*8
		w = numberAt(pages, at)
		e := pte.Of(w)
		leaf := e.Read || e.Write || e.Exec
		if !e.Valid || !pte.Right(e) || leaf != (size == 1<<12) {
			return 0, 0, false
		}
		frame = w / 1024 % (1 << 44)
	}
	if frame >= uint64(len(pages)) {
		return 0, 0, false
	}
	return at, w, true
}

// numbers yields numbers that look like random ones.
type numbers uint64

// below returns the next number below n.
func (x *numbers) below(n uint64) uint64 {
	*x = *x*6364136223846793005 + 1442695040888963407
	return uint64(*x) >> 33 % n
}

// someEntry is a word that is, often, an entry's of a table or a page that may be found.
func (x *numbers) someEntry(frames uint64) uint64 {
	frame := x.below(frames + 1)
	switch x.below(8) {
	case 0:
		return framed(frame, x.below(256)|x.below(16)<<58)
	case 1:
		return framed(frame, valid|read1|x.below(8)<<3)
	case 2:
		return framed(frame, page|write|capWrite|capRead)
	case 3:
		return framed(x.below(1<<30)<<14|x.below(1<<14), page)
	default:
		return framed(frame, valid)
	}
}

// P10.1: against the bytes of memories with many entries. Nothing in them is changed.
func TestWalkEach(t *testing.T) {
	x := numbers(1)
	found, not := 0, 0
	for range 300 {
		n := x.below(6) + 1
		r := zeros(t, int(n))
		for table := range n {
			for index := range uint64(6) {
				lay(t, r, table, index, x.someEntry(n))
			}
		}
		pages := content(t, r)
		for range 300 {
			root, va := x.below(n+1), address(x.below(7), x.below(7), x.below(7), x.below(pageBytes))
			if at, w, ok := looked(pages, root, va); ok {
				found++
				finds(t, r, root, va, w, at)
			} else {
				not++
				absent(t, r, root, va)
			}
		}
		if !slices.Equal(content(t, r), pages) {
			t.Fatal("a walk has changed the memory")
		}
	}
	if found < 1000 || not < 1000 {
		t.Errorf("the test finds %d, and %d not", found, not)
	}
}

// P10.1: a walk leaves the tags, even those of the tables' granules.
func TestWalkTags(t *testing.T) {
	r := chain(t, chainWords())
	for _, frame := range theFrames {
		p, _ := r.Read(int(frame))
		p.Tags = tags.Set{math.MaxUint64, math.MaxUint64, math.MaxUint64, math.MaxUint64}
		if err := r.Write(int(frame), p); err != api.OK {
			t.Fatal("Write", err)
		}
	}
	pages := content(t, r)
	finds(t, r, 6, address(theHigh, theMid, theLow, 0), chainWords()[2], 5*pageBytes+theLow*8)
	absent(t, r, 6, 0)
	if !slices.Equal(content(t, r), pages) {
		t.Error("a walk has changed the memory")
	}
}

// someKinds are the five kinds, and numbers that are none.
func someKinds() []int {
	return []int{0, 1, 2, 3, 4, -1, 5, -2, 6, 8, 255, 256, 259, 1<<32 + 1, math.MinInt, math.MinInt + 3, math.MaxInt}
}

// eachEntry yields the entries with each set of flags.
func eachEntry(yield func(w uint64, e pte.Entry) bool) {
	for k := range uint64(1) << len(flagBits) {
		w := framed(5, 0)
		for i, bit := range flagBits {
			if k>>i&1 == 1 {
				w += bit
			}
		}
		if !yield(w, pte.Of(w)) {
			return
		}
	}
}

// needed is the bit that an entry must have for each kind.
var needed = []uint64{exec, read1, write, read1, write}

// wrongs are all answers of P10.2 that apply to the entry with that word.
func wrongs(w uint64, kind int, tagged, of bool) []int {
	var l []int
	if w&valid == 0 || w&(read1|write|exec) == 0 {
		l = append(l, 1)
	}
	if w&user == 0 || kind < 0 || kind > 4 || w&needed[kind] == 0 {
		l = append(l, 2)
	}
	if kind == 3 && w&capRead != 0 && (w&gen != 0) != of {
		l = append(l, 3)
	}
	if kind == 4 && tagged && w&capWrite == 0 {
		l = append(l, 4)
	}
	return append(l, 0)
}

// P10.2: the first one of all that apply.
func TestCheckEach(t *testing.T) {
	count := map[int]int{}
	several := 0
	for w, e := range eachEntry {
		for _, kind := range someKinds() {
			for i := range 4 {
				tagged, of := i&1 != 0, i&2 != 0
				want := wrongs(w, kind, tagged, of)
				if got := Check(e, kind, tagged, of); got != want[0] {
					t.Fatalf("Check(%+v, %d, %v, %v) = %d, want %d", e, kind, tagged, of, got, want[0])
				}
				count[want[0]]++
				if len(want) > 2 {
					several++
				}
			}
		}
	}
	if len(count) != 5 || several == 0 {
		t.Errorf("the answers are %v, to %d several apply", count, several)
	}
}

// P10.2
func TestCheckKnown(t *testing.T) {
	const all = valid | read1 | write | exec | user | global | accessed | dirty | capWrite | capRead | capDirty | gen
	for _, c := range []struct {
		w           uint64
		kind        int
		tagged, gen bool
		want        int
	}{
		// What a page's entry must have.
		{w: 0, kind: perm.Read, want: Absent},
		{w: valid, kind: perm.Read, want: Absent},
		{w: valid | user, kind: perm.Fetch, want: Absent},
		{w: read1 | user, kind: perm.Read, want: Absent},
		{w: all - valid, kind: perm.Read, want: Absent},
		{w: all - valid, kind: perm.WriteCap, tagged: true, want: Absent},
		{w: all - read1 - write - exec, kind: perm.ReadCap, want: Absent},
		{w: valid, kind: 5, want: Absent},
		{w: 0, kind: -1, want: Absent},
		{w: valid | read1, kind: perm.Read, want: Denied},
		{w: valid | read1, kind: perm.Write, want: Denied},
		{w: all - user, kind: perm.Fetch, gen: true, want: Denied},
		{w: all - user, kind: perm.Read, gen: true, want: Denied},
		{w: all - user, kind: perm.Write, gen: true, want: Denied},
		{w: all - user, kind: perm.ReadCap, want: Denied},
		{w: all - user - capWrite, kind: perm.WriteCap, tagged: true, want: Denied},
		// What a kind needs, and no more.
		{w: all - exec, kind: perm.Fetch, want: Denied},
		{w: all - read1, kind: perm.Read, want: Denied},
		{w: all - write, kind: perm.Write, want: Denied},
		{w: all - read1, kind: perm.ReadCap, want: Denied},
		{w: all - write, kind: perm.WriteCap, want: Denied},
		{w: all - write - capWrite, kind: perm.WriteCap, tagged: true, want: Denied},
		{w: valid | user | exec, kind: perm.Fetch, want: Fine},
		{w: valid | user | read1, kind: perm.Read, want: Fine},
		{w: valid | user | write, kind: perm.Write, want: Fine},
		{w: valid | user | read1, kind: perm.ReadCap, want: Fine},
		{w: valid | user | write, kind: perm.WriteCap, want: Fine},
		// Numbers that are no kinds.
		{w: all, kind: -1, gen: true, want: Denied},
		{w: all, kind: 5, gen: true, want: Denied},
		{w: all, kind: math.MinInt, gen: true, want: Denied},
		{w: all, kind: math.MaxInt, gen: true, want: Denied},
		{w: all, kind: 5, tagged: true, want: Denied},
		// The barrier.
		{w: page | capRead, kind: perm.ReadCap, gen: false, want: Fine},
		{w: page | capRead, kind: perm.ReadCap, gen: true, want: Barrier},
		{w: page | capRead | gen, kind: perm.ReadCap, gen: false, want: Barrier},
		{w: page | capRead | gen, kind: perm.ReadCap, gen: true, want: Fine},
		{w: page | capRead | gen, kind: perm.ReadCap, tagged: true, want: Barrier},
		{w: page, kind: perm.ReadCap, gen: true, want: Fine},
		{w: page | gen, kind: perm.ReadCap, gen: false, want: Fine},
		{w: all, kind: perm.Read, gen: false, want: Fine},
		{w: all, kind: perm.Fetch, gen: false, want: Fine},
		{w: all, kind: perm.Write, gen: false, want: Fine},
		{w: all, kind: perm.WriteCap, tagged: true, gen: false, want: Fine},
		// Capabilities with a tag.
		{w: page | write, kind: perm.WriteCap, tagged: true, want: NoStore},
		{w: page | write | capRead, kind: perm.WriteCap, tagged: true, gen: true, want: NoStore},
		{w: page | write, kind: perm.WriteCap, tagged: false, want: Fine},
		{w: page | write | capWrite, kind: perm.WriteCap, tagged: true, want: Fine},
		{w: page | write | capWrite, kind: perm.WriteCap, tagged: false, want: Fine},
		{w: page | write, kind: perm.Write, tagged: true, want: Fine},
		{w: page | write, kind: perm.ReadCap, tagged: true, want: Fine},
	} {
		if got := Check(pte.Of(c.w), c.kind, c.tagged, c.gen); got != c.want {
			t.Errorf("Check(%x, %d, %v, %v) = %d, want %d", c.w, c.kind, c.tagged, c.gen, got, c.want)
		}
	}
}

// P10.2: whatever the Frame is, even of entries that are not well-formed.
func TestCheckFrame(t *testing.T) {
	for _, frame := range []uint64{0, 1, 63, 64, 1<<44 - 1, 1 << 44, math.MaxUint64} {
		for w, e := range eachEntry {
			if w%7 != 0 {
				continue
			}
			for _, kind := range someKinds() {
				want := Check(e, kind, true, false)
				f := e
				f.Frame = frame
				if got := Check(f, kind, true, false); got != want {
					t.Fatalf("Check(%+v, %d) = %d, want %d", f, kind, got, want)
				}
			}
		}
	}
}

// markedWord is P10.3's Marked for the entry with that word.
func markedWord(w uint64, kind int, tagged bool) uint64 {
	w |= accessed
	if kind == 2 || kind == 4 {
		w |= dirty
	}
	if kind == 4 && tagged {
		w |= capDirty
	}
	return w
}

// P10.3
func TestMarkedKnown(t *testing.T) {
	for _, c := range []struct {
		kind   int
		tagged bool
		want   uint64
	}{
		{perm.Fetch, false, page | accessed},
		{perm.Fetch, true, page | accessed},
		{perm.Read, false, page | accessed},
		{perm.Read, true, page | accessed},
		{perm.Write, false, page | accessed | dirty},
		{perm.Write, true, page | accessed | dirty},
		{perm.ReadCap, false, page | accessed},
		{perm.ReadCap, true, page | accessed},
		{perm.WriteCap, false, page | accessed | dirty},
		{perm.WriteCap, true, page | accessed | dirty | capDirty},
		{-1, true, page | accessed},
		{5, true, page | accessed},
		{math.MinInt, true, page | accessed},
		{math.MaxInt, true, page | accessed},
	} {
		if got := Marked(pte.Of(page), c.kind, c.tagged); got != pte.Of(c.want) {
			t.Errorf("Marked(%d, %v) = %+v", c.kind, c.tagged, got)
		}
	}
	if got := Marked(pte.Entry{}, perm.WriteCap, true); got != (pte.Entry{Accessed: true, Dirty: true, CapDirty: true}) {
		t.Errorf("of an empty entry: %+v", got)
	}
}

// P10.3: of all entries, those with the marks among them; and no Frame changes, even one that no word has.
func TestMarkedEach(t *testing.T) {
	same := 0
	for w, e := range eachEntry {
		for _, kind := range someKinds() {
			for _, tagged := range []bool{false, true} {
				for _, frame := range []uint64{5, math.MaxUint64} {
					e.Frame = frame
					want := pte.Of(markedWord(w, kind, tagged))
					want.Frame = frame
					if got := Marked(e, kind, tagged); got != want {
						t.Fatalf("Marked(%+v, %d, %v) = %+v", e, kind, tagged, got)
					}
					if want == e {
						same++
					}
				}
			}
		}
	}
	if same == 0 {
		t.Error("no entry has its marks")
	}
}

// P10.3
func TestStrip(t *testing.T) {
	for w, e := range eachEntry {
		for _, kind := range someKinds() {
			if got := Strip(e, kind); got != (kind == 3 && w&capRead == 0) {
				t.Fatalf("Strip(%+v, %d) = %v", e, kind, got)
			}
		}
	}
	if !Strip(pte.Entry{}, perm.ReadCap) || Strip(pte.Of(page|capRead), perm.ReadCap) || Strip(pte.Of(page), perm.Read) {
		t.Error("Strip")
	}
}

// full is memory of so many frames, none of whose bytes is zero and all of whose granules have a tag; and its pages.
func full(t *testing.T, frames int) (*ram.Ram, []ram.Page) {
	t.Helper()
	r := zeros(t, frames)
	for i := range frames {
		p := ram.Page{Tags: tags.Set{math.MaxUint64, math.MaxUint64, math.MaxUint64, math.MaxUint64}}
		for k := range p.Bytes {
			p.Bytes[k] = byte((i*31+k*7+k/256)%255 + 1)
		}
		if err := r.Write(i, p); err != api.OK {
			t.Fatal("Write", err)
		}
	}
	return r, content(t, r)
}

// stored are the pages of a memory after a number was stored there; none of its granules but that one changes.
func stored(pages []ram.Page, at, w uint64) []ram.Page {
	l := slices.Clone(pages)
	p := &l[at/pageBytes]
	for i := range uint64(8) {
		p.Bytes[at%pageBytes+i] = byte(w)
		w /= 256
	}
	p.Tags = p.Tags.With(int(at%pageBytes/16), false)
	return l
}

// P10.3: what is stored, and that nothing else changes.
func TestMarkStores(t *testing.T) {
	kept, changed := 0, 0
	for _, at := range []uint64{0, 8, 16, 4088, 4096, 4104, 2*pageBytes - 8} {
		for _, w := range []uint64{0, page, page | accessed, page | accessed | dirty, page | write | accessed | dirty | capDirty, 1<<54 - 1 - 3<<8, 0x3c3ffffffffffcff} {
			for _, kind := range someKinds() {
				for _, tagged := range []bool{false, true} {
					r, want := full(t, 2)
					marked := markedWord(w, kind, tagged)
					if marked != w {
						want = stored(want, at, marked)
						changed++
					} else {
						kept++
					}
					if got := Mark(r, Found{pte.Of(w), at}, kind, tagged); got != (Found{pte.Of(marked), at}) {
						t.Errorf("Mark(%x, %x, %d, %v) = %+v", w, at, kind, tagged, got)
					}
					if !slices.Equal(content(t, r), want) {
						t.Errorf("Mark(%x, %x, %d, %v) stores something else", w, at, kind, tagged)
					}
				}
			}
		}
	}
	if kept == 0 || changed == 0 {
		t.Errorf("%d are kept, %d are changed", kept, changed)
	}
}

// P10.3: an entry that has its marks is not stored, so that its granule keeps what it has, even a tag.
func TestMarkSame(t *testing.T) {
	r := zeros(t, 1)
	c := capab.Cap{Tag: true, Meta: 1, Addr: 2}
	if err := r.StoreCap(32, c); err != api.OK {
		t.Fatal("StoreCap", err)
	}
	same := Found{pte.Of(page | accessed), 32}
	if got := Mark(r, same, perm.Read, true); got != same {
		t.Errorf("%+v", got)
	}
	if got, _ := r.LoadCap(32); got != c {
		t.Errorf("the granule has %+v", got)
	}
	Mark(r, same, perm.Write, true)
	if got, _ := r.LoadCap(32); got != (capab.Cap{Meta: 1, Addr: framed(0, page|accessed|dirty)}) {
		t.Errorf("the granule has %+v", got)
	}
}

// P10.3: what is stored is the Word of the entry: of a Frame that is too great, the least significant bits.
func TestMarkFrame(t *testing.T) {
	r := zeros(t, 1)
	e := pte.Entry{Valid: true, Read: true, Frame: math.MaxUint64 - 2}
	want := e
	want.Accessed = true
	if got := Mark(r, Found{e, 8}, perm.Read, false); got != (Found{want, 8}) {
		t.Errorf("%+v", got)
	}
	if w, _ := r.Load(8, 8); w != framed(1<<44-3, valid|read1|accessed) || w != pte.Word(want) {
		t.Errorf("%x", w)
	}
}

// P10.3: where no entry is, nothing is stored.
func TestMarkNoAddress(t *testing.T) {
	r, want := full(t, 2)
	ats := []uint64{2 * pageBytes, 2*pageBytes + 8, 64 * pageBytes, 1 << 32, 1 << 63, math.MaxUint64 - 7, math.MaxUint64}
	for i := range uint64(16) {
		if i%8 != 0 {
			ats = append(ats, i, pageBytes-16+i, 2*pageBytes-16+i, math.MaxUint64-16+i)
		}
	}
	for _, at := range ats {
		for _, kind := range someKinds() {
			if got := Mark(r, Found{pte.Of(page), at}, kind, true); got != (Found{pte.Of(markedWord(page, kind, true)), at}) {
				t.Errorf("Mark(%x, %d) = %+v", at, kind, got)
			}
		}
	}
	if !slices.Equal(content(t, r), want) {
		t.Error("something is stored")
	}
}

// P10.3: in no memory, nothing is an address.
func TestMarkNoMemory(t *testing.T) {
	for _, r := range []*ram.Ram{nil, {}} {
		for _, at := range []uint64{0, 8, 9, math.MaxUint64} {
			if got := Mark(r, Found{pte.Of(page), at}, perm.WriteCap, true); got != (Found{pte.Of(page | accessed | dirty | capDirty), at}) {
				t.Errorf("Mark(%x) = %+v", at, got)
			}
		}
		if r.Frames() != 0 {
			t.Error("there are frames")
		}
	}
}

// P10.4: of many entries, each is found by the addresses of its page, and by no other ones.
func TestWalkExactly(t *testing.T) {
	r := zeros(t, 8)
	some := []uint64{0, 1, 8, 255}
	lay(t, r, 0, 1, framed(1, valid))
	lay(t, r, 0, 255, framed(2, valid))
	lay(t, r, 1, 0, framed(3, valid))
	lay(t, r, 1, 255, framed(4, valid))
	lay(t, r, 2, 8, framed(5, valid))
	entries := map[uint64][2]uint64{} // of the pages: the word and where it is
	flags := uint64(0)
	for _, path := range [][3]uint64{{1, 0, 3}, {1, 255, 4}, {255, 8, 5}} {
		for _, low := range []uint64{0, 8, 255} {
			w := framed(6+flags%2, page|flags%8<<5)
			flags++
			lay(t, r, path[2], low, w)
			entries[address(path[0], path[1], low, 0)] = [2]uint64{w, path[2]*pageBytes + low*8}
		}
	}
	seen := 0
	for _, high := range some {
		for _, mid := range some {
			for _, low := range some {
				first := address(high, mid, low, 0)
				e, ok := entries[first]
				for _, offset := range []uint64{0, 1, 2048, 4095} {
					if ok {
						seen++
						finds(t, r, 0, first+offset, e[0], e[1])
					} else {
						absent(t, r, 0, first+offset)
					}
					absent(t, r, 0, first+offset+1<<38)
					absent(t, r, 0, first+offset+1<<39)
				}
			}
		}
	}
	if seen != 4*len(entries) {
		t.Errorf("%d entries are found", seen)
	}
}

// P10.4: an entry that is removed is not found any more, the one beside it still is.
func TestWalkRemoved(t *testing.T) {
	r := chain(t, chainWords())
	lay(t, r, 5, theLow+1, framed(1, page))
	lay(t, r, 5, theLow, 0)
	absent(t, r, 6, address(theHigh, theMid, theLow, 0))
	finds(t, r, 6, address(theHigh, theMid, theLow+1, 0), framed(1, page), 5*pageBytes+(theLow+1)*8)
	lay(t, r, 2, theMid, 0)
	absent(t, r, 6, address(theHigh, theMid, theLow+1, 0))
}

// P10.4
func TestAcceptedAgain(t *testing.T) {
	accepted := 0
	for _, e := range eachEntry {
		for _, kind := range someKinds() {
			for i := range 4 {
				tagged, of := i&1 != 0, i&2 != 0
				if Check(e, kind, tagged, of) != Fine {
					continue
				}
				accepted++
				m := Marked(e, kind, tagged)
				if got := Check(m, kind, tagged, of); got != Fine {
					t.Errorf("Check(%+v, %d, %v, %v) = %d after marking", m, kind, tagged, of, got)
				}
				if pte.Right(m) != pte.Right(e) || Strip(m, kind) != Strip(e, kind) || Marked(m, kind, tagged) != m {
					t.Errorf("marking turns %+v into %+v", e, m)
				}
			}
		}
	}
	if accepted == 0 {
		t.Error("nothing is accepted")
	}
}

// P10.4: a walk finds the marked entry, and the access is accepted again.
func TestWalkMarked(t *testing.T) {
	va := address(theHigh, theMid, theLow, 77)
	for _, flags := range []uint64{page, page | exec, page | write, page | write | capWrite | capRead, page | capRead | gen} {
		for kind := range 5 {
			for i := range 4 {
				tagged, of := i&1 != 0, i&2 != 0
				words := chainWords()
				words[2] = framed(3, flags)
				r := chain(t, words)
				f, fault := Walk(r, 6, va)
				if fault != Fine {
					t.Fatal(f, fault)
				}
				before := Check(f.Entry, kind, tagged, of)
				marked := Mark(r, f, kind, tagged)
				if again, fault := Walk(r, 6, va); again != marked || fault != Fine {
					t.Errorf("the walk finds %+v, %d, not %+v", again, fault, marked)
				}
				if got := Check(marked.Entry, kind, tagged, of); got != before {
					t.Errorf("Check is %d, was %d", got, before)
				}
				if again := Mark(r, marked, kind, tagged); again != marked {
					t.Errorf("marked twice: %+v, not %+v", again, marked)
				}
				finds(t, r, 6, va, markedWord(words[2], kind, tagged), 5*pageBytes+theLow*8)
			}
		}
	}
}
