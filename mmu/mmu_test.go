package mmu

import (
	"math"
	"slices"
	"testing"

	"mintmark/api"
	"mintmark/perm"
	"mintmark/pte"
	"mintmark/ram"
	"mintmark/tlb"
	"mintmark/walk"
)

const pageBytes = 4096

// The bits of an entry's word, as chapter 9 lists them.
const (
	valid    = 1 << 0
	read1    = 1 << 1
	write    = 1 << 2
	exec     = 1 << 3
	user     = 1 << 4
	global   = 1 << 5
	accessed = 1 << 6
	dirty    = 1 << 7
	capWrite = 1 << 58
	capRead  = 1 << 59
	capDirty = 1 << 60
	gen      = 1 << 61
	page     = valid | read1 | user
	full     = page | write | exec | capWrite | capRead
	marks    = accessed | dirty | capDirty
)

// The answers of Translate and of Plain, as the document numbers them.
const (
	fine    = 0
	absent  = 1
	denied  = 2
	barrier = 3
	noStore = 4
)

// Where the tables of world are: those of the levels 2, 1 and 0. No other frame is one.
const (
	rootFrame, midFrame, lowFrame = 6, 2, 5
	memoryFrames                  = 12
)

// framed is the word of an entry with that Frame and those flags.
func framed(frame, flags uint64) uint64 { return frame*1024 + flags }

// zeros is memory of so many frames, of zero bytes.
func zeros(t *testing.T, frames int) *ram.Ram {
	t.Helper()
	r, err := ram.New(frames)
	if err != api.OK {
		t.Fatalf("New(%d): %d", frames, err)
	}
	return r
}

// lay stores a word as an entry of the table in a frame.
func lay(t *testing.T, r *ram.Ram, table, index, w uint64) {
	t.Helper()
	if err := r.Store(table*pageBytes+index*8, 8, w); err != api.OK {
		t.Fatalf("Store of entry %d of the table %d: %d", index, table, err)
	}
}

// laid is the word of an entry of the table in a frame.
func laid(t *testing.T, r *ram.Ram, table, index uint64) uint64 {
	t.Helper()
	w, err := r.Load(table*pageBytes+index*8, 8)
	if err != api.OK {
		t.Fatalf("Load of entry %d of the table %d: %d", index, table, err)
	}
	return w
}

// world is memory whose pages have these words, and the others of the first 512 none.
func world(t *testing.T, pages map[uint64]uint64) *ram.Ram {
	t.Helper()
	r := zeros(t, memoryFrames)
	lay(t, r, rootFrame, 0, framed(midFrame, valid))
	lay(t, r, midFrame, 0, framed(lowFrame, valid))
	for number, w := range pages {
		lay(t, r, lowFrame, number, w)
	}
	return r
}

// unit is one that has the tables of world.
func unit(asid uint64, lines ...tlb.Line) *Unit {
	u := &Unit{Root: rootFrame, Asid: asid}
	for _, l := range lines {
		u.Put(l)
	}
	return u
}

// line is the line for an entry of world with that word.
func line(asid, number, w uint64) tlb.Line {
	return tlb.Line{Asid: asid, Number: number, Found: walk.Found{Entry: pte.Of(w), At: lowFrame*pageBytes + 8*number}}
}

// content is all that the memory has.
func content(t *testing.T, r *ram.Ram) []ram.Page {
	t.Helper()
	var l []ram.Page
	for i := range r.Frames() {
		p, err := r.Read(i)
		if err != api.OK {
			t.Fatalf("Read(%d): %d", i, err)
		}
		l = append(l, p)
	}
	return l
}

// translator is Translate or Plain.
type translator = func(u *Unit, r *ram.Ram, va uint64, kind int, tagged bool) (Place, int)

func translators() map[string]translator {
	return map[string]translator{"Translate": (*Unit).Translate, "Plain": (*Unit).Plain}
}

// is reports an error if an answer is not that Place and fine.
func is(t *testing.T, what string, got Place, fault int, at uint64, strip bool) {
	t.Helper()
	if want := (Place{At: at, Strip: strip}); got != want || fault != fine {
		t.Errorf("%s: %+v, %d, want %+v, 0", what, got, fault, want)
	}
}

// fails reports an error if an answer is not that fault, without a Place.
func fails(t *testing.T, what string, got Place, fault, want int) {
	t.Helper()
	if got != (Place{}) || fault != want {
		t.Errorf("%s: %+v, %d, want nothing, %d", what, got, fault, want)
	}
}

// reads translates for Read, for which each Place is without Strip.
func reads(t *testing.T, what string, u *Unit, r *ram.Ram, va, at uint64) {
	t.Helper()
	p, fault := u.Translate(r, va, perm.Read, false)
	is(t, what, p, fault, at, false)
}

// has reports an error if the unit does not have exactly these lines, in this order.
func has(t *testing.T, what string, u *Unit, want ...tlb.Line) {
	t.Helper()
	if got := u.Lines(); !slices.Equal(got, want) {
		t.Errorf("%s: the lines are %+v, want %+v", what, got, want)
	}
}

// unchanged does something, and reports an error if the memory or the unit is not as before.
func unchanged(t *testing.T, what string, u *Unit, r *ram.Ram, do func()) {
	t.Helper()
	before, pages := Unit{}, content(t, r)
	if u != nil {
		before = *u
	}
	do()
	if u != nil && *u != before {
		t.Errorf("%s changes the unit: %+v, it was %+v", what, u.Lines(), before.Lines())
	}
	if !slices.Equal(content(t, r), pages) {
		t.Errorf("%s changes the memory", what)
	}
}

// someKinds are all kinds of perm, and numbers that are none.
func someKinds() []int {
	return []int{perm.Fetch, perm.Read, perm.Write, perm.ReadCap, perm.WriteCap, -1, 5, 1 << 32, math.MinInt, math.MaxInt}
}

// noAddresses are addresses that are not translated: the least and the greatest of them, and some that have another one's indices.
func noAddresses() []uint64 {
	return []uint64{1 << 38, 1<<38 + 4095, 1<<38 + 3*pageBytes, 1 << 39, 1 << 48, 1<<63 + 3*pageBytes, 1 << 63, math.MaxUint64 - 4095, math.MaxUint64}
}

// markedWord is a word after such an access.
func markedWord(w uint64, kind int, tagged bool) uint64 {
	w |= accessed
	if kind == 2 || kind == 4 {
		w |= dirty
	}
	if kind == 4 && tagged {
		w |= capDirty
	}
	return w
}

// The types: a unit is a value whose buffer is one of its fields and whose methods are the buffer's, too.
func TestTypes(t *testing.T) {
	if perm.Fetch != 0 || perm.Read != 1 || perm.Write != 2 || perm.ReadCap != 3 || perm.WriteCap != 4 {
		t.Error("kinds")
	}
	if walk.Fine != fine || walk.Absent != absent || walk.Denied != denied || walk.Barrier != barrier || walk.NoStore != noStore {
		t.Error("answers")
	}
	if p := (Place{8, true}); p != (Place{At: 8, Strip: true}) {
		t.Errorf("a Place is %v", p)
	}
	u := Unit{Tlb: tlb.Tlb{}, Root: 1, Asid: 2, Gen: true}
	var buffer interface {
		Look(asid, number uint64) (tlb.Line, bool)
		Put(l tlb.Line)
		Drop(asid, number uint64)
		Flush(asid uint64)
		Clear()
		Evict(place int)
		Lines() []tlb.Line
	} = &u
	l := line(2, 3, page)
	buffer.Put(l)
	if got, ok := u.Tlb.Look(2, 3); got != l || !ok || !slices.Equal(buffer.Lines(), []tlb.Line{l}) {
		t.Errorf("the buffer has %+v", u.Tlb.Lines())
	}
	v := u
	buffer.Evict(0)
	has(t, "after Evict", &u)
	has(t, "a copy", &v, l)
	if u != (Unit{Root: 1, Asid: 2, Gen: true}) {
		t.Errorf("the unit is %+v", u)
	}
}

// P12.1, P12.2: nothing is translated by a nil unit.
func TestNilUnit(t *testing.T) {
	r := world(t, map[uint64]uint64{0: framed(0, full), 3: framed(7, full)})
	for name, translate := range translators() {
		unchanged(t, name, nil, r, func() {
			for _, m := range []*ram.Ram{nil, {}, r} {
				for _, kind := range someKinds() {
					for _, va := range append(noAddresses(), 0, 3*pageBytes, 1<<38-1) {
						for _, tagged := range []bool{false, true} {
							p, fault := translate(nil, m, va, kind, tagged)
							fails(t, name, p, fault, absent)
						}
					}
				}
			}
		})
	}
}

// P12.1, P12.2: a plain unit has the root in frame 0 and no lines.
func TestPlainUnit(t *testing.T) {
	for name, translate := range translators() {
		r := zeros(t, 4)
		var u Unit
		p, fault := translate(&u, r, 0, perm.Read, false)
		fails(t, name+" without tables", p, fault, absent)
		lay(t, r, 0, 0, framed(1, valid))
		lay(t, r, 1, 0, framed(2, valid))
		lay(t, r, 2, 0, framed(3, page))
		p, fault = translate(&u, r, 77, perm.Read, false)
		is(t, name, p, fault, 3*pageBytes+77, false)
	}
}

// P12.1, P12.2: where there is no memory, nothing is found.
func TestNoMemory(t *testing.T) {
	for name, translate := range translators() {
		for _, r := range []*ram.Ram{nil, {}} {
			for _, root := range []uint64{0, rootFrame, math.MaxUint64} {
				u := unit(1)
				u.Root = root
				for _, kind := range someKinds() {
					for _, va := range append(noAddresses(), 0, 1<<38-1) {
						p, fault := translate(u, r, va, kind, true)
						fails(t, name, p, fault, absent)
					}
				}
				has(t, name, u)
			}
		}
	}
}

// P12.1, P12.2: each fault of a walk, for all kinds and generations; and nothing changes, as there was no line.
func TestWalkFaults(t *testing.T) {
	const va = 3*pageBytes + 5
	good := [3]uint64{framed(midFrame, valid), framed(lowFrame, valid), framed(7, full)}
	for what, wrong := range map[string]struct {
		level int
		w     uint64
	}{
		"level 2 is empty":           {2, 0},
		"level 2 is not Valid":       {2, framed(midFrame, 0)},
		"level 2 has marks":          {2, framed(midFrame, valid|accessed)},
		"level 2 is Leaf":            {2, framed(midFrame, page)},
		"level 2 has no such frame":  {2, framed(memoryFrames, valid)},
		"level 1 is empty":           {1, 0},
		"level 1 is not Valid":       {1, framed(lowFrame, 0)},
		"level 1 has User":           {1, framed(lowFrame, valid|user)},
		"level 1 is Leaf":            {1, framed(lowFrame, page)},
		"level 1 has no such frame":  {1, framed(1<<44-1, valid)},
		"level 0 is empty":           {0, 0},
		"level 0 is not Valid":       {0, framed(7, full-valid)},
		"level 0 is a table's":       {0, framed(7, valid)},
		"Write without Read":         {0, framed(7, valid|write|user)},
		"CapWrite without Write":     {0, framed(7, page|capWrite)},
		"CapRead without Read":       {0, framed(7, valid|exec|user|capRead)},
		"level 0 has no such frame":  {0, framed(memoryFrames, full)},
		"level 0 has a far frame":    {0, framed(1<<44-1, full)},
		"level 0 has just no frames": {0, framed(64, full)},
	} {
		words := good
		words[2-wrong.level] = wrong.w
		r := zeros(t, memoryFrames)
		lay(t, r, rootFrame, 0, words[0])
		lay(t, r, midFrame, 0, words[1])
		lay(t, r, lowFrame, 3, words[2])
		u := unit(1, line(1, 4, framed(8, full)), line(2, 3, framed(8, full)))
		faultsOnce(t, what, u, r, va, absent)
	}
}

// faultsOnce reports an error if there is not that fault for each kind and generation, or if something changes.
func faultsOnce(t *testing.T, what string, u *Unit, r *ram.Ram, va uint64, want int) {
	t.Helper()
	for name, translate := range translators() {
		for _, u.Gen = range []bool{false, true} {
			for _, kind := range someKinds() {
				for _, tagged := range []bool{false, true} {
					unchanged(t, name+", "+what, u, r, func() {
						p, fault := translate(u, r, va, kind, tagged)
						fails(t, name+", "+what, p, fault, want)
					})
				}
			}
		}
	}
}

// P12.1, P12.2: the Root may be any number; there is a table only in a frame that exists.
func TestRoot(t *testing.T) {
	r := world(t, map[uint64]uint64{3: framed(7, full)})
	for _, root := range []uint64{memoryFrames, 64, 1 << 32, 1<<52 + rootFrame, 1 << 52, 1<<63 + rootFrame, math.MaxUint64} {
		u := unit(1)
		u.Root = root
		faultsOnce(t, "no such root", u, r, 3*pageBytes, absent)
	}
	for _, root := range []uint64{0, 1, lowFrame, memoryFrames - 1} {
		u := unit(1)
		u.Root = root
		faultsOnce(t, "no tables there", u, r, 3*pageBytes, absent)
	}
	// The last frame may have the root.
	lay(t, r, memoryFrames-1, 0, framed(midFrame, valid))
	u := unit(1)
	u.Root = memoryFrames - 1
	p, fault := u.Plain(r, 3*pageBytes, perm.Read, false)
	is(t, "Plain", p, fault, 7*pageBytes, false)
	reads(t, "Translate", u, r, 3*pageBytes, 7*pageBytes)
}

// P12.1, P12.2: each fault of a check, and what is no fault.
func TestCheckFaults(t *testing.T) {
	for _, c := range []struct {
		flags       uint64
		kind        int
		tagged, gen bool
		want        int
	}{
		{full - user, perm.Fetch, false, false, denied},
		{full - user, perm.Read, false, false, denied},
		{full - user, perm.Write, false, false, denied},
		{full - user, perm.ReadCap, false, true, denied},
		{full - user - capWrite, perm.WriteCap, true, false, denied},
		{full - exec, perm.Fetch, false, false, denied},
		{page, perm.Fetch, true, true, denied},
		{valid | exec | user, perm.Read, false, false, denied},
		{valid | exec | user, perm.ReadCap, false, true, denied},
		{page, perm.Write, false, false, denied},
		{page, perm.WriteCap, false, false, denied},
		{page, perm.WriteCap, true, true, denied},
		{full, -1, false, false, denied},
		{full, 5, true, false, denied},
		{full, math.MinInt, false, false, denied},
		{full, math.MaxInt, false, false, denied},
		{full | gen | marks, 5, true, true, denied},
		{full, perm.ReadCap, false, true, barrier},
		{full | gen, perm.ReadCap, false, false, barrier},
		{full | gen | marks, perm.ReadCap, true, false, barrier},
		{page | write, perm.WriteCap, true, false, noStore},
		{page | write | capRead | gen | marks, perm.WriteCap, true, false, noStore},
		{valid | exec | user, perm.Fetch, true, true, fine},
		{page, perm.Read, true, true, fine},
		{page, perm.ReadCap, false, true, fine},
		{page | gen, perm.ReadCap, false, false, fine},
		{page | write, perm.Write, true, false, fine},
		{page | write, perm.WriteCap, false, false, fine},
		{full, perm.Fetch, false, true, fine},
		{full, perm.Read, false, true, fine},
		{full, perm.Write, false, true, fine},
		{full, perm.ReadCap, true, false, fine},
		{full | gen, perm.ReadCap, true, true, fine},
		{full | gen, perm.WriteCap, true, false, fine},
		{full, perm.WriteCap, false, true, fine},
	} {
		for name, translate := range translators() {
			r := world(t, map[uint64]uint64{3: framed(7, c.flags)})
			u := unit(1, line(1, 4, framed(8, full)), line(2, 3, framed(8, full)))
			u.Gen = c.gen
			if c.want == fine {
				p, fault := translate(u, r, 3*pageBytes+1, c.kind, c.tagged)
				is(t, name, p, fault, 7*pageBytes+1, c.kind == perm.ReadCap && c.flags&capRead == 0)
				continue
			}
			unchanged(t, name, u, r, func() {
				p, fault := translate(u, r, 3*pageBytes+1, c.kind, c.tagged)
				fails(t, name, p, fault, c.want)
			})
		}
	}
}

// eachFlags are some words of a page's entry for each set of flags, those that are not well-formed among them.
func eachFlags(yield func(flags uint64) bool) {
	bits := []uint64{read1, write, exec, user, accessed, dirty, capWrite, capRead, capDirty, gen}
	for set := range 1 << len(bits) {
		flags := uint64(valid)
		for i, bit := range bits {
			if set>>i&1 != 0 {
				flags |= bit
			}
		}
		if !yield(flags) {
			return
		}
	}
}

// P12.1, P12.2: for all flags, the answer is that of the walk, then that of the check; what Translate leaves follows from it.
func TestEachEntry(t *testing.T) {
	const va, number = 7*pageBytes + 0xabc, 7
	r := world(t, nil)
	counts := map[int]int{}
	for flags := range eachFlags {
		for _, kind := range []int{0, 1, 2, 3, 4, 5} {
			for i := range 4 {
				u := unit(9)
				tagged := i&1 != 0
				u.Gen = i&2 != 0
				w := framed(3, flags)
				lay(t, r, lowFrame, number, w)
				want, place := absent, Place{}
				if e := pte.Of(w); pte.Right(e) && pte.Leaf(e) {
					want = walk.Check(e, kind, tagged, u.Gen)
				}
				left, lines := w, []tlb.Line(nil)
				if want == fine {
					place = Place{3*pageBytes + 0xabc, kind == 3 && flags&capRead == 0}
					left = markedWord(w, kind, tagged)
					lines = []tlb.Line{line(9, number, left)}
				}
				counts[want]++
				if p, fault := u.Plain(r, va, kind, tagged); p != place || fault != want || laid(t, r, lowFrame, number) != w || len(u.Lines()) != 0 {
					t.Fatalf("Plain of %x, kind %d, %v, Gen %v: %+v, %d", w, kind, tagged, u.Gen, p, fault)
				}
				if p, fault := u.Translate(r, va, kind, tagged); p != place || fault != want || laid(t, r, lowFrame, number) != left || !slices.Equal(u.Lines(), lines) {
					t.Fatalf("Translate of %x, kind %d, %v, Gen %v: %+v, %d, leaves %x and %+v", w, kind, tagged, u.Gen, p, fault, laid(t, r, lowFrame, number), u.Lines())
				}
			}
		}
	}
	if len(counts) != 5 {
		t.Errorf("the answers are %v", counts)
	}
}

// P12.1, P12.2: the place of each offset, in each frame; the page may be a table, too.
func TestPlaces(t *testing.T) {
	for name, translate := range translators() {
		for frame := range uint64(memoryFrames) {
			for _, offset := range []uint64{0, 1, 15, 16, 2048, 4080, 4094, 4095} {
				for _, kind := range []int{perm.Fetch, perm.Read, perm.Write, perm.ReadCap, perm.WriteCap} {
					r := world(t, map[uint64]uint64{3: framed(frame, full), 4: framed(frame, full-capRead)})
					p, fault := translate(unit(1), r, 3*pageBytes+offset, kind, true)
					is(t, name, p, fault, frame*pageBytes+offset, false)
					p, fault = translate(unit(1), r, 4*pageBytes+offset, kind, true)
					is(t, name+" without CapRead", p, fault, frame*pageBytes+offset, kind == perm.ReadCap)
				}
			}
		}
	}
}

// P12.1, P12.2: the least and the greatest address of all, and those beside a page.
func TestEnds(t *testing.T) {
	for name, translate := range translators() {
		r := world(t, map[uint64]uint64{0: framed(3, page), 511: framed(4, page)})
		lay(t, r, rootFrame, 255, framed(midFrame, valid))
		lay(t, r, midFrame, 511, framed(lowFrame, valid))
		for _, c := range []struct{ va, at uint64 }{
			{0, 3 * pageBytes}, {4095, 3*pageBytes + 4095}, {511 * pageBytes, 4 * pageBytes},
			{1<<38 - 1, 4*pageBytes + 4095}, {1<<38 - pageBytes, 4 * pageBytes},
		} {
			p, fault := translate(unit(1), r, c.va, perm.Read, false)
			is(t, name, p, fault, c.at, false)
		}
		for _, va := range append(noAddresses(), pageBytes, 511*pageBytes-1, 512*pageBytes, 1<<38-pageBytes-1) {
			p, fault := translate(unit(1), r, va, perm.Read, false)
			fails(t, name, p, fault, absent)
		}
	}
}

// P12.1: Plain goes by the tables, whatever the lines are, and changes nothing.
func TestPlainWithLines(t *testing.T) {
	r := world(t, map[uint64]uint64{3: framed(7, full), 4: framed(8, page)})
	for _, l := range [][]tlb.Line{
		{line(1, 3, framed(9, full|marks)), line(1, 4, framed(9, full|marks)), line(1, 7, framed(9, full|marks))},
		{line(1, 3, 0), line(1, 4, 0)},
		{line(1, 3, framed(7, full)), line(1, 4, framed(8, page|accessed))},
	} {
		u := unit(1, l...)
		unchanged(t, "Plain", u, r, func() {
			p, fault := u.Plain(r, 3*pageBytes+9, perm.WriteCap, true)
			is(t, "Plain", p, fault, 7*pageBytes+9, false)
			p, fault = u.Plain(r, 4*pageBytes+9, perm.ReadCap, false)
			is(t, "Plain, to be stripped", p, fault, 8*pageBytes+9, true)
			p, fault = u.Plain(r, 4*pageBytes+9, perm.Write, false)
			fails(t, "Plain, to be denied", p, fault, denied)
			p, fault = u.Plain(r, 7*pageBytes+9, perm.Read, false)
			fails(t, "Plain of a page with a line alone", p, fault, absent)
		})
	}
}

// P12.2: such addresses are not translated, even with lines for their pages, and these stay.
func TestTranslateMay(t *testing.T) {
	r := world(t, map[uint64]uint64{0: framed(3, full), 3: framed(7, full), 511: framed(8, full)})
	for _, va := range noAddresses() {
		for _, w := range []uint64{framed(9, full|marks), framed(9, full), 0} {
			u := unit(1, line(1, va/pageBytes, w), line(1, va/pageBytes+4, w))
			for _, kind := range someKinds() {
				unchanged(t, "Translate", u, r, func() {
					p, fault := u.Translate(r, va, kind, true)
					fails(t, "Translate", p, fault, absent)
				})
			}
		}
	}
}

// P12.2: what is looked up is marked in memory and kept as a line; nothing else changes.
func TestTranslateKeeps(t *testing.T) {
	for _, c := range []struct {
		kind   int
		tagged bool
		marks  uint64
	}{
		{perm.Fetch, false, accessed},
		{perm.Fetch, true, accessed},
		{perm.Read, false, accessed},
		{perm.Read, true, accessed},
		{perm.Write, false, accessed | dirty},
		{perm.Write, true, accessed | dirty},
		{perm.ReadCap, false, accessed},
		{perm.ReadCap, true, accessed},
		{perm.WriteCap, false, accessed | dirty},
		{perm.WriteCap, true, accessed | dirty | capDirty},
	} {
		for _, before := range []uint64{0, accessed, dirty, accessed | dirty, capDirty, accessed | dirty | capDirty} {
			for _, number := range []uint64{0, 3, 511} {
				w := framed(7, full|global|before)
				r := world(t, map[uint64]uint64{number: w, 5: framed(8, full)})
				want := content(t, world(t, map[uint64]uint64{number: w | c.marks, 5: framed(8, full)}))
				others := []tlb.Line{line(1, 5, framed(8, full)), line(2, number, framed(9, full))}
				u := unit(1, others...)
				p, fault := u.Translate(r, number*pageBytes+1, c.kind, c.tagged)
				is(t, "Translate", p, fault, 7*pageBytes+1, false)
				if !slices.Equal(content(t, r), want) {
					t.Errorf("kind %d, %v turns %x into %x, or changes something else", c.kind, c.tagged, w, laid(t, r, lowFrame, number))
				}
				if *u != *unit(1, append(others, line(1, number, w|c.marks))...) {
					t.Errorf("kind %d, %v: the lines are %+v", c.kind, c.tagged, u.Lines())
				}
			}
		}
	}
}

// P12.2: the marks of several accesses add up, in memory and in the line.
func TestMarksAddUp(t *testing.T) {
	r := world(t, map[uint64]uint64{3: framed(7, full)})
	u := unit(1)
	for _, c := range []struct {
		kind   int
		tagged bool
		flags  uint64
	}{
		{perm.Fetch, false, accessed},
		{perm.Read, false, accessed},
		{perm.WriteCap, false, accessed | dirty},
		{perm.ReadCap, true, accessed | dirty},
		{perm.Write, true, accessed | dirty},
		{perm.WriteCap, true, marks},
		{perm.Write, false, marks},
		{perm.Read, false, marks},
	} {
		p, fault := u.Translate(r, 3*pageBytes, c.kind, c.tagged)
		is(t, "Translate", p, fault, 7*pageBytes, false)
		w := framed(7, full|c.flags)
		if got := laid(t, r, lowFrame, 3); got != w {
			t.Errorf("after kind %d, %v: %x, want %x", c.kind, c.tagged, got, w)
		}
		has(t, "after an access", u, line(1, 3, w))
	}
}

// The chapter's example.
func TestExample(t *testing.T) {
	r := world(t, map[uint64]uint64{3: framed(7, page)})
	u := unit(1)
	reads(t, "looked up", u, r, 3*pageBytes, 7*pageBytes)
	lay(t, r, lowFrame, 3, 0)
	reads(t, "without an entry", u, r, 3*pageBytes+5, 7*pageBytes+5)
	p, fault := u.Plain(r, 3*pageBytes, perm.Read, false)
	fails(t, "Plain", p, fault, absent)
	u.Drop(1, 3)
	p, fault = u.Translate(r, 3*pageBytes, perm.Read, false)
	fails(t, "after Drop", p, fault, absent)
	has(t, "after Drop", u)
}

// P12.2: a line whose entry has its marks is enough: there is no look at the tables, and nothing changes.
func TestLineIsEnough(t *testing.T) {
	removed := world(t, nil)
	replaced := world(t, map[uint64]uint64{3: framed(8, full|gen)})
	refused := world(t, map[uint64]uint64{3: framed(7, valid|read1)})
	untabled := world(t, map[uint64]uint64{3: framed(7, full)})
	lay(t, untabled, rootFrame, 0, 0)
	for _, c := range []struct {
		kind   int
		tagged bool
		flags  uint64 // those that the line must have
	}{
		{perm.Fetch, true, accessed},
		{perm.Read, true, accessed},
		{perm.ReadCap, true, accessed},
		{perm.Write, true, accessed | dirty},
		{perm.WriteCap, false, accessed | dirty},
		{perm.WriteCap, true, accessed | dirty | capDirty},
	} {
		for _, flags := range []uint64{c.flags, marks} {
			for _, caps := range []uint64{0, capRead} {
				w := framed(9, full-capRead+caps+flags)
				for _, r := range []*ram.Ram{removed, replaced, refused, untabled, zeros(t, 1), nil, {}} {
					u := unit(1, line(1, 3, w), line(1, 7, w), line(2, 4, w))
					unchanged(t, "Translate", u, r, func() {
						p, fault := u.Translate(r, 3*pageBytes+11, c.kind, c.tagged)
						is(t, "by the line", p, fault, 9*pageBytes+11, c.kind == perm.ReadCap && caps == 0)
					})
				}
			}
		}
	}
}

// P12.2: for a page with such a line, the Root makes no difference.
func TestLineWithoutRoot(t *testing.T) {
	r := world(t, nil)
	for _, root := range []uint64{memoryFrames, 64, math.MaxUint64} {
		u := unit(1, line(1, 3, framed(7, page|accessed)), line(1, 7, framed(8, page)))
		u.Root = root
		reads(t, "by the line", u, r, 3*pageBytes+1, 7*pageBytes+1)
		// The entry of the other line is to be marked, for which there is no table.
		p, fault := u.Translate(r, 7*pageBytes+1, perm.Read, false)
		fails(t, "no such root", p, fault, absent)
		has(t, "no such root", u, line(1, 3, framed(7, page|accessed)))
	}
}

// P12.2: lines may have any entry; what one says of the frame is what counts.
func TestAnyLine(t *testing.T) {
	r := world(t, map[uint64]uint64{3: framed(7, full)})
	for _, c := range []struct{ frame, offset, at uint64 }{
		{memoryFrames, 5, memoryFrames*pageBytes + 5},
		{1<<44 - 1, 4095, 1<<56 - 1},
		{1 << 44, 0, 1 << 56},
		{1<<52 - 1, 4095, math.MaxUint64},
		{1<<52 + 3, 1, 3*pageBytes + 1},
		{math.MaxUint64, 0, math.MaxUint64 - 4095},
		{math.MaxUint64, 4095, math.MaxUint64},
	} {
		e := pte.Of(full | accessed)
		e.Frame = c.frame
		u := unit(1, tlb.Line{Asid: 1, Number: 3, Found: walk.Found{Entry: e, At: math.MaxUint64}})
		unchanged(t, "Translate", u, r, func() {
			reads(t, "by the line", u, r, 3*pageBytes+c.offset, c.at)
		})
	}
	// An entry that is not well-formed is no obstacle; one that is no page's is.
	u := unit(1, line(1, 3, framed(9, valid|write|user|marks)), line(1, 4, framed(9, full|marks)-valid), line(1, 5, framed(9, valid|user|marks)), line(1, 6, 0))
	unchanged(t, "Translate", u, r, func() {
		p, fault := u.Translate(r, 3*pageBytes, perm.Write, false)
		is(t, "Write without Read", p, fault, 9*pageBytes, false)
		for _, number := range []uint64{4, 5, 6} {
			p, fault = u.Translate(r, number*pageBytes, perm.Read, false)
			fails(t, "a line that is no page's", p, fault, absent)
		}
	})
}

// P12.2: the fault of the line's entry is returned, though the tables have a better one by now.
func TestLineRefused(t *testing.T) {
	for _, c := range []struct {
		flags  uint64
		kind   int
		tagged bool
		gen    bool
		want   int
	}{
		{0, perm.Read, false, false, absent},
		{full - valid, perm.Read, false, false, absent},
		{valid | user, perm.Fetch, false, false, absent},
		{full - user, perm.Read, false, false, denied},
		{page, perm.Write, false, false, denied},
		{page, perm.Fetch, false, false, denied},
		{page, perm.WriteCap, true, false, denied},
		{valid | exec | user, perm.ReadCap, false, false, denied},
		{full, 5, false, false, denied},
		{full, -1, true, true, denied},
		{full | gen, perm.ReadCap, false, false, barrier},
		{full, perm.ReadCap, false, true, barrier},
		{full - capWrite, perm.WriteCap, true, false, noStore},
	} {
		for _, flags := range []uint64{c.flags, c.flags | marks} {
			better := uint64(full)
			if c.gen {
				better |= gen
			}
			for _, pages := range []map[uint64]uint64{{3: framed(8, better)}, {3: framed(8, better|marks)}, {}} {
				r := world(t, pages)
				u := unit(1, line(1, 3, framed(8, flags)), line(1, 7, framed(9, full)))
				u.Gen = c.gen
				unchanged(t, "Translate", u, r, func() {
					p, fault := u.Translate(r, 3*pageBytes, c.kind, c.tagged)
					fails(t, "by the line", p, fault, c.want)
				})
			}
		}
	}
}

// toMark are accesses for which an entry with the flags is to be marked.
type toMark struct {
	kind   int
	tagged bool
	flags  uint64
}

func someToMark() []toMark {
	return []toMark{
		{perm.Fetch, false, 0},
		{perm.Read, false, 0},
		{perm.Read, false, dirty | capDirty},
		{perm.ReadCap, false, dirty},
		{perm.Write, false, 0},
		{perm.Write, false, accessed},
		{perm.Write, true, dirty | capDirty},
		{perm.Write, false, accessed | capDirty},
		{perm.WriteCap, false, accessed},
		{perm.WriteCap, false, dirty},
		{perm.WriteCap, true, accessed},
		{perm.WriteCap, true, accessed | dirty},
		{perm.WriteCap, true, accessed | capDirty},
		{perm.WriteCap, true, dirty | capDirty},
	}
}

// P12.2: if the line's entry is to be marked, the page is looked up again: the entry that the tables have by now counts, and its line is the last one of the set.
func TestLookedUpAgain(t *testing.T) {
	for _, c := range someToMark() {
		for _, now := range []uint64{framed(7, full|c.flags), framed(8, full), framed(8, full-capRead|marks), framed(8, full|dirty), framed(8, full|capDirty|global)} {
			r := world(t, map[uint64]uint64{3: now, 7: framed(9, full)})
			beside := line(1, 7, framed(9, full))
			u := unit(1, line(1, 3, framed(7, full|c.flags)), beside, line(2, 4, framed(9, full)))
			p, fault := u.Translate(r, 3*pageBytes+2, c.kind, c.tagged)
			is(t, "looked up again", p, fault, now/1024%(1<<44)*pageBytes+2, c.kind == perm.ReadCap && now&capRead == 0)
			w := markedWord(now, c.kind, c.tagged)
			want := world(t, map[uint64]uint64{3: w, 7: framed(9, full)})
			if !slices.Equal(content(t, r), content(t, want)) {
				t.Errorf("kind %d, %v turns %x into %x, or changes something else", c.kind, c.tagged, now, laid(t, r, lowFrame, 3))
			}
			has(t, "looked up again", u, line(2, 4, framed(9, full)), beside, line(1, 3, w))
		}
	}
}

// P12.2: if the tables have no entry by then, that is the answer, and the line of the page is gone, and no other one.
func TestLineIsGone(t *testing.T) {
	for _, c := range someToMark() {
		tabless := world(t, map[uint64]uint64{3: framed(7, full)})
		lay(t, tabless, midFrame, 0, 0)
		for _, r := range []*ram.Ram{world(t, nil), world(t, map[uint64]uint64{3: framed(7, full-valid)}), world(t, map[uint64]uint64{3: framed(memoryFrames, full)}), tabless, zeros(t, 1), nil, {}} {
			pages := content(t, r)
			others := []tlb.Line{line(1, 4, framed(9, full)), line(2, 3, framed(7, full|c.flags))}
			u := unit(1, append([]tlb.Line{line(1, 3, framed(7, full|c.flags))}, others...)...)
			for _, what := range []string{"looked up again", "and once more"} {
				p, fault := u.Translate(r, 3*pageBytes, c.kind, c.tagged)
				fails(t, what, p, fault, absent)
				if *u != *unit(1, others...) {
					t.Errorf("%s: the lines are %+v", what, u.Lines())
				}
			}
			if !slices.Equal(content(t, r), pages) {
				t.Error("the memory changes")
			}
		}
	}
}

// P12.2: if what is found is refused, that is the answer, and nothing changes.
func TestFoundIsRefused(t *testing.T) {
	for _, c := range []struct {
		toMark
		now  uint64
		gen  bool
		want int
	}{
		{toMark{perm.Fetch, false, 0}, full - exec, false, denied},
		{toMark{perm.Read, false, 0}, full - user, false, denied},
		{toMark{perm.Read, false, dirty}, valid | exec | user, false, denied},
		{toMark{perm.Write, false, accessed}, page, false, denied},
		{toMark{perm.Write, false, accessed}, page | marks, false, denied},
		{toMark{perm.WriteCap, true, accessed | dirty}, page, true, denied},
		{toMark{perm.WriteCap, true, accessed | dirty}, page | write, false, noStore},
		{toMark{perm.WriteCap, true, accessed}, page | write | capRead | marks, false, noStore},
		{toMark{perm.ReadCap, false, 0}, full | gen, false, barrier},
		{toMark{perm.ReadCap, true, dirty}, full | gen | marks, false, barrier},
		{toMark{perm.ReadCap, true, gen}, full, true, barrier},
	} {
		r := world(t, map[uint64]uint64{3: framed(8, c.now)})
		u := unit(1, line(1, 3, framed(7, full|c.flags)), line(1, 7, framed(9, full)), line(2, 4, framed(9, full)))
		u.Gen = c.gen
		unchanged(t, "Translate", u, r, func() {
			p, fault := u.Translate(r, 3*pageBytes, c.kind, c.tagged)
			fails(t, "looked up again", p, fault, c.want)
		})
	}
}

// P12.2: a page that another unit marked keeps these marks when it is marked again.
func TestMarksOfOthers(t *testing.T) {
	r := world(t, map[uint64]uint64{3: framed(7, full)})
	a, b := unit(1), unit(1)
	reads(t, "the first unit", a, r, 3*pageBytes, 7*pageBytes)
	p, fault := b.Translate(r, 3*pageBytes, perm.WriteCap, true)
	is(t, "the second unit", p, fault, 7*pageBytes, false)
	has(t, "the first unit", a, line(1, 3, framed(7, full|accessed)))
	p, fault = a.Translate(r, 3*pageBytes, perm.Write, false)
	is(t, "the first unit, again", p, fault, 7*pageBytes, false)
	has(t, "the first unit, again", a, line(1, 3, framed(7, full|marks)))
	if w := laid(t, r, lowFrame, 3); w != framed(7, full|marks) {
		t.Errorf("the entry is %x", w)
	}
}

// P12.2: a line is of one Asid: another one has its own, for the same page.
func TestAsids(t *testing.T) {
	const other = 9 // the frame of another root, with other tables
	asids := []uint64{0, 1, 2, 1 << 32, 1<<32 + 1, 1 << 63, 1<<63 + 1, math.MaxUint64}
	for _, a := range asids {
		for _, b := range asids {
			if a == b {
				continue
			}
			r := world(t, map[uint64]uint64{3: framed(7, page)})
			lay(t, r, other, 0, framed(10, valid))
			lay(t, r, 10, 0, framed(11, valid))
			lay(t, r, 11, 3, framed(8, page|write))
			u := unit(a)
			reads(t, "the first Asid", u, r, 3*pageBytes, 7*pageBytes)
			u.Root, u.Asid = other, b
			reads(t, "the second Asid", u, r, 3*pageBytes, 8*pageBytes)
			theirs := line(b, 3, framed(8, page|write|accessed))
			theirs.Found.At = 11*pageBytes + 8*3
			has(t, "of both", u, line(a, 3, framed(7, page|accessed)), theirs)
			lay(t, r, lowFrame, 3, 0)
			lay(t, r, 11, 3, 0)
			reads(t, "the second Asid, by its line", u, r, 3*pageBytes, 8*pageBytes)
			u.Root, u.Asid = rootFrame, a
			reads(t, "the first Asid, by its line", u, r, 3*pageBytes, 7*pageBytes)
			// What is looked up again for one is no loss for the other one.
			u.Root, u.Asid = other, b
			p, fault := u.Translate(r, 3*pageBytes, perm.Write, false)
			fails(t, "the second Asid, to be marked", p, fault, absent)
			has(t, "of the first Asid", u, line(a, 3, framed(7, page|accessed)))
		}
	}
}

// P12.2: a line is of one page: others with the same index in their tables have their own.
func TestNumbers(t *testing.T) {
	const high, mid, low = 1<<37 + 3*pageBytes, 1<<29 + 3*pageBytes, 3 * pageBytes
	r := world(t, map[uint64]uint64{3: framed(7, page)})
	lay(t, r, midFrame, 256, framed(8, valid))
	lay(t, r, 8, 3, framed(10, page))
	lay(t, r, rootFrame, 128, framed(9, valid))
	lay(t, r, 9, 0, framed(lowFrame, valid))
	u := unit(1)
	reads(t, "the first page", u, r, low, 7*pageBytes)
	reads(t, "one of another lowest table", u, r, mid, 10*pageBytes)
	ofMid := tlb.Line{Asid: 1, Number: mid / pageBytes, Found: walk.Found{Entry: pte.Of(framed(10, page|accessed)), At: 8*pageBytes + 8*3}}
	has(t, "two lines", u, line(1, 3, framed(7, page|accessed)), ofMid)
	// One entry may be that of two pages, each of which has a line for it.
	reads(t, "one with the first page's entry", u, r, high, 7*pageBytes)
	ofHigh := line(1, 3, framed(7, page|accessed))
	ofHigh.Number = high / pageBytes
	has(t, "the last two lines", u, ofMid, ofHigh)
	lay(t, r, lowFrame, 3, 0)
	p, fault := u.Translate(r, low, perm.Read, false)
	fails(t, "the first page, without a line", p, fault, absent)
	reads(t, "the other one, by its line", u, r, high, 7*pageBytes)
}

// P12.2: the line of the third page of a set takes the place of the one that was put first, even if that was of use since.
func TestThirdPage(t *testing.T) {
	r := world(t, map[uint64]uint64{3: framed(7, page), 7: framed(8, page), 11: framed(9, page|write), 4: framed(10, page)})
	u := unit(1)
	for _, number := range []uint64{4, 3, 7, 3} {
		reads(t, "one of two pages", u, r, number*pageBytes, laid(t, r, lowFrame, number)/1024*pageBytes)
	}
	four, three, seven := line(1, 4, framed(10, page|accessed)), line(1, 3, framed(7, page|accessed)), line(1, 7, framed(8, page|accessed))
	has(t, "two pages", u, four, three, seven)
	reads(t, "the third page", u, r, 11*pageBytes, 9*pageBytes)
	has(t, "the third page", u, four, seven, line(1, 11, framed(9, page|write|accessed)))
	// The first page is in the tables alone now.
	lay(t, r, lowFrame, 3, framed(10, page))
	lay(t, r, lowFrame, 7, 0)
	reads(t, "the first page", u, r, 3*pageBytes, 10*pageBytes)
	has(t, "the first page", u, four, line(1, 11, framed(9, page|write|accessed)), line(1, 3, framed(10, page|accessed)))
	// What is marked later is put again: it is the last one.
	p, fault := u.Translate(r, 11*pageBytes, perm.Write, false)
	is(t, "marked later", p, fault, 9*pageBytes, false)
	has(t, "marked later", u, four, line(1, 3, framed(10, page|accessed)), line(1, 11, framed(9, page|write|accessed|dirty)))
	// What is refused, or absent, takes no place.
	p, fault = u.Translate(r, 7*pageBytes, perm.Read, false)
	fails(t, "absent", p, fault, absent)
	lay(t, r, lowFrame, 15, framed(8, page))
	p, fault = u.Translate(r, 15*pageBytes, perm.Write, false)
	fails(t, "refused", p, fault, denied)
	has(t, "without a place", u, four, line(1, 3, framed(10, page|accessed)), line(1, 11, framed(9, page|write|accessed|dirty)))
}

// P12.2, P12.3: what is no longer in the buffer is looked up, however it came out of it.
func TestForgotten(t *testing.T) {
	for what, forget := range map[string]func(u *Unit){
		"Drop":  func(u *Unit) { u.Drop(1, 3) },
		"Flush": func(u *Unit) { u.Flush(1) },
		"Clear": func(u *Unit) { u.Clear() },
		"Evict": func(u *Unit) { u.Evict(-1) },
	} {
		r := world(t, map[uint64]uint64{3: framed(7, page)})
		u := unit(1)
		reads(t, what, u, r, 3*pageBytes, 7*pageBytes)
		lay(t, r, lowFrame, 3, framed(8, page))
		forget(u)
		reads(t, what, u, r, 3*pageBytes, 8*pageBytes)
		has(t, what, u, line(1, 3, framed(8, page|accessed)))
	}
}

// P12.2: the Gen of the unit counts when it is asked, not when the line was put.
func TestGenOfTheUnit(t *testing.T) {
	r := world(t, map[uint64]uint64{3: framed(7, full)})
	u := unit(1)
	for i := range 4 {
		p, fault := u.Translate(r, 3*pageBytes, perm.ReadCap, false)
		if u.Gen {
			fails(t, "the other Gen", p, fault, barrier)
		} else {
			is(t, "the same Gen", p, fault, 7*pageBytes, false)
		}
		reads(t, "for other kinds", u, r, 3*pageBytes, 7*pageBytes)
		has(t, "the line", u, line(1, 3, framed(7, full|accessed)))
		u.Gen = i%2 == 0
	}
}

// numbers are ones that look as if they were random, from a rule.
type numbers uint64

// below returns the next one, which is below n.
func (x *numbers) below(n int) int {
	*x = *x*6364136223846793005 + 1442695040888963407
	return int(uint64(*x) >> 33 % uint64(n))
}

// of returns one of a list.
func of[T any](x *numbers, l []T) T { return l[x.below(len(l))] }

// entry is where an entry is: in which table, with which index.
type entry struct{ table, index uint64 }

// many is a memory with the tables of two processes, one of which they share; and two units, each of which has the root, the Asid and the Gen of one of the processes. What a step changes in memory is forgotten by both units.
type many struct {
	x      numbers
	r      *ram.Ram
	units  [2]*Unit
	counts map[string]int
}

// The roots and the Asids of the processes.
var (
	manyRoots = [2]uint64{4, 9}
	manyAsids = [2]uint64{1, 1<<63 + 1}
)

// manyTables are the entries of the levels 2 and 1, and to which table each is to lead; the frame 3 has a table of both processes, which each of them finds for other pages.
func manyTables() map[entry]uint64 {
	return map[entry]uint64{{4, 0}: 1, {9, 0}: 8, {1, 0}: 0, {1, 1}: 3, {8, 0}: 3, {8, 2}: 5}
}

// manyPages are the numbers of all pages that have the index in a table; those of the indices 0, 4 and 8 are in one set.
func manyPages(index uint64) []uint64 {
	return []uint64{index, 512 + index, 1024 + index}
}

func manyIndices() []uint64 { return []uint64{0, 4, 8, 511} }

func newMany(t *testing.T, seed uint64) *many {
	t.Helper()
	m := &many{x: numbers(seed), r: zeros(t, 10), counts: map[string]int{}}
	for i := range m.units {
		m.units[i] = &Unit{}
		m.turn(m.units[i])
	}
	for e, frame := range manyTables() {
		lay(t, m.r, e.table, e.index, framed(frame, valid))
	}
	for _, table := range []uint64{0, 3, 5} {
		for _, index := range manyIndices() {
			lay(t, m.r, table, index, m.word())
		}
	}
	return m
}

// turn gives a unit a process and a Gen.
func (m *many) turn(u *Unit) {
	i := m.x.below(2)
	u.Root, u.Asid, u.Gen = manyRoots[i], manyAsids[i], m.x.below(2) == 0
}

// word is one for a page; most of them have an entry that is good for a walk.
func (m *many) word() uint64 {
	x := &m.x
	w := framed(of(x, []uint64{0, 2, 6, 7, 9}), valid|read1)
	for _, c := range []struct {
		bit  uint64
		odds int // of 8
	}{{user, 7}, {write, 6}, {exec, 3}, {capRead, 4}, {gen, 4}, {accessed, 2}, {dirty, 2}, {capDirty, 2}} {
		if x.below(8) < c.odds {
			w |= c.bit
		}
	}
	if w&write != 0 && x.below(2) == 0 {
		w |= capWrite
	}
	if x.below(8) == 0 {
		return of(x, []uint64{w - valid, w | capWrite, framed(10, w), w &^ read1, 0, math.MaxUint64})
	}
	return w
}

// changePage stores another entry for a page.
func (m *many) changePage(t *testing.T) {
	t.Helper()
	table, index := of(&m.x, []uint64{0, 3, 5}), of(&m.x, manyIndices())
	lay(t, m.r, table, index, m.word())
	how := m.x.below(8)
	for _, u := range m.units {
		if how < 2 {
			forgetAll(u, how)
			continue
		}
		for _, number := range manyPages(index) {
			for _, asid := range manyAsids {
				u.Drop(asid, number)
			}
		}
	}
}

// changeTable stores, or removes, an entry of a higher table, of which pages may be known by several ways.
func (m *many) changeTable(t *testing.T) {
	t.Helper()
	for e, frame := range manyTables() {
		lay(t, m.r, e.table, e.index, framed(frame, valid))
	}
	if m.x.below(2) == 0 {
		e := of(&m.x, []entry{{4, 0}, {9, 0}, {1, 0}, {1, 1}, {8, 0}, {8, 2}})
		lay(t, m.r, e.table, e.index, of(&m.x, []uint64{0, framed(3, valid), framed(5, valid|global), framed(10, valid), framed(3, page), framed(3, valid|user)}))
	}
	how := m.x.below(2)
	for _, u := range m.units {
		forgetAll(u, how)
	}
}

func forgetAll(u *Unit, how int) {
	if how == 0 {
		u.Clear()
		return
	}
	for _, asid := range manyAsids {
		u.Flush(asid)
	}
}

// translate compares Translate with Plain, which is asked before and after it.
func (m *many) translate(t *testing.T) {
	t.Helper()
	u := of(&m.x, m.units[:])
	number := of(&m.x, manyPages(of(&m.x, manyIndices())))
	va := number*pageBytes + of(&m.x, []uint64{0, 1, 16, 2040, 4095})
	if m.x.below(50) == 0 {
		va = of(&m.x, append(noAddresses(), va|1<<38, va|1<<50))
	}
	kind, tagged := of(&m.x, []int{0, 1, 2, 3, 3, 4, 4, -1}), m.x.below(2) == 0
	l, kept := u.Look(u.Asid, va/pageBytes)
	before, pages := *u, content(t, m.r)
	want, wantFault := u.Plain(m.r, va, kind, tagged)
	if *u != before || !slices.Equal(content(t, m.r), pages) {
		t.Fatalf("Plain(%x, %d, %v) changes something", va, kind, tagged)
	}
	p, fault := u.Translate(m.r, va, kind, tagged)
	again, againFault := u.Plain(m.r, va, kind, tagged)
	if p != want || fault != wantFault || again != want || againFault != wantFault {
		t.Fatalf("Translate(%x, %d, %v) = %+v, %d; Plain is %+v, %d before and %+v, %d after it", va, kind, tagged, p, fault, want, wantFault, again, againFault)
	}
	what := []string{"fine", "absent", "denied", "barrier", "no store"}[fault]
	switch {
	case kept && walk.Marked(l.Found.Entry, kind, tagged) != l.Found.Entry:
		what += ", to be marked"
	case kept:
		what += ", with a line"
	}
	m.counts[what]++
	if fault == fine {
		m.marked(t, u, va, kind, tagged, pages)
	} else if !slices.Equal(content(t, m.r), pages) {
		t.Fatalf("an access to %x with the fault %d changes the memory", va, fault)
	}
}

// marked reports an error if the entry or the line of an address was not marked for an access, or if something else in memory changed.
func (m *many) marked(t *testing.T, u *Unit, va uint64, kind int, tagged bool, before []ram.Page) {
	t.Helper()
	f, _ := walk.Walk(m.r, u.Root, va)
	l, kept := u.Look(u.Asid, va/pageBytes)
	if !kept || l.Found.At != f.At || walk.Marked(l.Found.Entry, kind, tagged) != l.Found.Entry {
		t.Fatalf("the line of %x is %+v, %v; the entry is %+v", va, l, kept, f)
	}
	p, at := &before[f.At/pageBytes], f.At%pageBytes
	w := uint64(0)
	for i := range uint64(8) {
		w |= uint64(p.Bytes[at+i]) << (8 * i)
	}
	if w != pte.Word(f.Entry) {
		m.counts["marked in memory"]++
	}
	w = pte.Word(pte.Of(markedWord(w, kind, tagged)))
	for i := range uint64(8) {
		p.Bytes[at+i] = byte(w >> (8 * i))
	}
	if !slices.Equal(content(t, m.r), before) {
		t.Fatalf("an access to %x, %d, %v leaves the entry %+v, or changes something else", va, kind, tagged, f)
	}
}

// P12.3: many steps in a row.
func TestManySteps(t *testing.T) {
	total := map[string]int{}
	for seed := range uint64(10) {
		m := newMany(t, seed)
		for range 1200 {
			switch n := m.x.below(64); {
			case n < 4:
				m.changePage(t)
			case n == 4:
				m.changeTable(t)
			case n < 7:
				m.turn(of(&m.x, m.units[:]))
			case n == 7:
				of(&m.x, m.units[:]).Evict(m.x.below(20) - 10)
			default:
				m.translate(t)
			}
		}
		for what, n := range m.counts {
			total[what] += n
		}
	}
	for _, what := range []string{
		"fine", "absent", "denied", "barrier", "no store", "marked in memory", "fine, with a line", "fine, to be marked",
		"denied, with a line", "denied, to be marked", "barrier, with a line", "no store, to be marked",
	} {
		if total[what] < 20 {
			t.Errorf("%s: only %d times; all: %v", what, total[what], total)
		}
	}
}
