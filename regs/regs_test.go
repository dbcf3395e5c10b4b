package regs

import (
	"math"
	"slices"
	"testing"

	"mintmark/algebra"
	"mintmark/api"
	"mintmark/capab"
	"mintmark/perm"
)

const (
	last = 31 // the register with the highest number
	pcc  = 32 // what Tagged tells the Pcc with
)

// noRegs are numbers of which nothing is read and to which nothing is put: register 0's, and those that no register has.
func noRegs() []int {
	l := []int{0, -1, 32, 33, math.MinInt, math.MinInt + 1, math.MaxInt, math.MaxInt - 1, math.MinInt32, math.MaxInt32, 1 << 16, 1 << 32}
	for n := 1; n <= last; n++ {
		l = append(l, -n, 32+n, n+1<<8, n+1<<16, n+1<<32, n-1<<8, n-1<<32, n+math.MinInt, ^n)
	}
	return l
}

// baseOf is where the span of a place's capability begins: no two places have the same one.
func baseOf(n int) uint64 { return uint64(n+1) * 4096 }

// capOf is a place's capability, with a tag: its address is not the Base, and no part of it is that of another place's.
func capOf(n int) capab.Cap {
	base := baseOf(n)
	v := capab.View{Span: api.Span{Base: base, Top: base + 64 + uint64(n)}, Perms: uint64(n) * 11 % 512, Type: uint64(n) * 40}
	c, ok := capab.Make(v, base+16+uint64(n))
	if !ok {
		panic("the test has no capability for a place")
	}
	return tagged(c)
}

// tagged is c with a tag.
func tagged(c capab.Cap) capab.Cap { return capab.Cap{Tag: true, Meta: c.Meta, Addr: c.Addr} }

// untagged is c without its tag.
func untagged(c capab.Cap) capab.Cap { return capab.Cap{Tag: false, Meta: c.Meta, Addr: c.Addr} }

// where are places of a context: at n, whether it is so at register n, and at 32 for the Pcc.
type where [33]bool

// at are these places.
func at(places ...int) where {
	var w where
	for _, n := range places {
		w[n] = true
	}
	return w
}

// everywhere is all places, register 0 too.
func everywhere() where {
	var w where
	for n := range w {
		w[n] = true
	}
	return w
}

// laid is a context that has a capability of its own at each place, register 0 too; those there have a tag.
func laid(tags where) Context {
	var c Context
	for n := range tags {
		v := capOf(n)
		v.Tag = tags[n]
		if n == pcc {
			c.Pcc = v
		} else {
			c.Regs[n] = v
		}
	}
	return c
}

// wheres are none, all, each place alone and all but it, any two, and others by a rule; with and without register 0.
func wheres() []where {
	l := []where{{}, everywhere()}
	for n := range pcc + 1 {
		most := everywhere()
		most[n] = false
		l = append(l, at(n), most, at(0, n))
		for m := n + 1; m <= pcc; m++ {
			l = append(l, at(n, m))
		}
	}
	x := numbers(16)
	for range 200 {
		var w where
		for n := range w {
			w[n] = x.next()%2 == 1
		}
		l = append(l, w)
	}
	return l
}

// numbers are by a rule, the same in each run.
type numbers uint64

func (x *numbers) next() uint64 {
	*x = *x*6364136223846793005 + 1442695040888963407
	return uint64(*x >> 32)
}

// entry is what an iterator tells.
type entry struct {
	n int
	v capab.Cap
}

// toldOf is what Tagged is to tell of a context that was laid with these tags: register 0 is not told.
func toldOf(tags where) []entry {
	var l []entry
	for n := 1; n <= pcc; n++ {
		if tags[n] {
			l = append(l, entry{n, capOf(n)})
		}
	}
	return l
}

// told is what the iterator of c tells.
func told(c Context) []entry {
	var l []entry
	for n, v := range Tagged(c) {
		l = append(l, entry{n, v})
	}
	return l
}

// odd are capabilities that no function of the layers below makes.
func odd() []capab.Cap {
	return []capab.Cap{
		{}, {Tag: true}, {Meta: math.MaxUint64, Addr: math.MaxUint64}, {Tag: true, Meta: math.MaxUint64, Addr: math.MaxUint64},
		{Tag: true, Meta: 1 << 63, Addr: 5}, {Tag: true, Addr: 1 << 60}, {Meta: 7, Addr: 1 << 63},
	}
}

// P16.1
func TestGetReturnsTheRegister(t *testing.T) {
	for _, tags := range []where{{}, everywhere()} {
		c := laid(tags)
		for n := 1; n <= last; n++ {
			want := capOf(n)
			want.Tag = tags[n]
			if got := Get(c, n); got != want {
				t.Errorf("Get(c, %d) = %v, not %v", n, got, want)
			}
		}
	}
}

// P16.1: a context can be laid with something in register 0, which is not read.
func TestGetReturnsAZeroCapabilityForNoRegister(t *testing.T) {
	for _, tags := range []where{{}, everywhere()} {
		for _, n := range noRegs() {
			if got := Get(laid(tags), n); got != (capab.Cap{}) {
				t.Errorf("Get(c, %d) = %v", n, got)
			}
		}
	}
}

// P16.1, P16.4
func TestWithPutsACapabilityIntoTheRegister(t *testing.T) {
	c := laid(everywhere())
	for n := 1; n <= last; n++ {
		for _, v := range append(odd(), capOf(100), untagged(capOf(100)), capOf(0), capOf(last)) {
			want := laid(everywhere())
			want.Regs[n] = v
			got := With(c, n, v)
			if got != want {
				t.Errorf("With(c, %d, %v) = %v", n, v, got)
			}
			if Get(got, n) != v {
				t.Errorf("register %d contains %v, not %v", n, Get(got, n), v)
			}
		}
	}
	if c != laid(everywhere()) {
		t.Error("the context that was passed has changed")
	}
}

// P16.1, P16.4
func TestSetPutsANumberIntoTheRegister(t *testing.T) {
	c := laid(everywhere())
	for n := 1; n <= last; n++ {
		for _, v := range []uint64{0, 1, 9, 4096, 1 << 48, 1 << 63, math.MaxUint64} {
			want := laid(everywhere())
			want.Regs[n] = capab.Cap{Addr: v}
			got := Set(c, n, v)
			if got != want {
				t.Errorf("Set(c, %d, %d) = %v", n, v, got)
			}
			if Get(got, n) != capab.Null(v) {
				t.Errorf("register %d contains %v, not %d", n, Get(got, n), v)
			}
		}
	}
	if c != laid(everywhere()) {
		t.Error("the context that was passed has changed")
	}
}

// P16.1
func TestNothingIsPutIntoNoRegister(t *testing.T) {
	for _, c := range []Context{{}, laid(where{}), laid(everywhere())} {
		for _, n := range noRegs() {
			if got := With(c, n, capOf(100)); got != c {
				t.Errorf("With(c, %d, v) = %v, not c", n, got)
			}
			if got := Set(c, n, 9); got != c {
				t.Errorf("Set(c, %d, 9) = %v, not c", n, got)
			}
		}
	}
}

// P16.1
func TestZeroHasNothingButThePcc(t *testing.T) {
	for _, v := range append(odd(), capOf(pcc), untagged(capOf(pcc)), capab.Null(4096)) {
		c := Zero(v)
		if c.Pcc != v {
			t.Errorf("the Pcc of Zero(%v) is %v", v, c.Pcc)
		}
		for n := range c.Regs {
			if c.Regs[n] != (capab.Cap{}) || Get(c, n) != (capab.Cap{}) {
				t.Errorf("register %d of Zero(%v) is %v", n, v, c.Regs[n])
			}
		}
	}
}

// P16.4: what was put in remains until something else is put there, whatever is put elsewhere in between.
func TestRegistersContainWhatWasPutIntoThem(t *testing.T) {
	c := Zero(capOf(pcc))
	var want [32]capab.Cap
	x := numbers(4)
	for range 5000 {
		n, v := int(x.next()%40)-4, capOf(int(x.next()%40))
		switch x.next() % 3 {
		case 0:
			v = capab.Cap{Addr: x.next()}
			c = Set(c, n, v.Addr)
		case 1:
			v = untagged(v)
			c = With(c, n, v)
		default:
			c = With(c, n, v)
		}
		if 1 <= n && n <= 31 {
			want[n] = v
		}
		if c.Regs != want || c.Pcc != capOf(pcc) {
			t.Fatalf("after %v was put into register %d, the context is %v, not of %v", v, n, c, want)
		}
	}
	for n := range want {
		if Get(c, n) != want[n] {
			t.Errorf("register %d contains %v, not %v", n, Get(c, n), want[n])
		}
	}
}

// P16.2
func TestTaggedTellsThoseWithATagInOrder(t *testing.T) {
	for _, tags := range wheres() {
		if got, want := told(laid(tags)), toldOf(tags); !slices.Equal(got, want) {
			t.Errorf("of the tags %v, it tells %v, not %v", tags, got, want)
		}
	}
}

// P16.2: by hand, so that it does not depend on what the other tests are made of.
func TestTaggedTellsThePccAsThirtyTwo(t *testing.T) {
	v := capab.Cap{Tag: true, Meta: 3 << 32, Addr: 5}
	var c Context
	if got := told(c); len(got) != 0 {
		t.Errorf("of nothing, it tells %v", got)
	}
	c.Regs[0], c.Regs[1] = v, capab.Null(7)
	if got := told(c); len(got) != 0 {
		t.Errorf("of a tag in register 0 alone, it tells %v", got)
	}
	c.Pcc = v
	if got := told(c); !slices.Equal(got, []entry{{32, v}}) {
		t.Errorf("of the Pcc, it tells %v", got)
	}
	c.Regs[31], c.Regs[1] = v, v
	if got := told(c); !slices.Equal(got, []entry{{1, v}, {31, v}, {32, v}}) {
		t.Errorf("of 1, 31 and the Pcc, it tells %v", got)
	}
}

// P16.2: it is the tag alone that counts.
func TestTaggedTellsCapabilitiesThatAreNotWellFormed(t *testing.T) {
	for n := 1; n <= pcc; n++ {
		for _, v := range odd() {
			c := laid(at(1, pcc))
			if n == pcc {
				c.Pcc = v
			} else {
				c.Regs[n] = v
			}
			var want []entry
			for m := 1; m <= pcc; m++ {
				switch {
				case m == n && v.Tag:
					want = append(want, entry{m, v})
				case m != n && (m == 1 || m == pcc):
					want = append(want, entry{m, capOf(m)})
				}
			}
			if got := told(c); !slices.Equal(got, want) {
				t.Errorf("of %v at %d, it tells %v, not %v", v, n, got, want)
			}
		}
	}
}

// P16.2
func TestTaggedCanBeEndedAtAnyOfThem(t *testing.T) {
	for _, tags := range wheres() {
		all := toldOf(tags)
		for n := 1; n <= len(all); n++ {
			var got []entry
			for r, v := range Tagged(laid(tags)) {
				got = append(got, entry{r, v})
				if len(got) == n {
					break
				}
			}
			if !slices.Equal(got, all[:n]) {
				t.Errorf("of the tags %v, ended after %d, it tells %v", tags, n, got)
			}
		}
	}
}

// P16.2: what has ended calls nothing any more.
func TestTaggedTellsNothingAfterItsEnd(t *testing.T) {
	for _, tags := range wheres() {
		for n := 1; n <= len(toldOf(tags)); n++ {
			calls := 0
			Tagged(laid(tags))(func(int, capab.Cap) bool {
				calls++
				return calls < n
			})
			if calls != n {
				t.Errorf("of the tags %v, ended after %d, it calls %d times", tags, n, calls)
			}
		}
	}
}

// P16.2: an iterator begins anew each time, also while it is under way, and tells of the context that was passed.
func TestTaggedBeginsAnew(t *testing.T) {
	for _, tags := range []where{at(1, 5, 31, pcc), everywhere()} {
		c, all := laid(tags), toldOf(tags)
		it := Tagged(c)
		collect := func() []entry {
			var l []entry
			for n, v := range it {
				l = append(l, entry{n, v})
			}
			return l
		}
		for range it {
			break
		}
		c.Regs[5], c.Regs[7], c.Pcc = capab.Cap{}, capOf(100), capab.Cap{}
		var outer []entry
		for n, v := range it {
			outer = append(outer, entry{n, v})
			if got := collect(); !slices.Equal(got, all) {
				t.Errorf("within itself at %d, it tells %v", n, got)
			}
		}
		if !slices.Equal(outer, all) {
			t.Errorf("it tells %v, not %v", outer, all)
		}
	}
}

// goneAt is the gone of these places: true for their Bases.
func goneAt(w where) func(uint64) bool {
	return func(base uint64) bool {
		for n := range w {
			if w[n] && base == baseOf(n) {
				return true
			}
		}
		return false
	}
}

// sweptOf is the context that remains of one that was laid with these tags, and how many tags it lost; register 0 is not swept.
func sweptOf(tags, gone where) (Context, int) {
	left, count := tags, 0
	for n := 1; n <= pcc; n++ {
		if tags[n] && gone[n] {
			left[n] = false
			count++
		}
	}
	return laid(left), count
}

// P16.3
func TestSweptRemovesTheTagsThatAreGone(t *testing.T) {
	l := wheres()
	for i, tags := range l {
		for _, gone := range []where{{}, everywhere(), tags, l[(i+1)%len(l)], l[len(l)-1-i], l[(i*7+3)%len(l)]} {
			c := laid(tags)
			got, n := Swept(c, goneAt(gone))
			if want, count := sweptOf(tags, gone); got != want || n != count {
				t.Errorf("of the tags %v and what is gone %v, Swept returns %v, %d, not %v, %d", tags, gone, got, n, want, count)
			}
			if c != laid(tags) {
				t.Errorf("of the tags %v, the context that was passed has changed", tags)
			}
		}
	}
}

// P16.3
func TestSweptRemovesNoneForANilGone(t *testing.T) {
	for _, tags := range wheres() {
		if got, n := Swept(laid(tags), nil); got != laid(tags) || n != 0 {
			t.Errorf("of the tags %v, it returns %v, %d", tags, got, n)
		}
	}
}

// P16.3: by hand: all, one of two, the Pcc.
func TestSweptCountsWhatItRemoves(t *testing.T) {
	c := laid(at(0, 1, 2, 3, pcc))
	all := func(uint64) bool { return true }
	if got, n := Swept(c, all); got != laid(at(0)) || n != 4 {
		t.Errorf("of all, it returns %v, %d", got, n)
	}
	if got, n := Swept(laid(everywhere()), all); got != laid(at(0)) || n != 32 {
		t.Errorf("of all there can be, it returns %v, %d", got, n)
	}
	if got, n := Swept(c, func(base uint64) bool { return base == 3*4096 }); got != laid(at(0, 1, 3, pcc)) || n != 1 {
		t.Errorf("of register 2, it returns %v, %d", got, n)
	}
	if got, n := Swept(c, func(base uint64) bool { return base == 33*4096 }); got != laid(at(0, 1, 2, 3)) || n != 1 {
		t.Errorf("of the Pcc, it returns %v, %d", got, n)
	}
	if got, n := Swept(c, func(base uint64) bool { return base == 4096 }); got != c || n != 0 {
		t.Errorf("of register 0, it returns %v, %d", got, n)
	}
}

// P16.3: gone is asked for the Bases of those with a tag alone, for neither their addresses nor those of others.
func TestSweptAsksForTheBasesOfThoseWithATag(t *testing.T) {
	for _, tags := range wheres() {
		for _, answer := range []bool{false, true} {
			var got, want []uint64
			for n := 1; n <= pcc; n++ {
				if tags[n] {
					want = append(want, baseOf(n))
				}
			}
			Swept(laid(tags), func(base uint64) bool {
				got = append(got, base)
				return answer
			})
			slices.Sort(got) // the chapter says for which ones, but not when
			if !slices.Equal(got, want) {
				t.Errorf("of the tags %v, it asks for %v, not %v", tags, got, want)
			}
		}
	}
}

// P16.3: several capabilities may have the same Base; each of them is swept, and counted.
func TestSweptRemovesAllTagsOfABase(t *testing.T) {
	whole, _ := capab.Root(api.Span{Base: 4096, Top: 8192}, perm.All)
	other, _ := capab.Root(api.Span{Base: 8192, Top: 12288}, perm.All)
	c := Zero(algebra.Enter(whole))
	c = With(c, 3, whole)
	c = With(c, 9, algebra.Move(whole, 4000))
	c = With(c, 10, algebra.Move(whole, 4096)) // its address is where the other one begins
	c = With(c, 11, other)
	c = With(c, 12, algebra.Clear(whole))
	c = With(c, 13, algebra.Bound(algebra.Move(whole, 16), 16, true)) // within it, but it begins elsewhere
	got, n := Swept(c, func(base uint64) bool { return base == 4096 })
	want := c
	want.Regs[3].Tag, want.Regs[9].Tag, want.Regs[10].Tag, want.Pcc.Tag = false, false, false, false
	if got != want || n != 4 {
		t.Errorf("Swept returns %v, %d, not %v, 4", got, n, want)
	}
}

// P16.3: the Base of what has no span is 0.
func TestSweptAsksForZeroWhereThereIsNoSpan(t *testing.T) {
	none := capab.Cap{Tag: true, Meta: capOf(5).Meta, Addr: 1 << 60}
	if _, has := capab.Look(none); has {
		t.Fatal("the test's capability has a span")
	}
	c := With(Zero(none), 5, none)
	got, n := Swept(c, func(base uint64) bool { return base == 0 })
	want := c
	want.Regs[5], want.Pcc = untagged(none), untagged(none)
	if got != want || n != 2 {
		t.Errorf("Swept returns %v, %d", got, n)
	}
}

// P16.3, rule 1: a gone that panics has not returned true.
func TestSweptReturnsWhateverGoneDoes(t *testing.T) {
	tags := at(1, 2, 3, pcc)
	got, n := Swept(laid(tags), func(base uint64) bool {
		if base == baseOf(2) {
			panic("no answer")
		}
		return true
	})
	if got != laid(at(2)) || n != 3 {
		t.Errorf("Swept returns %v, %d", got, n)
	}
	if got, n := Swept(laid(tags), func(uint64) bool { panic("no answer") }); got != laid(tags) || n != 0 {
		t.Errorf("Swept returns %v, %d", got, n)
	}
}

// P16.3: after it, what is swept by the same gone loses nothing more.
func TestSweptLeavesNothingToSweep(t *testing.T) {
	for _, tags := range wheres() {
		gone := goneAt(at(1, 5, 6, 7, 30, pcc))
		once, _ := Swept(laid(tags), gone)
		if again, n := Swept(once, gone); again != once || n != 0 {
			t.Errorf("of the tags %v, it returns %v, %d", tags, again, n)
		}
	}
}

// The chapter's example.
func TestExample(t *testing.T) {
	c, v := laid(everywhere()), capOf(100)
	if With(c, 0, v) != c {
		t.Error("With(c, 0, v) is not c")
	}
	if got := Get(Set(c, 7, 9), 7); got != (capab.Cap{Addr: 9}) {
		t.Errorf("Get(Set(c, 7, 9), 7) = %v, not Null(9)", got)
	}
}

// The constant of the document's table.
func TestThereAreThirtyTwoRegisters(t *testing.T) {
	if Count != 32 || len(Context{}.Regs) != 32 {
		t.Errorf("Count is %d, and there are %d", Count, len(Context{}.Regs))
	}
}
