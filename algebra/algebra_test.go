package algebra

import (
	"math"
	"testing"

	"mintmark/api"
	"mintmark/bounds"
	"mintmark/capab"
	"mintmark/perm"
)

const (
	all  = 1 << 48 // how many addresses there are
	last = math.MaxUint64
)

// power is 2^e, found without shifts.
func power(e int) uint64 {
	p := uint64(1)
	for range e {
		p *= 2
	}
	return p
}

// span is the one from base on with that length.
func span(base, length uint64) api.Span { return api.Span{Base: base, Top: base + length} }

// made is a capability with a tag.
func made(t *testing.T, s api.Span, perms, kind, addr uint64) capab.Cap {
	t.Helper()
	c, ok := capab.Make(capab.View{Span: s, Perms: perms, Type: kind}, addr)
	if !ok {
		t.Fatalf("the test has no capability for %v, %d, %d, %d", s, perms, kind, addr)
	}
	return tagged(c)
}

// key is an open capability for sealing and unsealing with the types of s, and has the address of one of them.
func key(t *testing.T, s api.Span, kind uint64) capab.Cap {
	t.Helper()
	return made(t, s, perm.Seal|perm.Unseal, capab.Unsealed, kind)
}

// tagged is c with a tag.
func tagged(c capab.Cap) capab.Cap { return capab.Cap{Tag: true, Meta: c.Meta, Addr: c.Addr} }

// untagged is c without its tag.
func untagged(c capab.Cap) capab.Cap { return capab.Cap{Tag: false, Meta: c.Meta, Addr: c.Addr} }

// wrong is c with a bit in its Meta that none of its parts has.
func wrong(c capab.Cap) capab.Cap { return capab.Cap{Tag: c.Tag, Meta: c.Meta | 1<<63, Addr: c.Addr} }

// permsOf and kindOf are the parts of a Meta, read without Look.
func permsOf(c capab.Cap) uint64 { return c.Meta / power(32) % 512 }
func kindOf(c capab.Cap) uint64  { return c.Meta / power(48) % 4096 }

// liveOf and openOf are the chapter's definitions.
func liveOf(c capab.Cap) bool { return c.Tag && capab.Right(c) }
func openOf(c capab.Cap) bool { return liveOf(c) && kindOf(c) == 0 }

// keyOf reports whether with is open, has that permission, and has its own address in its span.
func keyOf(with capab.Cap, permission uint64) bool {
	v, _ := capab.Look(with)
	return openOf(with) && v.Perms/permission%2 == 1 && v.Span.Base <= with.Addr && with.Addr < v.Span.Top
}

// retyped is c with another type and a tag, its Meta computed.
func retyped(c capab.Cap, kind uint64) capab.Cap {
	return capab.Cap{Tag: true, Meta: c.Meta - kindOf(c)*power(48) + kind*power(48), Addr: c.Addr}
}

// pool has capabilities of all kinds, each with and without a tag: open, sealed, and not well-formed ones, with and without a span.
func pool(t *testing.T) []capab.Cap {
	t.Helper()
	return mixed(t,
		[]api.Span{span(0, 0), span(4096, 0), span(4096, 64), span(4112, 16), span(16, 4080), span(20, 1), span(0, 10002), span(1<<30, 1<<20), span(all-16, 16), span(0, all)},
		[]uint64{0, 3, 5, 27, 96, 511}, []uint64{0, 1, 2, 15, 16, 4095})
}

// few are some of those, for tests of pairs.
func few(t *testing.T) []capab.Cap {
	t.Helper()
	return mixed(t, []api.Span{span(0, 0), span(4096, 64), span(16, 4080), span(20, 1), span(0, all)}, []uint64{3, 32, 64, 511}, []uint64{0, 1, 2, 15, 20})
}

func mixed(t *testing.T, spans []api.Span, perms, kinds []uint64) []capab.Cap {
	t.Helper()
	var l []capab.Cap
	for _, s := range spans {
		for _, p := range perms {
			for _, kind := range kinds {
				for _, addr := range []uint64{s.Base, s.Base + 4, s.Top - 1, s.Top} {
					if c, ok := capab.Make(capab.View{Span: s, Perms: p, Type: kind}, addr); ok {
						l = append(l, c, tagged(c))
					}
				}
			}
		}
	}
	for _, c := range badOnes(t) {
		l = append(l, untagged(c), c)
	}
	return l
}

// badOnes are not well-formed, and have a tag.
func badOnes(t *testing.T) []capab.Cap {
	t.Helper()
	l := withoutSpan(t)
	for _, kind := range []uint64{0, 1, 20} {
		l = append(l, wrong(made(t, span(4096, 64), 511, kind, 4096)), wrong(made(t, span(0, all), 511, kind, 20)))
	}
	return append(l, capab.Cap{Tag: true, Meta: made(t, span(4096, 64), 511, 0, 4096).Meta | 1<<41, Addr: 4096})
}

// withoutSpan are capabilities that have no span, and have a tag.
func withoutSpan(t *testing.T) []capab.Cap {
	t.Helper()
	var l []capab.Cap
	for _, kind := range []uint64{0, 1, 20} {
		c := made(t, span(4096, 64), 511, kind, 4096)
		low := made(t, span(0, all), 511, kind, 0)
		l = append(l,
			capab.Cap{Tag: true, Meta: c.Meta, Addr: all},                 // no address
			capab.Cap{Tag: true, Meta: c.Meta, Addr: last},                // no address
			capab.Cap{Tag: true, Meta: c.Meta | 38<<26, Addr: 4096},       // no E
			capab.Cap{Tag: true, Meta: low.Meta | 1<<14, Addr: 20},        // the Top would be above 2^48
			capab.Cap{Tag: true, Meta: 511<<32 | kind<<48, Addr: last},    // the zero span, but no address
			capab.Cap{Tag: true, Meta: 511<<32 | kind<<48, Addr: 1 << 60}, // the same
		)
	}
	return l
}

// same reports what a call returned, if that isn't what it must.
func same(t *testing.T, what string, got, want capab.Cap) {
	t.Helper()
	if got != want {
		t.Errorf("%s: %v %x %d, not %v %x %d", what, got.Tag, got.Meta, got.Addr, want.Tag, want.Meta, want.Addr)
	}
}

// The document's constants.
func TestConstants(t *testing.T) {
	if Fine != 0 || NoTag != 1 || Sealed != 2 || NoPerm != 3 || OutOfSpan != 4 {
		t.Error(Fine, NoTag, Sealed, NoPerm, OutOfSpan)
	}
}

// The lists of this test have what they are said to have.
func TestThePool(t *testing.T) {
	for _, c := range withoutSpan(t) {
		if v, ok := capab.Look(c); ok {
			t.Errorf("%v has the span %v", c, v.Span)
		}
	}
	for _, c := range badOnes(t) {
		if capab.Right(c) {
			t.Errorf("%v is well-formed", c)
		}
	}
	counts := map[[2]bool]int{}
	for _, c := range pool(t) {
		counts[[2]bool{liveOf(c), openOf(c)}]++
	}
	if counts[[2]bool{true, true}] == 0 || counts[[2]bool{true, false}] == 0 || counts[[2]bool{false, false}] == 0 || len(counts) != 3 {
		t.Error(counts)
	}
}

// P6.1
func TestClear(t *testing.T) {
	same(t, "with a tag", Clear(capab.Cap{Tag: true, Meta: 0x300041000, Addr: 4096}), capab.Cap{Meta: 0x300041000, Addr: 4096})
	same(t, "without one", Clear(capab.Cap{Meta: 0x300041000, Addr: 4096}), capab.Cap{Meta: 0x300041000, Addr: 4096})
	same(t, "all bits", Clear(capab.Cap{Tag: true, Meta: last, Addr: last}), capab.Cap{Meta: last, Addr: last})
	for _, c := range pool(t) {
		same(t, "Clear", Clear(c), untagged(c))
	}
}

// P6.1: an address in the span or beside it, the first and the last one for which the span is the same one, and those beyond.
func TestAddressKeepsTheTagWhereTheSpanIsTheSame(t *testing.T) {
	for _, k := range []struct {
		s           api.Span
		first, last uint64
	}{
		{span(1<<20, 16), 1<<20 - 4096, 1<<20 + 12287},
		{span(1<<20, 0), 1<<20 - 4096, 1<<20 + 12287},
		{span(4096, 16), 0, 16383},
		{span(0, 0), 0, 12287},
		{span(1<<30, 1<<20), 1<<30 - 1<<20, 1<<30 + 3<<20 - 1},
		{span(all-16, 16), all - 16 - 4096, all - 1},
		{span(0, all), 0, all - 1},
	} {
		c := made(t, k.s, 3, 0, k.s.Base)
		for _, a := range []uint64{k.first, k.first + 1, k.s.Base + 1, k.last - 1, k.last} {
			same(t, "near", Address(c, a), capab.Cap{Tag: true, Meta: c.Meta, Addr: a})
		}
		for _, a := range []uint64{k.first - 1, k.last + 1, k.last + 1<<20, all, all + 1, all + k.s.Base, 1 << 63, last} {
			same(t, "far away", Address(c, a), capab.Cap{Meta: c.Meta, Addr: a})
		}
	}
}

// P6.1: far away from the span at 0 there is another one, or none, which Look returns as the zero one.
func TestAddressWhereThereIsNoSpan(t *testing.T) {
	c := made(t, span(0, 0), 3, 0, 0)
	for _, a := range []uint64{12288, 16384, all - 1, all, all + 1, 1 << 63, last} {
		same(t, "far away", Address(c, a), capab.Cap{Meta: c.Meta, Addr: a})
	}
	far := made(t, span(4095, 1), 3, 0, 4095) // the one near the last address would be above 2^48
	if _, ok := capab.Look(capab.Cap{Meta: far.Meta, Addr: all - 1}); ok {
		t.Error("the test has a span there")
	}
	same(t, "none", Address(far, all-1), capab.Cap{Meta: far.Meta, Addr: all - 1})
}

// P6.1
func TestAddressOfOnesThatAreNotOpen(t *testing.T) {
	c := made(t, span(4096, 64), 511, 0, 4096)
	for _, kind := range []uint64{1, 2, 15, 16, 4095} {
		sealed := retyped(c, kind)
		same(t, "sealed", Address(sealed, 4100), capab.Cap{Meta: sealed.Meta, Addr: 4100})
		same(t, "sealed, its own address", Address(sealed, 4096), untagged(sealed))
	}
	same(t, "without a tag", Address(untagged(c), 4100), capab.Cap{Meta: c.Meta, Addr: 4100})
	same(t, "other bits", Address(wrong(c), 4100), capab.Cap{Meta: c.Meta | 1<<63, Addr: 4100})
	away := capab.Cap{Tag: true, Meta: c.Meta, Addr: all}
	same(t, "no span before", Address(away, 4100), capab.Cap{Meta: c.Meta, Addr: 4100})
	same(t, "open, its own address", Address(c, 4096), c)
}

// addresses are some in, near and far from the spans of the pool.
func addresses() []uint64 {
	return []uint64{0, 1, 16, 20, 4095, 4096, 4112, 4160, 12287, 12288, 16384, 1 << 20, 1 << 30, all - 4096, all - 1, all, all + 4096, 1 << 63, last}
}

// P6.1
func TestAddressOfAll(t *testing.T) {
	counts := map[bool]int{}
	for _, c := range pool(t) {
		before, _ := capab.Look(c)
		for _, a := range addresses() {
			want := capab.Cap{Meta: c.Meta, Addr: a}
			after, has := capab.Look(want)
			want.Tag = openOf(c) && has && before.Span == after.Span
			counts[want.Tag]++
			same(t, "Address", Address(c, a), want)
			same(t, "Move", Move(c, a-c.Addr), want)
		}
	}
	if counts[true] == 0 || counts[false] == 0 {
		t.Error(counts)
	}
}

// P6.1
func TestMove(t *testing.T) {
	c := made(t, span(4096, 64), 3, 0, 4100)
	for _, k := range []struct {
		d, addr uint64
		tag     bool
	}{
		{0, 4100, true}, {1, 4101, true}, {60, 4160, true}, {12283, 16383, true}, {12284, 16384, false},
		{last, 4099, true}, {last - 3, 4096, true}, {last - 4, 4095, true}, {last - 4099, 0, true}, {last - 4100, last, false},
		{1 << 63, 1<<63 + 4100, false}, {all, all + 4100, false},
	} {
		same(t, "Move", Move(c, k.d), capab.Cap{Tag: k.tag, Meta: c.Meta, Addr: k.addr})
		same(t, "Move without a tag", Move(untagged(c), k.d), capab.Cap{Meta: c.Meta, Addr: k.addr})
		same(t, "Move of a sealed one", Move(retyped(c, 16), k.d), capab.Cap{Meta: c.Meta + 16<<48, Addr: k.addr})
	}
	same(t, "beyond 2^64", Move(capab.Cap{Meta: c.Meta, Addr: last}, 5), capab.Cap{Meta: c.Meta, Addr: 4})
	same(t, "beyond 2^64", Move(capab.Cap{Meta: c.Meta, Addr: 1 << 63}, 1<<63), capab.Cap{Meta: c.Meta, Addr: 0})
}

// bounded asks for a Bound that returns that span, with exact set and not set.
func bounded(t *testing.T, c capab.Cap, n uint64, want api.Span, tag, tagIfExact bool) {
	t.Helper()
	result := made(t, want, permsOf(c), kindOf(c), c.Addr)
	result.Tag = tag
	same(t, "Bound", Bound(c, n, false), result)
	result.Tag = tagIfExact
	same(t, "Bound, exact", Bound(c, n, true), result)
}

// P6.2
func TestBoundWithinTheSpan(t *testing.T) {
	c := made(t, span(4096, 64), 3, 0, 4100)
	for _, n := range []uint64{0, 1, 4, 59, 60} {
		bounded(t, c, n, span(4100, n), true, true)
	}
	for _, n := range []uint64{61, 64, 4095} {
		bounded(t, c, n, span(4100, n), false, false)
	}
	bounded(t, made(t, span(4096, 64), 3, 0, 4096), 64, span(4096, 64), true, true)
	bounded(t, made(t, span(4096, 64), 3, 0, 4095), 0, span(4095, 0), false, false)
	bounded(t, made(t, span(4096, 64), 3, 0, 4095), 1, span(4095, 1), false, false)
	bounded(t, made(t, span(4096, 64), 3, 0, 4095), 65, span(4095, 65), false, false)
	bounded(t, made(t, span(4096, 64), 3, 0, 4160), 0, span(4160, 0), true, true)
	bounded(t, made(t, span(4096, 64), 3, 0, 4160), 1, span(4160, 1), false, false)
	bounded(t, made(t, span(4096, 64), 3, 0, 4161), 0, span(4161, 0), false, false)
	bounded(t, made(t, span(4096, 0), 3, 0, 4096), 0, span(4096, 0), true, true)
	bounded(t, made(t, span(4096, 0), 3, 0, 4096), 1, span(4096, 1), false, false)
}

// P6.2: the length 8193 is kept in steps of two, 10001 too, and 2^20 in steps of 2^8.
func TestBoundThatIsNotKeptExactly(t *testing.T) {
	c := made(t, span(0, all), 511, 0, 1<<20)
	bounded(t, c, 8191, span(1<<20, 8191), true, true)
	bounded(t, c, 10001, span(1<<20, 10002), true, false)
	bounded(t, c, 10002, span(1<<20, 10002), true, true)
	bounded(t, c, 1<<20, span(1<<20, 1<<20), true, true)
	bounded(t, c, 1<<20+1, span(1<<20, 1<<20+256), true, false)
	odd := made(t, span(0, all), 511, 0, 1<<20+1)
	bounded(t, odd, 8191, span(1<<20+1, 8191), true, true)
	bounded(t, odd, 8192, span(1<<20, 8194), true, false)
	bounded(t, odd, 10001, span(1<<20, 10002), true, false)
	bounded(t, odd, 1<<20, span(1<<20, 1<<20+256), true, false)
	bounded(t, made(t, span(0, all), 511, 0, 1), all-1, span(0, all), true, false)
}

// P6.2: what is kept of a request within c's span is within it too, as it needs no greater steps; and what is beyond it is not.
func TestBoundKeptWithinTheSpan(t *testing.T) {
	bounded(t, made(t, span(1<<20, 10002), 3, 0, 1<<20), 10001, span(1<<20, 10002), true, false)
	bounded(t, made(t, span(1<<20+2, 10000), 3, 0, 1<<20+3), 9999, span(1<<20+2, 10000), true, false)
	bounded(t, made(t, span(1<<20+1, 8191), 3, 0, 1<<20+1), 8191, span(1<<20+1, 8191), true, true)
	bounded(t, made(t, span(1<<20, 1<<20), 3, 0, 1<<20+1), 1<<20-1, span(1<<20, 1<<20), true, false)
	bounded(t, made(t, span(1<<20+256, 1<<20), 3, 0, 1<<20+257), 1<<20-3, span(1<<20+256, 1<<20), true, false)
	bounded(t, made(t, span(512, 1<<20+512), 3, 0, 513), 1<<20+511, span(512, 1<<20+512), true, false)
	bounded(t, made(t, span(1<<20, 1<<20), 3, 0, 1<<20), 1<<20+1, span(1<<20, 1<<20+256), false, false)
	bounded(t, made(t, span(4098, 8194), 3, 0, 4098), 8195, span(4098, 8196), false, false)
	bounded(t, made(t, span(4098, 8194), 3, 0, 4097), 8195, span(4096, 8196), false, false)
}

// P6.2: what is requested is not valid.
func TestBoundThatIsNotValid(t *testing.T) {
	whole := made(t, span(0, all), 511, 0, 16)
	for _, c := range []capab.Cap{whole, untagged(whole), retyped(whole, 16), wrong(whole)} {
		for _, n := range []uint64{all - 15, all - 14, all, 1 << 63, last - 16, last - 15, last - 14, last} {
			same(t, "Bound", Bound(c, n, false), untagged(c))
			same(t, "Bound, exact", Bound(c, n, true), untagged(c))
		}
	}
	bounded(t, whole, all-16, span(0, all), true, false)
	for _, addr := range []uint64{all + 1, all + 4096, 1 << 63, last - 1, last} {
		for _, n := range []uint64{0, 1, 2, 16, all, last - addr, last - addr + 1, last - addr + 17, last} {
			c := capab.Cap{Tag: true, Meta: whole.Meta, Addr: addr}
			same(t, "no address", Bound(c, n, false), untagged(c))
			same(t, "no address, exact", Bound(c, n, true), untagged(c))
		}
	}
}

// P6.2: the empty span at 2^48 is valid, but 2^48 is no address, so Make fails.
func TestBoundWhereMakeFails(t *testing.T) {
	for _, meta := range []uint64{0, 0x300041000, made(t, span(0, all), 511, 0, 0).Meta, last} {
		for _, tag := range []bool{false, true} {
			c := capab.Cap{Tag: tag, Meta: meta, Addr: all}
			for _, exact := range []bool{false, true} {
				same(t, "the length 0", Bound(c, 0, exact), untagged(c))
				same(t, "the length 1", Bound(c, 1, exact), untagged(c))
			}
		}
	}
	bounded(t, made(t, span(0, all), 3, 0, all-1), 1, span(all-1, 1), true, true)
	bounded(t, made(t, span(0, all), 3, 0, all-1), 0, span(all-1, 0), true, true)
}

// P6.2: the span is that of the request, whether or not there is a tag, and no bits are left that no part has.
func TestBoundOfOnesThatAreNotOpen(t *testing.T) {
	c := made(t, span(4096, 64), 3, 0, 4100)
	want := untagged(made(t, span(4100, 8), 3, 0, 4100))
	for _, exact := range []bool{false, true} {
		same(t, "open", Bound(c, 8, exact), tagged(want))
		same(t, "without a tag", Bound(untagged(c), 8, exact), want)
		same(t, "other bits", Bound(wrong(c), 8, exact), want)
		same(t, "no span", Bound(capab.Cap{Tag: true, Meta: c.Meta | 63<<26, Addr: 4100}, 8, exact), want)
		for _, kind := range []uint64{1, 2, 15, 16, 4095} {
			same(t, "sealed", Bound(retyped(c, kind), 8, exact), untagged(retyped(want, kind)))
		}
	}
}

// boundOf is what the chapter asks of Bound.
func boundOf(c capab.Cap, n uint64, exact bool) capab.Cap {
	if c.Addr > all || n > all-c.Addr {
		return untagged(c)
	}
	asked := span(c.Addr, n)
	kept, _ := bounds.Rounded(asked)
	want, ok := capab.Make(capab.View{Span: kept, Perms: permsOf(c), Type: kindOf(c)}, c.Addr)
	if !ok {
		return untagged(c)
	}
	v, _ := capab.Look(c)
	want.Tag = openOf(c) && v.Span.Base <= kept.Base && kept.Top <= v.Span.Top && (!exact || kept == asked)
	return want
}

// P6.2
func TestBoundOfAll(t *testing.T) {
	counts := map[bool]int{}
	for _, c := range pool(t) {
		for _, n := range []uint64{0, 1, 8, 15, 16, 64, 4080, 4096, 8193, 10001, 10002, 1<<20 - 1, 1 << 20, all - 16, all - 1, all, 1 << 63, last} {
			for _, exact := range []bool{false, true} {
				want := boundOf(c, n, exact)
				counts[want.Tag]++
				same(t, "Bound", Bound(c, n, exact), want)
			}
		}
	}
	if counts[true] == 0 || counts[false] == 0 {
		t.Error(counts)
	}
}

// P6.2
func TestAnd(t *testing.T) {
	for _, k := range []struct{ has, among, want uint64 }{
		{511, 511, 511}, {511, 0, 0}, {0, 511, 0}, {3, 1, 1}, {3, 2, 2}, {3, 4, 0}, {27, 9, 9}, {257, 256, 256}, {510, 1, 0},
		// Bits above All.
		{511, last, 511}, {511, last - 511, 0}, {3, 512, 0}, {3, 513, 1}, {511, 1 << 63, 0}, {3, 1<<32 | 2, 2}, {27, last, 27},
	} {
		c := made(t, span(4096, 64), k.has, 0, 4100)
		want := made(t, span(4096, 64), k.want, 0, 4100)
		same(t, "And", And(c, k.among), want)
		same(t, "And without a tag", And(untagged(c), k.among), untagged(want))
		for _, kind := range []uint64{1, 2, 15, 16, 4095} {
			same(t, "And of a sealed one", And(retyped(c, kind), k.among), untagged(retyped(want, kind)))
		}
	}
}

// P6.2: the rest of a capability that is not well-formed is as it was.
func TestAndOfOnesThatAreNotWellFormed(t *testing.T) {
	for _, k := range []struct{ meta, addr, among, want uint64 }{
		{last, last, 0, 0xfffffe00ffffffff}, {last, 0, last, last}, {last, 0, 511, last}, {last, 4096, 3, 0xfffffe03ffffffff},
		{0x800001ff00041000, 4096, 5, 0x8000000500041000},
		{0x300041000, all, 1, 0x100041000}, {0x300041000, last, 0, 0x41000}, {0x300041000 | 38<<26, 4096, 2, 0x200041000 | 38<<26},
		{0xf000fe0000000000, 0, 0, 0xf000fe0000000000},
	} {
		for _, tag := range []bool{false, true} {
			same(t, "And", And(capab.Cap{Tag: tag, Meta: k.meta, Addr: k.addr}, k.among), capab.Cap{Meta: k.want, Addr: k.addr})
		}
	}
}

// P6.2
func TestAndOfAll(t *testing.T) {
	for _, c := range pool(t) {
		for _, perms := range []uint64{0, 1, 3, 5, 36, 64, 256, 510, 511, 512, 515, last - 511, last} {
			left := permsOf(c) & (perms % 512)
			want := capab.Cap{Tag: openOf(c), Meta: c.Meta - (permsOf(c)-left)*power(32), Addr: c.Addr}
			same(t, "And", And(c, perms), want)
		}
	}
}

// P6.3
func TestSealWithTypesFromFirstToLast(t *testing.T) {
	c := made(t, span(4096, 64), 3, 0, 4100)
	for _, kind := range []uint64{16, 17, 20, 2048, 4094, 4095} {
		same(t, "Seal", Seal(c, key(t, span(0, all), kind)), capab.Cap{Tag: true, Meta: 0x300041000 + 48<<14 + kind<<48, Addr: 4100})
	}
	for _, kind := range []uint64{0, 1, 2, 15, 4096, 4097, 4112, 8191, 1 << 16, 1<<32 + 16, all - 1} {
		same(t, "no type", Seal(c, key(t, span(0, all), kind)), untagged(c))
	}
}

// P6.3: the Addr of the sealing capability is in its span, or it is not.
func TestSealAsksForAnAddressInTheSpan(t *testing.T) {
	c := made(t, span(4096, 64), 3, 0, 4100)
	for _, kind := range []uint64{20, 21, 29} {
		same(t, "inside", Seal(c, key(t, span(20, 10), kind)), retyped(c, kind))
	}
	for _, kind := range []uint64{16, 19, 30, 31, 4095} {
		same(t, "outside", Seal(c, key(t, span(20, 10), kind)), untagged(c))
	}
	same(t, "an empty span", Seal(c, key(t, span(20, 0), 20)), untagged(c))
	same(t, "one address", Seal(c, key(t, span(20, 1), 20)), retyped(c, 20))
	for _, at := range []uint64{all + 20, 1<<63 + 20, last} {
		same(t, "no address", Seal(c, capab.Cap{Tag: true, Meta: key(t, span(0, all), 20).Meta, Addr: at}), untagged(c))
	}
}

// P6.3
func TestSealAsksForThePermission(t *testing.T) {
	c := made(t, span(4096, 64), 0, 0, 4100)
	for perms := range uint64(512) {
		want := untagged(c)
		if perms/32%2 == 1 {
			want = retyped(c, 20)
		}
		same(t, "Seal", Seal(c, made(t, span(0, 64), perms, 0, 20)), want)
	}
	same(t, "c has it", Seal(made(t, span(0, 64), 511, 0, 20), made(t, span(0, 64), 511-32, 0, 20)), untagged(made(t, span(0, 64), 511, 0, 20)))
}

// P6.3
func TestSealAsksForOpenOnes(t *testing.T) {
	c := made(t, span(4096, 64), 3, 0, 4100)
	with := key(t, span(0, 64), 20)
	same(t, "both open", Seal(c, with), retyped(c, 20))
	for _, kind := range []uint64{1, 2, 15, 16, 20, 4095} {
		same(t, "c is sealed", Seal(retyped(c, kind), with), untagged(retyped(c, kind)))
		same(t, "with is sealed", Seal(c, retyped(with, kind)), untagged(c))
	}
	same(t, "c has no tag", Seal(untagged(c), with), untagged(c))
	same(t, "with has no tag", Seal(c, untagged(with)), untagged(c))
	same(t, "c is not well-formed", Seal(wrong(c), with), untagged(wrong(c)))
	same(t, "with is not well-formed", Seal(c, wrong(with)), untagged(c))
	same(t, "with itself", Seal(with, with), retyped(with, 20))
}

// P6.3
func TestUnsealWithTypesFromFirstOn(t *testing.T) {
	c := made(t, span(4096, 64), 3, 0, 4100)
	for _, kind := range []uint64{16, 17, 20, 2048, 4094, 4095} {
		same(t, "Unseal", Unseal(retyped(c, kind), key(t, span(0, all), kind)), c)
	}
	for _, kind := range []uint64{0, 1, 2, 15} {
		same(t, "no such type", Unseal(retyped(c, kind), key(t, span(0, all), kind)), untagged(retyped(c, kind)))
	}
	for _, addr := range []uint64{0, 1, 19, 21, 4095, 20 + 4096, 20 + 1<<16, all - 1} {
		same(t, "another type", Unseal(retyped(c, 20), key(t, span(0, all), addr)), untagged(retyped(c, 20)))
	}
}

// P6.3
func TestUnsealAsksForAnAddressInTheSpan(t *testing.T) {
	c := made(t, span(4096, 64), 3, 0, 4100)
	for _, kind := range []uint64{20, 21, 29} {
		same(t, "inside", Unseal(retyped(c, kind), key(t, span(20, 10), kind)), c)
	}
	for _, kind := range []uint64{16, 19, 30, 31, 4095} {
		same(t, "outside", Unseal(retyped(c, kind), key(t, span(20, 10), kind)), untagged(retyped(c, kind)))
	}
	same(t, "an empty span", Unseal(retyped(c, 20), key(t, span(20, 0), 20)), untagged(retyped(c, 20)))
}

// P6.3
func TestUnsealAsksForThePermission(t *testing.T) {
	c := made(t, span(4096, 64), 0, 20, 4100)
	for perms := range uint64(512) {
		want := untagged(c)
		if perms/64%2 == 1 {
			want = retyped(c, 0)
		}
		same(t, "Unseal", Unseal(c, made(t, span(0, 64), perms, 0, 20)), want)
	}
}

// P6.3
func TestUnsealAsksForALiveOneAndAnOpenOne(t *testing.T) {
	c := made(t, span(4096, 64), 3, 20, 4100)
	with := key(t, span(0, 64), 20)
	same(t, "as it must be", Unseal(c, with), retyped(c, 0))
	same(t, "c is open", Unseal(retyped(c, 0), with), untagged(retyped(c, 0)))
	same(t, "c has no tag", Unseal(untagged(c), with), untagged(c))
	same(t, "c is not well-formed", Unseal(wrong(c), with), untagged(wrong(c)))
	away := capab.Cap{Tag: true, Meta: c.Meta, Addr: all}
	same(t, "c has no span", Unseal(away, with), untagged(away))
	for _, kind := range []uint64{1, 2, 15, 16, 20, 4095} {
		same(t, "with is sealed", Unseal(c, retyped(with, kind)), untagged(c))
	}
	same(t, "with has no tag", Unseal(c, untagged(with)), untagged(c))
	same(t, "with is not well-formed", Unseal(c, wrong(with)), untagged(c))
}

// P6.3, P6.4: of all pairs.
func TestSealUnsealAndBuildOfAllPairs(t *testing.T) {
	l := few(t)
	counts := map[string]int{}
	for _, c := range l {
		for _, with := range l {
			seals := openOf(c) && keyOf(with, 32) && with.Addr >= 16 && with.Addr <= 4095
			unseals := liveOf(c) && kindOf(c) >= 16 && keyOf(with, 64) && with.Addr == kindOf(c)
			builds := openOf(with) && capab.Within(c, with) && kindOf(c) < 2
			for _, k := range []struct {
				what      string
				got, then capab.Cap
				ok        bool
			}{
				{"Seal", Seal(c, with), retyped(c, with.Addr%4096), seals},
				{"Unseal", Unseal(c, with), retyped(c, 0), unseals},
				{"Build", Build(c, with), tagged(c), builds},
			} {
				want := untagged(c)
				if k.ok {
					want = k.then
					counts[k.what]++
				}
				if k.got != want {
					t.Fatalf("%s(%v, %v) = %v, not %v", k.what, c, with, k.got, want)
				}
			}
		}
	}
	if counts["Seal"] == 0 || counts["Unseal"] == 0 || counts["Build"] == 0 {
		t.Error(counts)
	}
}

// P6.3
func TestEnter(t *testing.T) {
	for perms := range uint64(512) {
		c := made(t, span(4096, 64), perms, 0, 4100)
		want := untagged(c)
		if perms/4%2 == 1 {
			want = retyped(c, 1)
		}
		same(t, "Enter", Enter(c), want)
		same(t, "without a tag", Enter(untagged(c)), untagged(c))
		same(t, "not well-formed", Enter(wrong(c)), untagged(wrong(c)))
		for _, kind := range []uint64{1, 2, 15, 16, 4095} {
			same(t, "sealed", Enter(retyped(c, kind)), untagged(retyped(c, kind)))
		}
	}
	outside := made(t, span(4096, 64), 4, 0, 0)
	same(t, "its address is not in its span", Enter(outside), retyped(outside, 1))
	empty := made(t, span(4096, 0), 4, 0, 4096)
	same(t, "an empty span", Enter(empty), retyped(empty, 1))
}

// P6.3
func TestOpen(t *testing.T) {
	for _, perms := range []uint64{0, 3, 4, 511} {
		c := made(t, span(4096, 64), perms, 1, 4100)
		same(t, "a live Sentry", Open(c), retyped(c, 0))
		same(t, "without a tag", Open(untagged(c)), untagged(c))
		same(t, "not well-formed", Open(wrong(c)), wrong(c))
		away := capab.Cap{Tag: true, Meta: c.Meta, Addr: all}
		same(t, "no span", Open(away), away)
		for _, kind := range []uint64{0, 2, 3, 15, 16, 17, 4095} {
			same(t, "another type", Open(retyped(c, kind)), retyped(c, kind))
			same(t, "another type, without a tag", Open(untagged(retyped(c, kind))), untagged(retyped(c, kind)))
		}
	}
	for _, c := range pool(t) {
		want := c
		if liveOf(c) && kindOf(c) == 1 {
			want = retyped(c, 0)
		}
		same(t, "Open", Open(c), want)
	}
}

// P6.4
func TestBuild(t *testing.T) {
	from := made(t, span(4096, 64), 3, 0, 4100)
	for _, k := range []struct {
		s     api.Span
		perms uint64
		ok    bool
	}{
		{span(4096, 64), 3, true}, {span(4096, 63), 3, true}, {span(4100, 8), 1, true}, {span(4100, 8), 0, true}, {span(4096, 0), 2, true}, {span(4160, 0), 2, true},
		{span(4095, 65), 3, false}, {span(4096, 65), 3, false}, {span(4095, 1), 0, false}, {span(4161, 0), 0, false}, {span(0, all), 0, false},
		{span(4096, 64), 7, false}, {span(4100, 8), 4, false}, {span(4100, 8), 511, false},
	} {
		c := made(t, k.s, k.perms, 0, 4100)
		want := c
		want.Tag = k.ok
		same(t, "Build", Build(c, from), want)
		same(t, "Build of one without a tag", Build(untagged(c), from), want)
	}
}

// P6.4
func TestBuildOfEachType(t *testing.T) {
	from := made(t, span(4096, 64), 511, 0, 4100)
	for kind := range uint64(4096) {
		c := made(t, span(4100, 8), 3, kind, 4090)
		want := c
		want.Tag = kind <= 1
		same(t, "Build", Build(c, from), want)
		same(t, "Build of one without a tag", Build(untagged(c), from), want)
		if kind > 0 {
			same(t, "from is sealed", Build(untagged(from), retyped(from, kind)), untagged(from))
			same(t, "from is sealed", Build(from, retyped(from, kind)), untagged(from))
		}
	}
}

// P6.4
func TestBuildFromOnesThatAreNotOpen(t *testing.T) {
	from := made(t, span(0, all), 511, 0, 4100)
	c := made(t, span(4100, 8), 3, 0, 4090)
	same(t, "open", Build(untagged(c), from), c)
	same(t, "without a tag", Build(c, untagged(from)), untagged(c))
	same(t, "not well-formed", Build(c, wrong(from)), untagged(c))
	same(t, "no address", Build(c, capab.Cap{Tag: true, Meta: from.Meta, Addr: all}), untagged(c))
	for _, bad := range badOnes(t) {
		same(t, "of one that is not well-formed", Build(bad, from), untagged(bad))
		same(t, "of one that is not well-formed, without a tag", Build(untagged(bad), from), untagged(bad))
	}
	same(t, "the number 0", Build(capab.Null(0), from), capab.Cap{Tag: true})
	same(t, "the number 2^48", Build(capab.Null(all), from), capab.Null(all))
}

// P6.5
func TestBaseTopLengthAndOffset(t *testing.T) {
	for _, s := range []api.Span{span(0, 0), span(4096, 0), span(4096, 64), span(4100, 1), span(0, 10002), span(1<<30, 1<<20), span(all-16, 16), span(1<<47, 1<<47), span(0, all)} {
		for _, kind := range []uint64{0, 1, 20} {
			c := made(t, s, 3, kind, s.Base)
			for _, d := range []capab.Cap{c, untagged(c), wrong(c), untagged(wrong(c))} {
				if Base(d) != s.Base || Top(d) != s.Top || Length(d) != s.Top-s.Base || Offset(d) != 0 {
					t.Errorf("%v: %d, %d, %d, %d", d, Base(d), Top(d), Length(d), Offset(d))
				}
			}
		}
	}
}

// P6.5
func TestOffset(t *testing.T) {
	for _, k := range []struct{ addr, want uint64 }{{4096, 0}, {4097, 1}, {4160, 64}, {16383, 12287}, {4095, last}, {4094, last - 1}, {0, last - 4095}} {
		c := made(t, span(4096, 64), 3, 0, k.addr)
		if Offset(c) != k.want || Offset(untagged(c)) != k.want {
			t.Errorf("Offset(%v) = %d, without a tag %d", c, Offset(c), Offset(untagged(c)))
		}
	}
	// That far away from the empty span at 0, there is the one at 16384.
	if Offset(capab.Null(12288)) != last-4095 || Offset(capab.Null(16384)) != 0 || Offset(capab.Null(7)) != 7 {
		t.Error(Offset(capab.Null(12288)), Offset(capab.Null(16384)), Offset(capab.Null(7)))
	}
}

// P6.5
func TestNumbersOfOnesWithoutASpan(t *testing.T) {
	for _, c := range withoutSpan(t) {
		for _, d := range []capab.Cap{c, untagged(c)} {
			if Base(d) != 0 || Top(d) != 0 || Length(d) != 0 || Offset(d) != d.Addr {
				t.Errorf("%v: %d, %d, %d, %d", d, Base(d), Top(d), Length(d), Offset(d))
			}
		}
	}
}

// P6.5
func TestUnder(t *testing.T) {
	outer := made(t, span(4096, 64), 3, 0, 4100)
	for _, k := range []struct {
		s     api.Span
		perms uint64
		want  bool
	}{
		{span(4096, 64), 3, true}, {span(4100, 8), 1, true}, {span(4096, 0), 0, true}, {span(4160, 0), 0, true},
		{span(4095, 8), 1, false}, {span(4096, 65), 1, false}, {span(4161, 0), 0, false}, {span(4100, 8), 4, false}, {span(4100, 8), 511, false},
	} {
		for _, kind := range []uint64{0, 1, 20} {
			inner := made(t, k.s, k.perms, kind, 4100)
			if Under(inner, outer) != k.want || Under(untagged(inner), untagged(outer)) != k.want {
				t.Errorf("Under(%v, %v) = %v, without tags %v", inner, outer, Under(inner, outer), Under(untagged(inner), untagged(outer)))
			}
			if Under(untagged(inner), outer) || Under(inner, untagged(outer)) {
				t.Errorf("Under of %v and %v with one tag", inner, outer)
			}
		}
	}
	for _, bad := range badOnes(t) {
		whole := made(t, span(0, all), 511, 0, 0)
		if Under(bad, whole) || Under(whole, bad) || Under(untagged(bad), untagged(whole)) || Under(bad, bad) || Under(capab.Null(0), untagged(bad)) {
			t.Errorf("Under with %v", bad)
		}
	}
}

// P6.5
func TestUnderOfAllPairs(t *testing.T) {
	l := few(t)
	counts := map[bool]int{}
	for _, a := range l {
		for _, b := range l {
			want := a.Tag == b.Tag && capab.Within(a, b)
			counts[want]++
			if got := Under(a, b); got != want {
				t.Fatalf("Under(%v, %v) = %v", a, b, got)
			}
		}
	}
	if counts[true] == 0 || counts[false] == 0 {
		t.Error(counts)
	}
}

func checks(t *testing.T, what string, c capab.Cap, kind int, n uint64, want int) {
	t.Helper()
	if got := Check(c, kind, n); got != want {
		t.Errorf("%s: Check(%v, %d, %d) = %d, not %d", what, c, kind, n, got, want)
	}
}

// P6.6: each thing alone, and with all those that come after it.
func TestCheckReturnsTheFirstThing(t *testing.T) {
	c := made(t, span(4096, 64), 1, 0, 4096)
	checks(t, "nothing", c, perm.Read, 64, 0)
	checks(t, "no tag", untagged(c), perm.Read, 64, 1)
	checks(t, "not well-formed", wrong(c), perm.Read, 64, 1)
	checks(t, "no span", capab.Cap{Tag: true, Meta: c.Meta, Addr: all}, perm.Read, 0, 1)
	checks(t, "sealed", retyped(c, 20), perm.Read, 64, 2)
	checks(t, "no permission", c, perm.Write, 64, 3)
	checks(t, "beyond the span", c, perm.Read, 65, 4)

	checks(t, "no permission, beyond the span", c, perm.Write, 65, 3)
	checks(t, "sealed, beyond the span", retyped(c, 20), perm.Read, 65, 2)
	checks(t, "sealed, no permission", retyped(c, 20), perm.Write, 64, 2)
	checks(t, "sealed, no permission, beyond the span", retyped(c, 20), perm.Write, 65, 2)
	checks(t, "no tag, beyond the span", untagged(c), perm.Read, 65, 1)
	checks(t, "no tag, no permission", untagged(c), perm.Write, 64, 1)
	checks(t, "no tag, sealed", untagged(retyped(c, 20)), perm.Read, 64, 1)
	checks(t, "no tag, and all else", untagged(retyped(c, 20)), perm.Write, 65, 1)
	checks(t, "not well-formed, and all else", wrong(retyped(c, 20)), perm.Write, 65, 1)
	for kind := range uint64(4096) {
		if kind > 0 {
			checks(t, "sealed", retyped(c, kind), perm.Read, 64, 2)
		}
	}
}

// P6.6
func TestCheckAsksForThePermissions(t *testing.T) {
	for perms := range uint64(512) {
		c := made(t, span(4096, 64), perms, 0, 4096)
		for kind, needs := range [][]uint64{{4}, {1}, {2}, {1, 8}, {2, 16}} {
			want := 0
			for _, p := range needs {
				if perms/p%2 == 0 {
					want = 3
				}
			}
			checks(t, "a kind", c, kind, 8, want)
			checks(t, "a kind, nothing of it", c, kind, 0, want)
		}
		for _, kind := range []int{-1, 5, 6, 256, math.MaxInt, math.MinInt} {
			want := 3
			if perms == 511 {
				want = 0
			}
			checks(t, "no kind", c, kind, 8, want)
		}
	}
}

// P6.6
func TestCheckAsksForTheSpan(t *testing.T) {
	for _, k := range []struct {
		addr, n uint64
		want    int
	}{
		{4096, 0, 0}, {4096, 1, 0}, {4096, 63, 0}, {4096, 64, 0}, {4096, 65, 4}, {4097, 63, 0}, {4097, 64, 4}, {4159, 1, 0}, {4159, 2, 4}, {4159, 0, 0},
		{4160, 0, 0}, {4160, 1, 4}, {4161, 0, 4}, {4161, 1, 4}, {4095, 0, 4}, {4095, 1, 4}, {4095, 2, 4}, {4095, 65, 4}, {0, 0, 4}, {0, 4160, 4}, {16383, 0, 4},
		{4096, 1 << 63, 4}, {4096, last, 4}, {4096, last - 4095, 4}, {4096, last - 4094, 4}, {4100, last - 3, 4}, {4160, last, 4}, {4100, last - 4000, 4},
	} {
		checks(t, "the span", made(t, span(4096, 64), 3, 0, k.addr), perm.Read, k.n, k.want)
	}
	empty := made(t, span(4096, 0), 3, 0, 4096)
	checks(t, "an empty span", empty, perm.Read, 0, 0)
	checks(t, "an empty span", empty, perm.Read, 1, 4)
	whole := made(t, span(0, all), 3, 0, all-1)
	checks(t, "the last address", whole, perm.Read, 1, 0)
	checks(t, "beyond the last address", whole, perm.Read, 2, 4)
	checks(t, "beyond 2^64", whole, perm.Read, last, 4)
	checks(t, "all addresses", made(t, span(0, all), 3, 0, 0), perm.Read, all, 0)
}

// checkOf is what the chapter asks of Check.
func checkOf(c capab.Cap, kind int, n uint64) int {
	v, _ := capab.Look(c)
	if !liveOf(c) {
		return 1
	}
	if kindOf(c) != 0 {
		return 2
	}
	if !perm.Within(perm.Needs(kind), permsOf(c)) {
		return 3
	}
	if c.Addr < v.Span.Base || c.Addr > v.Span.Top || n > v.Span.Top-c.Addr {
		return 4
	}
	return 0
}

// P6.6
func TestCheckOfAll(t *testing.T) {
	counts := map[int]int{}
	for _, c := range pool(t) {
		for kind := -1; kind <= 5; kind++ {
			for _, n := range []uint64{0, 1, 2, 16, 60, 64, 4096, all - 1, all, 1 << 63, last} {
				want := checkOf(c, kind, n)
				counts[want]++
				checks(t, "of all", c, kind, n, want)
			}
		}
	}
	if len(counts) != 5 {
		t.Error(counts)
	}
}

// P6.7: what has a tag is live, and within what it was derived from.
func TestResultsAreWithinWhatTheyAreDerivedFrom(t *testing.T) {
	counts := map[string]int{}
	within := func(what string, got, from capab.Cap) {
		t.Helper()
		if !got.Tag {
			return
		}
		counts[what]++
		if !liveOf(got) || !liveOf(from) || !capab.Within(got, from) {
			t.Fatalf("%s: %v, derived from %v", what, got, from)
		}
	}
	for _, c := range pool(t) {
		if c.Tag && !capab.Right(c) {
			continue // no instruction yields such a one; Open returns it unchanged
		}
		within("Clear", Clear(c), c)
		for _, a := range addresses() {
			within("Address", Address(c, a), c)
			within("Move", Move(c, a), c)
			within("Bound", Bound(c, a, false), c)
			within("Bound, exact", Bound(c, a, true), c)
			within("And", And(c, a), c)
		}
		within("Enter", Enter(c), c)
		within("Open", Open(c), c)
	}
	if counts["Clear"] != 0 || len(counts) != 7 {
		t.Error(counts)
	}
}

// P6.7: a result of Seal is within c; one of Unseal has c's span and permissions; one of Build is within from.
func TestResultsOfPairsAreLive(t *testing.T) {
	l := few(t)
	for _, c := range l {
		for _, with := range l {
			if got := Seal(c, with); got.Tag && (!liveOf(got) || !liveOf(c) || !capab.Within(got, c)) {
				t.Fatalf("Seal(%v, %v) = %v", c, with, got)
			}
			if got := Unseal(c, with); got.Tag && (!liveOf(got) || !liveOf(c) || !capab.Within(got, c) || got.Addr != c.Addr) {
				t.Fatalf("Unseal(%v, %v) = %v", c, with, got)
			}
			if got := Build(c, with); got.Tag && (!liveOf(got) || !liveOf(with) || !capab.Within(got, with)) {
				t.Fatalf("Build(%v, %v) = %v", c, with, got)
			}
		}
	}
}

// P6.3, P6.7: what was sealed is unsealed by the same one, and what was entered is opened.
func TestUnsealRestoresWhatWasSealed(t *testing.T) {
	with := key(t, span(0, 64), 20)
	for _, c := range pool(t) {
		if !openOf(c) {
			continue
		}
		same(t, "Unseal of Seal", Unseal(Seal(c, with), with), c)
		if permsOf(c)/4%2 == 1 {
			same(t, "Open of Enter", Open(Enter(c)), c)
		}
	}
}

// The example of the chapter.
func TestExample(t *testing.T) {
	whole, ok := capab.Root(api.Span{Base: 0, Top: 1 << 48}, perm.All)
	c := Bound(Move(whole, 4096), 16, false)
	if !ok || !c.Tag || Base(c) != 4096 || Top(c) != 4112 {
		t.Errorf("%v: %d to %d", c, Base(c), Top(c))
	}
}
