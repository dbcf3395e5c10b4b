package capab

import (
	"math"
	"slices"
	"testing"

	"mintmark/api"
	"mintmark/bounds"
)

const (
	all  = 1 << 48 // how many addresses there are
	last = math.MaxUint64
)

// power is 2^e, found without shifts.
func power(e int) uint64 {
	p := uint64(1)
	for range e {
		p *= 2
	}
	return p
}

// span is the one from base on with that length.
func span(base, length uint64) api.Span { return api.Span{Base: base, Top: base + length} }

// metaOf is the chapter's Meta of parts that have no bits but their own.
func metaOf(word, perms, kind uint64) uint64 { return word + perms*power(32) + kind*power(48) }

// otherBits are the indices of those bits of a Meta that none of its parts has.
func otherBits() []int { return []int{41, 42, 43, 44, 45, 46, 47, 60, 61, 62, 63} }

// viewOf is what the chapter asks of Look.
func viewOf(c Cap) (View, bool) {
	s, ok := bounds.Decode(bounds.Of(c.Meta%power(32)), c.Addr)
	return View{Span: s, Perms: c.Meta / power(32) % 512, Type: c.Meta / power(48) % 4096}, ok
}

// capOf is what the chapter asks of Make.
func capOf(v View, addr uint64) (Cap, bool) {
	f, exact := bounds.Encode(v.Span)
	s, ok := bounds.Decode(f, addr)
	if !exact || v.Perms > 511 || v.Type > 4095 || !ok || s != v.Span {
		return Cap{}, false
	}
	return Cap{Meta: metaOf(bounds.Word(f), v.Perms, v.Type), Addr: addr}, true
}

// rightOf is what the chapter asks of Right.
func rightOf(c Cap) bool {
	_, ok := viewOf(c)
	return ok && c.Meta/power(41)%power(7) == 0 && c.Meta/power(60) == 0
}

// made is the capability of a view that has one.
func made(t *testing.T, s api.Span, perms, kind, addr uint64) Cap {
	t.Helper()
	c, ok := capOf(View{s, perms, kind}, addr)
	if !ok {
		t.Fatalf("the test has no capability for %v, %d, %d, %d", s, perms, kind, addr)
	}
	return c
}

// tagged is c with a tag.
func tagged(c Cap) Cap {
	c.Tag = true
	return c
}

// words are numbers of all kinds: single bits and their complements, mixed bits, and what is near the limits.
func words() []uint64 {
	l := []uint64{
		0, 3, 7, 15, 17, 4095, 4097, 511, 513, all - 1, all + 1, all - 16, last, 0x41000, 0x300041000, 0x94000000, 0x98000000,
		0x5555555555555555, 0xaaaaaaaaaaaaaaaa, 0x0123456789abcdef, 0xfedcba9876543210, 0x00000000ffffffff, 0xffffffff00000000,
	}
	for k := range 64 {
		l = append(l, power(k), last-power(k))
	}
	slices.Sort(l)
	return slices.Compact(l)
}

// spans are kept exactly, or not, or are not valid.
func spans() []api.Span {
	l := []api.Span{
		span(0, 0), span(4096, 0), span(5, 0), span(all-1, 0), span(all, 0), span(4096, 16), span(4097, 15), span(0, 4095), span(1, 4096), span(4096, 5000),
		span(1, 8191), span(0, 8192), span(1, 8192), span(0, 8193), span(0, 10001), span(0, 10002), span(7, 10002), span(1<<20, 1<<20), span(1<<20+1, 1<<20),
		span(1<<30, 1<<20), span(all-16, 16), span(all-1, 1), span(all-8192, 8192), span(all-1<<20, 1<<20), span(1<<47, 1<<47), span(0, 1<<47),
		span(0, all), span(0, all-1), span(1, all-1), span(0, all+1), span(all, 1), span(all+1, 0), span(1<<63, 16),
		{Base: 1, Top: 0}, {Base: all, Top: 0}, {Base: last, Top: last}, {Base: last, Top: 0}, {Base: 0, Top: last},
	}
	for x := range 36 {
		l = append(l, span(16384*power(x), 8191*power(x)), span(4095*power(x), 4097*power(x)))
	}
	return l
}

// someWords are a few of all words, for tests that combine them.
func someWords() []uint64 {
	return []uint64{
		0, 1, 16, 511, 512, 4095, 4096, 4112, 16383, 16384, 1 << 20, 1 << 30, 1<<47 - 1, 1 << 47,
		all - 4096, all - 1, all, all + 4096, 1 << 63, last,
	}
}

// The document's constants.
func TestConstants(t *testing.T) {
	if Unsealed != 0 || Sentry != 1 || First != 16 || Last != 4095 {
		t.Error(Unsealed, Sentry, First, Last)
	}
}

// P5.1
func TestNullIsTheNumber(t *testing.T) {
	for _, n := range words() {
		if got := Null(n); got != (Cap{Tag: false, Meta: 0, Addr: n}) {
			t.Errorf("Null(%d) = %v", n, got)
		}
	}
	if Null(0) != (Cap{}) || Null(7) != (Cap{false, 0, 7}) || Null(last) != (Cap{false, 0, last}) {
		t.Errorf("%v, %v, %v", Null(0), Null(7), Null(last))
	}
}

// P5.1
func TestRootOfKnownSpans(t *testing.T) {
	for _, k := range []struct {
		s           api.Span
		perms, meta uint64
	}{
		{span(4096, 16), 3, 0x300041000},
		{span(4096, 16), 0, 0x41000},
		{span(4096, 16), 511, 0x1ff00041000},
		{span(4096, 16), 256, 0x10000041000},
		{span(4096, 0), 3, 0x300001000},
		{span(0, 0), 0, 0},
		{span(0, 0), 511, 0x1ff00000000},
		{span(4096, 5000), 5, 0x504e21000},
		{span(0, 8192), 1, 0x108000000},
		{span(0, 10002), 1, 0x108e24000},
		{span(all-16, 16), 1, 0x100003ff0},
		{span(all-1, 1), 1, 0x100003fff},
		{span(all-1, 0), 1, 0x103ffffff},
		{span(all-1<<20, 1<<20), 1, 0x124003000},
		{span(0, all), 511, 0x1ff94000000},
		{span(1<<47, 1<<47), 511, 0x1ff90001000},
	} {
		if got, ok := Root(k.s, k.perms); got != (Cap{true, k.meta, k.s.Base}) || !ok {
			t.Errorf("Root(%v, %d) = %v, %v, not %x", k.s, k.perms, got, ok, k.meta)
		}
	}
}

// P5.1
func TestRootOfWhatIsNotMade(t *testing.T) {
	for _, k := range []struct {
		s     api.Span
		perms uint64
	}{
		{span(4096, 16), 512}, {span(4096, 16), 513}, {span(4096, 16), 1 << 32}, {span(4096, 16), 1 << 63}, {span(4096, 16), last}, {span(0, 0), 512},
		{span(0, 8193), 3}, {span(1, 8192), 3}, {span(0, 10001), 3}, {span(0, all-1), 3}, {span(1, all-1), 3},
		{span(all, 0), 3}, // the Base is no address
		{span(0, all+1), 3}, {span(all, 1), 3}, {span(all+1, 0), 3}, {span(1<<63, 0), 3},
		{api.Span{Base: 4096, Top: 4095}, 3}, {api.Span{Base: 1, Top: 0}, 0}, {api.Span{Base: last, Top: 0}, 3}, {api.Span{Base: last, Top: last}, 3},
	} {
		if got, ok := Root(k.s, k.perms); got != (Cap{}) || ok {
			t.Errorf("Root(%v, %d) = %v, %v", k.s, k.perms, got, ok)
		}
	}
}

// P5.1
func TestRootIsWhatMakeMakesWithATag(t *testing.T) {
	counts := map[bool]int{}
	for _, s := range spans() {
		for _, perms := range []uint64{0, 1, 3, 27, 256, 510, 511, 512, 1023, last} {
			want, fits := capOf(View{s, perms, 0}, s.Base)
			want.Tag = fits
			counts[fits]++
			if got, ok := Root(s, perms); got != want || ok != fits {
				t.Errorf("Root(%v, %d) = %v, %v, not %v, %v", s, perms, got, ok, want, fits)
			}
		}
	}
	if counts[true] == 0 || counts[false] == 0 {
		t.Error(counts)
	}
}

// P5.2
func TestLookOfKnownCapabilities(t *testing.T) {
	for _, k := range []struct {
		meta, addr uint64
		want       View
	}{
		{0, 0, View{span(0, 0), 0, 0}},
		{0, 7, View{span(0, 0), 0, 0}},
		{0, 12288, View{span(16384, 0), 0, 0}},
		{0, all - 1, View{span(all, 0), 0, 0}},
		{0x300041000, 4096, View{span(4096, 16), 3, 0}},
		{0x300041000, 0, View{span(4096, 16), 3, 0}},
		{0x300041000, 16383, View{span(4096, 16), 3, 0}},
		{0x300041000, 16384, View{span(20480, 16), 3, 0}},
		{0x1000300041000, 4096, View{span(4096, 16), 3, 1}},
		{0xfff01ff00041000, 4096, View{span(4096, 16), 511, 4095}},
		{0x10000041000, 4096, View{span(4096, 16), 256, 0}},
		{0x800000000041000, 4096, View{span(4096, 16), 0, 2048}},
		{0x1ff94000000, 1 << 40, View{span(0, all), 511, 0}},
		// Bits of no part.
		{0xfe0000041000, 4096, View{span(4096, 16), 0, 0}},
		{0xf000000000041000, 4096, View{span(4096, 16), 0, 0}},
		{0xf000fe0000041000, 4096, View{span(4096, 16), 0, 0}},
		{0xffffffff00041000, 4096, View{span(4096, 16), 511, 4095}},
	} {
		for _, tag := range []bool{false, true} {
			c := Cap{tag, k.meta, k.addr}
			if got, ok := Look(c); got != k.want || !ok {
				t.Errorf("Look(%v) = %v, %v, not %v", c, got, ok, k.want)
			}
		}
	}
}

// P5.2: permissions and type are returned all the same.
func TestLookOfCapabilitiesWithoutASpan(t *testing.T) {
	for _, c := range []Cap{
		{false, metaOf(0x98000000, 3, 1), 4096},    // the E is 38
		{false, metaOf(0xfc000000, 3, 1), 4096},    // the E is 63
		{false, metaOf(0xffffffff, 3, 1), 4096},    // and all other bits of the span are set
		{false, metaOf(0x41000, 3, 1), all},        // no address
		{false, metaOf(0x41000, 3, 1), 1 << 63},    // no address
		{false, metaOf(0x41000, 3, 1), last},       // no address
		{false, metaOf(0x5001, 3, 1), 0},           // the Base would be negative
		{false, metaOf(1<<14, 3, 1), all - 1},      // the Top would be above 2^48
		{false, metaOf(0x94004000, 3, 1), 0},       // the Top would be above 2^48
		{false, metaOf(0x41000, 3, 1), 4096 + all}, // an address beside the span, but for a bit that none has
	} {
		for _, perms := range []uint64{0, 1, 256, 511} {
			for _, kind := range []uint64{0, 1, 16, 2048, 4095} {
				c.Meta = metaOf(c.Meta%power(32), perms, kind)
				for _, tag := range []bool{false, true} {
					c.Tag = tag
					if got, ok := Look(c); got != (View{api.Span{}, perms, kind}) || ok {
						t.Errorf("Look(%v) = %v, %v", c, got, ok)
					}
				}
			}
		}
	}
}

// P5.2
func TestLookReadsTheParts(t *testing.T) {
	counts := map[bool]int{}
	for _, meta := range words() {
		for _, addr := range words() {
			for _, tag := range []bool{false, true} {
				c := Cap{tag, meta, addr}
				want, has := viewOf(c)
				counts[has]++
				if got, ok := Look(c); got != want || ok != has {
					t.Fatalf("Look(%v) = %v, %v, not %v, %v", c, got, ok, want, has)
				}
			}
		}
	}
	if counts[true] == 0 || counts[false] == 0 {
		t.Error(counts)
	}
}

// makes asks for the capability without a tag, with that Meta.
func makes(t *testing.T, v View, addr, meta uint64) {
	t.Helper()
	if got, ok := Make(v, addr); got != (Cap{false, meta, addr}) || !ok {
		t.Errorf("Make(%v, %d) = %v, %v, not %x", v, addr, got, ok, meta)
	}
}

func makesNot(t *testing.T, v View, addr uint64) {
	t.Helper()
	if got, ok := Make(v, addr); got != (Cap{}) || ok {
		t.Errorf("Make(%v, %d) = %v, %v", v, addr, got, ok)
	}
}

// P5.3
func TestMakeTakesSpansThatAreKeptExactly(t *testing.T) {
	makes(t, View{span(0, 8191), 3, 0}, 0, 0x307ffc000)
	makes(t, View{span(1, 8191), 3, 0}, 0, 0x304000001)
	makes(t, View{span(0, 8192), 3, 0}, 0, 0x308000000)
	makes(t, View{span(2, 8192), 3, 0}, 2, 0x308004001)
	makes(t, View{span(0, 10002), 3, 0}, 0, 0x308e24000)
	makes(t, View{span(0, all), 3, 0}, 0, 0x394000000)
	makesNot(t, View{span(1, 8192), 3, 0}, 1)
	makesNot(t, View{span(0, 8193), 3, 0}, 0)
	makesNot(t, View{span(0, 10001), 3, 0}, 0)
	makesNot(t, View{span(1, 10002), 3, 0}, 1)
	makesNot(t, View{span(0, all-1), 3, 0}, 0)
	makesNot(t, View{span(1, all-1), 3, 0}, 1)
	for _, s := range []api.Span{{Base: 1, Top: 0}, {Base: 4096, Top: 4095}, span(0, all+1), span(all, 1), span(all+1, 0), {Base: last, Top: 0}, {Base: last, Top: last}} {
		for _, addr := range []uint64{0, 4096, all - 1, all, last} {
			makesNot(t, View{s, 3, 0}, addr)
			makesNot(t, View{s, 0, 0}, addr)
		}
	}
}

// P5.3
func TestMakeTakesPermissionsUpToAll(t *testing.T) {
	for _, s := range []api.Span{span(4096, 16), span(4096, 0), span(0, 0)} {
		f, _ := bounds.Encode(s)
		for perms := range uint64(512) {
			makes(t, View{s, perms, 0}, s.Base, metaOf(bounds.Word(f), perms, 0))
			makes(t, View{s, perms, 4095}, s.Base, metaOf(bounds.Word(f), perms, 4095))
		}
		for _, perms := range []uint64{512, 513, 1023, 1024, 1 << 16, 1 << 32, 1<<32 + 3, 1 << 63, last - 511, last} {
			makesNot(t, View{s, perms, 0}, s.Base)
			makesNot(t, View{s, perms, 4095}, s.Base)
		}
	}
}

// P5.3
func TestMakeTakesTypesUpToLast(t *testing.T) {
	for _, s := range []api.Span{span(4096, 16), span(4096, 0), span(0, 0)} {
		f, _ := bounds.Encode(s)
		for kind := range uint64(4096) {
			makes(t, View{s, 3, kind}, s.Base, metaOf(bounds.Word(f), 3, kind))
		}
		for _, kind := range []uint64{4096, 4097, 4112, 8191, 1 << 16, 1 << 32, 1<<32 + 16, 1 << 63, last - 4095, last} {
			makesNot(t, View{s, 3, kind}, s.Base)
			makesNot(t, View{s, 511, kind}, s.Base)
		}
	}
}

// P5.3
func TestMakeTakesAddressesNearTheSpan(t *testing.T) {
	for _, k := range []struct {
		s               api.Span
		first, lastNear uint64 // the addresses for which the span is restored
	}{
		{span(1<<20, 16), 1<<20 - 4096, 1<<20 + 12287},
		{span(1<<20, 0), 1<<20 - 4096, 1<<20 + 12287},
		{span(4096, 16), 0, 16383},
		{span(4096, 5000), 0, 16383},
		{span(0, 0), 0, 12287},
		{span(1<<30, 1<<20), 1<<30 - 1<<20, 1<<30 + 3<<20 - 1},
		{span(all-16, 16), all - 16 - 4096, all - 1},
		{span(all, 0), all - 4096, all - 1},
		{span(0, all), 0, all - 1},
	} {
		v := View{k.s, 3, 1}
		f, _ := bounds.Encode(k.s)
		for _, addr := range []uint64{k.first, k.first + 1, k.lastNear - 1, k.lastNear} {
			makes(t, v, addr, metaOf(bounds.Word(f), 3, 1))
		}
		for _, addr := range []uint64{k.lastNear + 1, k.lastNear + 2, all, all + 1, all + 4096, 1 << 63, last} {
			makesNot(t, v, addr)
		}
		if k.first > 0 {
			makesNot(t, v, k.first-1)
			makesNot(t, v, 0)
		}
	}
}

// P5.3: for an address that none is, there is no span, which is not to say that it is the zero one.
func TestMakeOfTheZeroViewFarAway(t *testing.T) {
	makes(t, View{}, 0, 0)
	makes(t, View{}, 12287, 0)
	for _, addr := range []uint64{12288, all - 1, all, all + 1, 1 << 63, last} {
		makesNot(t, View{}, addr)
	}
}

// P5.3
func TestMakeAsksForAllConditions(t *testing.T) {
	counts := map[bool]int{}
	for _, s := range spans() {
		for _, perms := range []uint64{0, 3, 511, 512, last} {
			for _, kind := range []uint64{0, 1, 2, 15, 16, 4095, 4096, last} {
				for _, addr := range append(someWords(), s.Base, s.Base-1, s.Top) {
					v := View{s, perms, kind}
					want, fits := capOf(v, addr)
					counts[fits]++
					if got, ok := Make(v, addr); got != want || ok != fits {
						t.Fatalf("Make(%v, %d) = %v, %v, not %v, %v", v, addr, got, ok, want, fits)
					}
				}
			}
		}
	}
	if counts[true] == 0 || counts[false] == 0 {
		t.Error(counts)
	}
}

// rightOnes are well-formed, without a tag.
func rightOnes(t *testing.T) []Cap {
	return []Cap{
		{}, Null(7), Null(12288), Null(all - 1),
		made(t, span(4096, 16), 0, 0, 4096), made(t, span(4096, 16), 3, 0, 0), made(t, span(4096, 16), 511, 4095, 16383), made(t, span(4096, 0), 3, 1, 4096),
		made(t, span(0, all), 511, 0, all-1), made(t, span(1<<30, 1<<20), 256, 16, 1<<30-1<<20), made(t, span(all-16, 16), 1, 2048, all-1),
		made(t, span(4096, 16), 3, 2, 4096), made(t, span(4096, 16), 3, 15, 4096), // types that no capability is sealed with
		{false, 0x300041000, 16384}, // of another span than the one at 4096
	}
}

// wrongOnes are not well-formed, without a tag.
func wrongOnes(t *testing.T) []Cap {
	l := []Cap{
		Null(all), Null(all + 4096), Null(1 << 63), Null(last),
		{false, metaOf(0x98000000, 3, 0), 4096}, {false, metaOf(0xffffffff, 3, 0), 4096}, {false, metaOf(0x41000, 3, 0), all}, {false, metaOf(0x41000, 3, 0), all + 4096},
		{false, metaOf(0x5001, 3, 0), 0}, {false, metaOf(1<<14, 3, 0), all - 1}, {false, metaOf(0x94004000, 511, 0), 0}, {false, last, 0}, {false, last, last},
		{false, 0xffffffff00041000, 4096}, {false, 0xfe0000041000, 4096}, {false, 0xf000000000041000, 4096},
	}
	for _, k := range otherBits() {
		for _, c := range rightOnes(t) {
			c.Meta += power(k)
			l = append(l, c)
		}
	}
	return l
}

// P5.4
func TestRightOfWellFormedOnes(t *testing.T) {
	for _, c := range rightOnes(t) {
		if !Right(c) || !Right(tagged(c)) {
			t.Errorf("Right(%v) = %v, with a tag %v", c, Right(c), Right(tagged(c)))
		}
	}
}

// P5.4: each of the other bits alone is among these.
func TestRightOfOnesThatAreNotWellFormed(t *testing.T) {
	for _, c := range wrongOnes(t) {
		if Right(c) || Right(tagged(c)) {
			t.Errorf("Right(%v) = %v, with a tag %v", c, Right(c), Right(tagged(c)))
		}
	}
}

// P5.4: the bits of permissions and type are all allowed.
func TestRightOfSingleBits(t *testing.T) {
	for k := 32; k < 64; k++ {
		want := !slices.Contains(otherBits(), k)
		for _, c := range []Cap{{false, power(k), 0}, {false, power(k) + 0x41000, 4096}, {false, power(k) + 0x94000000, all - 1}} {
			if Right(c) != want || Right(tagged(c)) != want {
				t.Errorf("Right(%v) = %v, with a tag %v", c, Right(c), Right(tagged(c)))
			}
		}
	}
}

// P5.4
func TestRightAsksForASpanAndNoOtherBits(t *testing.T) {
	counts := map[bool]int{}
	for _, meta := range words() {
		for _, addr := range words() {
			for _, tag := range []bool{false, true} {
				c := Cap{tag, meta, addr}
				want := rightOf(c)
				counts[want]++
				if got := Right(c); got != want {
					t.Fatalf("Right(%v) = %v", c, got)
				}
			}
		}
	}
	if counts[true] == 0 || counts[false] == 0 {
		t.Error(counts)
	}
}

// within asks for Within, whichever of the two have tags.
func within(t *testing.T, a, b Cap, want bool) {
	t.Helper()
	for _, p := range [][2]Cap{{a, b}, {tagged(a), b}, {a, tagged(b)}, {tagged(a), tagged(b)}} {
		if got := Within(p[0], p[1]); got != want {
			t.Errorf("Within(%v, %v) = %v", p[0], p[1], got)
		}
	}
}

// P5.4
func TestWithinOfItself(t *testing.T) {
	for _, c := range rightOnes(t) {
		within(t, c, c, true)
	}
	for _, c := range wrongOnes(t) {
		within(t, c, c, false)
	}
}

// P5.4
func TestWithinComparesSpans(t *testing.T) {
	outer := made(t, span(4096, 64), 3, 0, 4096)
	for _, k := range []struct {
		s    api.Span
		want bool
	}{
		{span(4096, 64), true}, {span(4096, 63), true}, {span(4097, 63), true}, {span(4110, 1), true}, {span(4096, 1), true}, {span(4159, 1), true},
		{span(4096, 65), false}, {span(4095, 65), false}, {span(4095, 64), false}, {span(4097, 64), false}, {span(4095, 66), false},
		{span(4095, 1), false}, {span(4160, 1), false}, {span(4000, 100), false}, {span(4150, 100), false}, {span(0, 16), false}, {span(8192, 16), false}, {span(0, all), false},
		// Empty spans at its ends, inside and outside.
		{span(4096, 0), true}, {span(4160, 0), true}, {span(4097, 0), true}, {span(4128, 0), true}, {span(4159, 0), true},
		{span(4095, 0), false}, {span(4161, 0), false}, {span(0, 0), false}, {span(8192, 0), false}, {span(1<<40, 0), false}, {span(all-1, 0), false},
	} {
		within(t, made(t, k.s, 3, 0, k.s.Base), outer, k.want)
	}
}

// P5.4
func TestWithinOfAnEmptySpan(t *testing.T) {
	outer := made(t, span(4096, 0), 3, 0, 4096)
	for _, k := range []struct {
		s    api.Span
		want bool
	}{
		{span(4096, 0), true}, {span(4095, 0), false}, {span(4097, 0), false}, {span(0, 0), false},
		{span(4096, 1), false}, {span(4095, 1), false}, {span(4095, 2), false}, {span(0, all), false},
	} {
		within(t, made(t, k.s, 3, 0, k.s.Base), outer, k.want)
	}
	whole := made(t, span(0, all), 3, 0, 0)
	within(t, made(t, span(0, 0), 3, 0, 0), whole, true)
	within(t, made(t, span(all, 0), 3, 0, all-1), whole, true)
	within(t, whole, made(t, span(0, 0), 3, 0, 0), false)
	within(t, made(t, span(all, 0), 3, 0, all-1), made(t, span(all-16, 16), 3, 0, all-16), true)
	within(t, made(t, span(all, 0), 3, 0, all-1), made(t, span(all-32, 16), 3, 0, all-16), false)
}

// P5.4
func TestWithinComparesPermissions(t *testing.T) {
	for _, k := range []struct {
		inner, outer uint64
		want         bool
	}{
		{0, 0, true}, {0, 3, true}, {1, 3, true}, {2, 3, true}, {3, 3, true}, {3, 511, true}, {511, 511, true}, {0, 511, true}, {256, 511, true}, {510, 511, true},
		{3, 0, false}, {3, 1, false}, {3, 2, false}, {4, 3, false}, {7, 3, false}, {1, 2, false}, {2, 1, false}, {511, 510, false}, {511, 255, false}, {256, 255, false}, {511, 0, false},
	} {
		outer := made(t, span(4096, 64), k.outer, 0, 4096)
		for _, s := range []api.Span{span(4096, 64), span(4100, 8), span(4096, 0), span(4160, 0)} {
			within(t, made(t, s, k.inner, 0, s.Base), outer, k.want)
		}
		within(t, made(t, span(4095, 65), k.inner, 0, 4096), outer, false)
	}
}

// P5.4: neither types nor addresses are compared, as long as the spans are those.
func TestWithinIgnoresTypesAndAddresses(t *testing.T) {
	for _, inner := range []uint64{0, 1, 2, 16, 4095} {
		for _, outer := range []uint64{0, 1, 2, 16, 4095} {
			within(t, made(t, span(4100, 8), 1, inner, 16383), made(t, span(4096, 64), 3, outer, 0), true)
			within(t, made(t, span(4090, 8), 1, inner, 4100), made(t, span(4096, 64), 3, outer, 4090), false)
		}
	}
}

// P5.4
func TestWithinOfOnesThatAreNotWellFormed(t *testing.T) {
	whole := made(t, span(0, all), 511, 0, 0)
	inside := made(t, span(4096, 16), 3, 0, 4096)
	nothing := made(t, span(0, 0), 0, 0, 0)
	for _, wrong := range wrongOnes(t) {
		for _, right := range []Cap{whole, inside, nothing} {
			within(t, wrong, right, false)
			within(t, right, wrong, false)
		}
	}
	for _, k := range otherBits() {
		wrong := whole
		wrong.Meta += power(k)
		within(t, inside, wrong, false)
		within(t, wrong, whole, false)
		wrong = inside
		wrong.Meta += power(k)
		within(t, wrong, whole, false)
		within(t, wrong, inside, false)
	}
}

// P5.4
func TestWithinOfAllPairs(t *testing.T) {
	caps := append(rightOnes(t), wrongOnes(t)[:20]...)
	for _, s := range spans() {
		for _, perms := range []uint64{0, 3, 511} {
			if c, ok := capOf(View{s, perms, 0}, s.Base); ok {
				caps = append(caps, c)
			}
		}
	}
	counts := map[bool]int{}
	for _, a := range caps {
		for _, b := range caps {
			inner, _ := viewOf(a)
			outer, _ := viewOf(b)
			want := rightOf(a) && rightOf(b) && outer.Span.Base <= inner.Span.Base && inner.Span.Top <= outer.Span.Top
			for k := range 9 {
				want = want && (inner.Perms/power(k)%2 == 0 || outer.Perms/power(k)%2 == 1)
			}
			counts[want]++
			if got := Within(a, b); got != want {
				t.Fatalf("Within(%v, %v) = %v", a, b, got)
			}
		}
	}
	if counts[true] == 0 || counts[false] == 0 {
		t.Error(counts)
	}
}

// P5.5
func TestBytesAndOfOfKnownCapabilities(t *testing.T) {
	for _, k := range []struct {
		meta, addr uint64
		b          [16]byte
	}{
		{0, 0, [16]byte{}},
		{0, 1, [16]byte{0: 1}},
		{1, 0, [16]byte{8: 1}},
		{0, 1 << 63, [16]byte{7: 0x80}},
		{1 << 63, 0, [16]byte{15: 0x80}},
		{0x300041000, 0x1000, [16]byte{1: 0x10, 9: 0x10, 10: 4, 12: 3}},
		{0x1112131415161718, 0x0102030405060708, [16]byte{8, 7, 6, 5, 4, 3, 2, 1, 0x18, 0x17, 0x16, 0x15, 0x14, 0x13, 0x12, 0x11}},
		{0x8899aabbccddeeff, 0xf0e1d2c3b4a59687, [16]byte{0x87, 0x96, 0xa5, 0xb4, 0xc3, 0xd2, 0xe1, 0xf0, 0xff, 0xee, 0xdd, 0xcc, 0xbb, 0xaa, 0x99, 0x88}},
		{0, last, [16]byte{255, 255, 255, 255, 255, 255, 255, 255}},
		{last, 0, [16]byte{8: 255, 9: 255, 10: 255, 11: 255, 12: 255, 13: 255, 14: 255, 15: 255}},
	} {
		for _, tag := range []bool{false, true} {
			c := Cap{tag, k.meta, k.addr}
			if got := Bytes(c); got != k.b {
				t.Errorf("Bytes(%v) = %v, not %v", c, got, k.b)
			}
			if got := Of(k.b, tag); got != c {
				t.Errorf("Of(%v, %v) = %v, not %v", k.b, tag, got, c)
			}
		}
	}
}

// P5.5
func TestBytesAreLeastSignificantFirst(t *testing.T) {
	for _, meta := range words() {
		for _, addr := range words() {
			var want [16]byte
			for i := range 8 {
				want[i] = byte(addr / power(8*i) % 256)
				want[8+i] = byte(meta / power(8*i) % 256)
			}
			for _, tag := range []bool{false, true} {
				c := Cap{tag, meta, addr}
				if got := Bytes(c); got != want {
					t.Fatalf("Bytes(%v) = %v, not %v", c, got, want)
				}
				if got := Of(want, tag); got != c {
					t.Fatalf("Of(%v, %v) = %v, not %v", want, tag, got, c)
				}
			}
		}
	}
}

// P5.6
func TestLookRestoresTheView(t *testing.T) {
	met := 0
	for _, s := range spans() {
		for _, perms := range []uint64{0, 3, 257, 511} {
			for _, kind := range []uint64{0, 1, 2, 16, 4095} {
				for _, addr := range append(someWords(), s.Base, s.Top) {
					v := View{s, perms, kind}
					c, ok := Make(v, addr)
					if !ok {
						continue
					}
					met++
					if got, has := Look(c); got != v || !has || !Right(c) || c.Tag || c.Addr != addr {
						t.Fatalf("Look(Make(%v, %d)) = %v, %v", v, addr, got, has)
					}
				}
			}
		}
	}
	if met == 0 {
		t.Error("none was made")
	}
}

// P5.6
func TestBytesRestoresTheBytes(t *testing.T) {
	state := uint64(1)
	for range 1 << 14 {
		var b [16]byte
		for i := range b {
			state = state*6364136223846793005 + 1442695040888963407
			b[i] = byte(state / power(56))
		}
		for _, tag := range []bool{false, true} {
			if c := Of(b, tag); Bytes(c) != b || c.Tag != tag {
				t.Fatalf("Bytes(Of(%v, %v)) = %v", b, tag, Bytes(c))
			}
		}
	}
	for i := range 16 {
		for v := range 256 {
			var b [16]byte
			b[i] = byte(v)
			if Bytes(Of(b, true)) != b || Bytes(Of(b, false)) != b {
				t.Fatalf("Bytes(Of(%v)) = %v", b, Bytes(Of(b, true)))
			}
		}
	}
}

// The example of the chapter.
func TestExamples(t *testing.T) {
	c, ok := Root(api.Span{Base: 4096, Top: 4112}, 3)
	if !ok || !c.Tag || c.Addr != 4096 {
		t.Errorf("Root: %v, %v", c, ok)
	}
	if f := bounds.Of(c.Meta); c.Meta/power(32) != 3 || f.T != 16 || f.B != 4096 {
		t.Errorf("Root: Meta %x", c.Meta)
	}
	if n := Null(7); n.Addr != 7 || n.Tag {
		t.Errorf("Null: %v", n)
	}
}
