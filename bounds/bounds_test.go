package bounds

import (
	"math"
	"slices"
	"testing"

	"mintmark/api"
)

const all = 1 << 48 // how many addresses there are

// power is 2^e, found without shifts.
func power(e int) uint64 {
	p := uint64(1)
	for range e {
		p *= 2
	}
	return p
}

// exponentOf is the chapter's x of an E that is valid.
func exponentOf(e uint64) int {
	if e == 0 {
		return 0
	}
	return int(e) - 1
}

// span is the one from base on with that length.
func span(base, length uint64) api.Span { return api.Span{Base: base, Top: base + length} }

func validSpan(s api.Span) bool { return s.Base <= s.Top && s.Top <= all }

// extendedBy is the valid span s extended to multiples of the E's steps, and whether it is then representable, as the chapter defines it.
func extendedBy(s api.Span, e uint64) (api.Span, bool) {
	step := power(exponentOf(e))
	wide := api.Span{Base: s.Base / step * step, Top: (s.Top + step - 1) / step * step}
	steps := (wide.Top - wide.Base) / step
	if e == 0 {
		return wide, steps < 4096
	}
	return wide, 4096 <= steps && steps < 8192
}

// leastOf is the least E that represents the valid span s, and the span that s is extended to.
func leastOf(t *testing.T, s api.Span) (uint64, api.Span) {
	t.Helper()
	for e := uint64(0); e <= 37; e++ {
		if wide, ok := extendedBy(s, e); ok {
			return e, wide
		}
	}
	t.Fatalf("the test has no E for %v", s)
	return 0, api.Span{}
}

// fieldsOf are the fields of a span that is representable with e.
func fieldsOf(s api.Span, e uint64) Fields {
	step := power(exponentOf(e))
	return Fields{B: s.Base / step % 16384, T: s.Top / step % 4096, E: e}
}

// decoded is what the chapter asks of Decode, with signed numbers, of which none is great enough to overflow.
func decoded(f Fields, addr uint64) (api.Span, bool) {
	if f.B > 16383 || f.T > 4095 || f.E > 37 || addr > all-1 {
		return api.Span{}, false
	}
	step := int64(power(exponentOf(f.E)))
	length := modulo(int64(f.T)-int64(f.B), 4096)
	if f.E != 0 {
		length += 4096
	}
	a := int64(addr) / step
	base := a - modulo(a-int64(f.B)+4096, 16384) + 4096
	if base < 0 || (base+length)*step > all {
		return api.Span{}, false
	}
	return api.Span{Base: uint64(base * step), Top: uint64((base + length) * step)}, true
}

func modulo(x, m int64) int64 { return (x%m + m) % m }

func sorted(l []uint64) []uint64 {
	slices.Sort(l)
	return slices.Compact(l)
}

// lengths are those at which the least E changes, at each exponent, with their neighbours; and some between.
func lengths() []uint64 {
	l := []uint64{0, 1, 2, 15, 16, 17, 1000, 5000, 10001, 100001, 123456789, 0x123456789abc, all - 2, all - 1, all}
	for x := range 36 {
		step := power(x)
		for _, steps := range []uint64{4095, 4096, 4097, 6001, 8190, 8191, 8192} {
			l = append(l, steps*step-1, steps*step, steps*step+1)
		}
		l = append(l, 8191*step+step/2, 8190*step+step/2, 8190*step+2)
	}
	return sorted(slices.DeleteFunc(l, func(n uint64) bool { return n > all }))
}

// starts are addresses from 0 to 2^48 at which spans may begin.
func starts() []uint64 {
	l := []uint64{0, 1, 2, 3, 4095, 4096, 4097, 16383, 16384, 16385, 0x555555555555, 0xaaaaaaaaaaaa, 0x123456789abc, all - 2, all - 1, all}
	for x := range 48 {
		l = append(l, power(x)-1, power(x), power(x)+1, all-power(x), all-power(x)+1, all-power(x)-1, 0x7edcba987654/power(x)*power(x))
	}
	return sorted(l)
}

// spans are all valid ones of those starts and lengths, and those of the lengths that end at 2^48.
func spans() []api.Span {
	var l []api.Span
	for _, n := range lengths() {
		for _, base := range append(starts(), all-n) {
			if s := span(base, n); validSpan(s) {
				l = append(l, s)
			}
		}
	}
	return l
}

// wrongSpans are not valid.
func wrongSpans() []api.Span {
	const last = math.MaxUint64
	return []api.Span{
		{Base: 1, Top: 0}, {Base: 4096, Top: 4095}, {Base: all, Top: all - 1}, {Base: all, Top: 0}, {Base: last, Top: 0}, {Base: last, Top: all},
		{Base: 0, Top: all + 1}, {Base: all - 1, Top: all + 1}, {Base: all, Top: all + 1}, {Base: all + 1, Top: all + 1}, {Base: all + 1, Top: all},
		{Base: 0, Top: last}, {Base: last, Top: last}, {Base: 1 << 63, Top: 1 << 63}, {Base: 0, Top: 1 << 49}, {Base: last, Top: last - 1},
	}
}

// P3.1
func TestEncodeHasNoFieldsForWrongSpans(t *testing.T) {
	for _, s := range wrongSpans() {
		if f, ok := Encode(s); ok || f != (Fields{}) {
			t.Errorf("Encode(%v) = %v, %v", s, f, ok)
		}
	}
}

// P3.1
func TestEncodeTakesTheLeastExponent(t *testing.T) {
	for _, s := range spans() {
		e, wide := leastOf(t, s)
		if f, ok := Encode(s); f != fieldsOf(wide, e) || ok != (wide == s) {
			t.Fatalf("Encode(%v) = %v, %v, not %v, %v", s, f, ok, fieldsOf(wide, e), wide == s)
		}
	}
}

// P3.1
func TestEncodeOfKnownSpans(t *testing.T) {
	for _, k := range []struct {
		s     api.Span
		want  Fields
		exact bool
	}{
		{span(0, 0), Fields{0, 0, 0}, true},
		{span(5, 0), Fields{5, 5, 0}, true},
		{span(all, 0), Fields{0, 0, 0}, true},
		{span(all-1, 0), Fields{16383, 4095, 0}, true},
		{span(all-1, 1), Fields{16383, 0, 0}, true},
		{span(4096, 16), Fields{4096, 16, 0}, true},
		{span(16384, 1), Fields{0, 1, 0}, true},
		{span(0, 4095), Fields{0, 4095, 0}, true},
		{span(1, 4095), Fields{1, 0, 0}, true},
		{span(0, 4096), Fields{0, 0, 1}, true},
		{span(1, 4096), Fields{1, 1, 1}, true},
		{span(4096, 5000), Fields{4096, 904, 1}, true},
		{span(0, 8191), Fields{0, 4095, 1}, true},
		{span(1, 8191), Fields{1, 0, 1}, true},
		{span(0, 8192), Fields{0, 0, 2}, true},
		{span(2, 8192), Fields{1, 1, 2}, true},
		{span(1, 8192), Fields{0, 1, 2}, false},    // 0 to 8194
		{span(0, 8193), Fields{0, 1, 2}, false},    // 0 to 8194
		{span(0, 10001), Fields{0, 905, 2}, false}, // 0 to 10002
		{span(1, 10001), Fields{0, 905, 2}, false}, // 0 to 10002
		{span(0, 16382), Fields{0, 4095, 2}, true},
		{span(1, 16382), Fields{0, 0, 3}, false}, // 0 to 16384: with steps of 2, these are 8192
		{span(0, 16383), Fields{0, 0, 3}, false},
		{span(0, 1<<20), Fields{0, 0, 9}, true},
		{span(all-1<<20, 1<<20), Fields{12288, 0, 9}, true},
		{span(1<<47, 1<<47), Fields{4096, 0, 36}, true},
		{span(0, all-1<<35), Fields{0, 4095, 36}, true},
		{span(0, all-1<<35+1), Fields{0, 0, 37}, false},
		{span(1, all-1), Fields{0, 0, 37}, false},
		{span(0, all-1), Fields{0, 0, 37}, false},
		{span(0, all), Fields{0, 0, 37}, true},
	} {
		if f, ok := Encode(k.s); f != k.want || ok != k.exact {
			t.Errorf("Encode(%v) = %v, %v, not %v, %v", k.s, f, ok, k.want, k.exact)
		}
	}
}

// wrongFields are not valid, each by one field only, or by several.
func wrongFields() []Fields {
	const last = math.MaxUint64
	return []Fields{
		{B: 16384}, {B: 16385}, {B: 32768}, {B: 1 << 32}, {B: last}, {B: 1 << 63},
		{T: 4096}, {T: 4097}, {T: 8192}, {T: 1 << 32}, {T: last}, {T: 1 << 63},
		{E: 38}, {E: 39}, {E: 63}, {E: 64}, {E: 65}, {E: 128}, {E: 1 << 32}, {E: last}, {E: 1 << 63},
		{16384, 4096, 38}, {last, last, last}, {16383, 4095, 38}, {16383, 4096, 37}, {16384, 4095, 37},
	}
}

// P3.2
func TestDecodeHasNoSpanForWrongFields(t *testing.T) {
	for _, f := range wrongFields() {
		for _, addr := range []uint64{0, 4096, 1 << 47, all - 1, all, math.MaxUint64} {
			if s, ok := Decode(f, addr); ok || s != (api.Span{}) {
				t.Errorf("Decode(%v, %d) = %v, %v", f, addr, s, ok)
			}
		}
	}
}

// P3.2
func TestDecodeHasNoSpanForWrongAddresses(t *testing.T) {
	for _, f := range []Fields{{0, 0, 0}, {16, 32, 0}, {0, 0, 1}, {0, 0, 36}, {0, 0, 37}} {
		for _, addr := range []uint64{all, all + 1, all + 4096, all + 16, 1 << 49, 1 << 63, math.MaxUint64} {
			if s, ok := Decode(f, addr); ok || s != (api.Span{}) {
				t.Errorf("Decode(%v, %d) = %v, %v", f, addr, s, ok)
			}
		}
	}
}

// P3.2
func TestDecodeIsTheSpanNearTheAddress(t *testing.T) {
	bs := []uint64{0, 1, 2, 4094, 4095, 4096, 4097, 8191, 8192, 8193, 12287, 12288, 12289, 16382, 16383, 16384}
	ts := []uint64{0, 1, 2, 2047, 2048, 4094, 4095, 4096}
	addrs := slices.DeleteFunc(starts(), func(a uint64) bool { return a >= all })
	spansMet, noneMet := 0, 0
	for e := uint64(0); e <= 38; e++ {
		for _, b := range bs {
			for _, top := range ts {
				f := Fields{b, top, e}
				for _, addr := range addrs {
					want, fits := decoded(f, addr)
					if s, ok := Decode(f, addr); s != want || ok != fits {
						t.Fatalf("Decode(%v, %d) = %v, %v, not %v, %v", f, addr, s, ok, want, fits)
					}
					if fits {
						spansMet++
					} else {
						noneMet++
					}
				}
			}
		}
	}
	if spansMet == 0 || noneMet == 0 {
		t.Errorf("%d spans, %d times none", spansMet, noneMet)
	}
}

// P3.2
func TestDecodeOfKnownFields(t *testing.T) {
	for _, k := range []struct {
		f    Fields
		addr uint64
		want api.Span
	}{
		{Fields{4096, 16, 0}, 4096, span(4096, 16)},
		{Fields{4096, 904, 1}, 4096, span(4096, 5000)},
		{Fields{0, 0, 0}, 0, span(0, 0)},
		{Fields{0, 4095, 0}, 0, span(0, 4095)},
		{Fields{0, 0, 1}, 0, span(0, 4096)},
		{Fields{0, 4095, 1}, 0, span(0, 8191)},
		{Fields{1, 0, 1}, 0, span(1, 8191)},
		{Fields{0, 0, 2}, 1, span(0, 8192)},
		{Fields{0, 0, 36}, 0, span(0, 1<<47)},
		{Fields{0, 4095, 36}, 0, span(0, all-1<<35)},
		{Fields{4096, 0, 36}, all - 1, span(1<<47, 1<<47)},
		{Fields{0, 0, 37}, 0, span(0, all)},
		{Fields{0, 0, 37}, all - 1, span(0, all)},
		// The Base is at most 4096 steps above the address, and less than 3 times 4096 below it.
		{Fields{4096, 0, 0}, 0, span(4096, 0)},
		{Fields{4097, 1, 0}, 1, span(4097, 0)},
		{Fields{16383, 4095, 0}, 12287, span(16383, 0)},
		{Fields{0, 0, 0}, 12287, span(0, 0)},
		{Fields{0, 0, 0}, 12288, span(16384, 0)},
		{Fields{8192, 0, 0}, 12288, span(8192, 0)},
		{Fields{0, 0, 3}, 4*12288 - 1, span(0, 16384)},
		{Fields{0, 0, 3}, 4 * 12288, span(65536, 16384)},
		// The Top is at most 2^48.
		{Fields{0, 0, 0}, all - 1, span(all, 0)},
		{Fields{16383, 0, 0}, all - 1, span(all-1, 1)},
		{Fields{12288, 0, 1}, all - 1, span(all-4096, 4096)},
	} {
		if s, ok := Decode(k.f, k.addr); s != k.want || !ok {
			t.Errorf("Decode(%v, %d) = %v, %v, not %v", k.f, k.addr, s, ok, k.want)
		}
	}
}

// outside are fields that are valid, and addresses beside which they have no span.
func outside() []beside {
	return []beside{
		// The Base would be negative.
		{Fields{4097, 1, 0}, 0},
		{Fields{16383, 4095, 0}, 0},
		{Fields{16383, 4095, 0}, 12286},
		{Fields{8192, 0, 0}, 100},
		{Fields{4097, 1, 1}, 0},
		{Fields{4097, 1, 9}, 255},
		{Fields{4097, 1, 36}, 0},
		{Fields{16383, 4095, 37}, 0},
		{Fields{16383, 4095, 37}, all - 1},
		// The Top would be above 2^48.
		{Fields{16383, 1, 0}, all - 1},
		{Fields{0, 1, 0}, all - 1},
		{Fields{1, 1, 0}, all - 1},
		{Fields{12288, 1, 1}, all - 1},
		{Fields{12289, 0, 1}, all - 1},
		{Fields{4097, 0, 36}, all - 1},
		{Fields{4097, 1, 36}, all - 1},
		{Fields{0, 1, 37}, 0},
		{Fields{1, 1, 37}, 0},
	}
}

type beside struct {
	f    Fields
	addr uint64
}

// P3.2
func TestDecodeHasNoSpanOutsideTheAddresses(t *testing.T) {
	for _, k := range outside() {
		if s, ok := Decode(k.f, k.addr); ok || s != (api.Span{}) {
			t.Errorf("Decode(%v, %d) = %v, %v", k.f, k.addr, s, ok)
		}
	}
}

// P3.3
func TestRoundedIsTheExtendedSpan(t *testing.T) {
	for _, s := range spans() {
		_, wide := leastOf(t, s)
		if got, ok := Rounded(s); got != wide || !ok {
			t.Fatalf("Rounded(%v) = %v, %v, not %v", s, got, ok, wide)
		}
	}
}

// P3.3
func TestRoundedOfWrongSpansIsNone(t *testing.T) {
	for _, s := range wrongSpans() {
		if got, ok := Rounded(s); ok || got != (api.Span{}) {
			t.Errorf("Rounded(%v) = %v, %v", s, got, ok)
		}
	}
}

// P3.3
func TestRoundedOfKnownSpans(t *testing.T) {
	for s, want := range map[api.Span]api.Span{
		span(0, 0):               span(0, 0),
		span(all, 0):             span(all, 0),
		span(7, 4095):            span(7, 4095),
		span(7, 8191):            span(7, 8191),
		span(7, 8192):            span(6, 8194),
		span(8, 8193):            span(8, 8194),
		span(1, 16382):           span(0, 16384),
		span(3, 16380):           span(2, 16382),
		span(all-8193, 8193):     span(all-8194, 8194),
		span(1, all-1):           span(0, all),
		span(1, all-2):           span(0, all),
		span(0, all):             span(0, all),
		span(1<<47-1, 2):         span(1<<47-1, 2),
		span(1<<47-1, 1<<47):     span(1<<47-1<<35, 1<<47+1<<35),
		span(1<<47-1, 1<<47+1):   span(1<<47-1<<35, 1<<47+1<<35),
		span(1<<30, 1<<30+1):     span(1<<30, 1<<30+1<<18),
		span(1<<30-1, 1<<30):     span(1<<30-1<<18, 1<<30+1<<18),
		span(1<<30+1<<18, 1<<30): span(1<<30+1<<18, 1<<30),
	} {
		if got, ok := Rounded(s); got != want || !ok {
			t.Errorf("Rounded(%v) = %v, %v, not %v", s, got, ok, want)
		}
	}
}

// P3.4
func TestNearIsTheSameSpanBesideBoth(t *testing.T) {
	addrs := []uint64{
		0, 1, 4095, 4096, 4097, 8191, 8192, 12286, 12287, 12288, 16383, 16384, 20479, 20480, 28671, 28672, 1 << 20, 3 << 20,
		1 << 47, all - 16384, all - 8192, all - 4097, all - 4096, all - 1, all, all + 4096, math.MaxUint64,
	}
	counts := map[bool]int{}
	for _, e := range []uint64{0, 1, 2, 9, 30, 36, 37, 38} {
		for _, b := range []uint64{0, 1, 4096, 4097, 8192, 12288, 16383, 16384} {
			for _, top := range []uint64{0, 1, 16, 4095, 4096} {
				f := Fields{b, top, e}
				for _, addr := range addrs {
					here, has := decoded(f, addr)
					for _, other := range addrs {
						there, hasToo := decoded(f, other)
						want := has && hasToo && here == there
						counts[want]++
						if got := Near(f, addr, other); got != want {
							t.Fatalf("Near(%v, %d, %d) = %v", f, addr, other, got)
						}
					}
				}
			}
		}
	}
	if counts[true] == 0 || counts[false] == 0 {
		t.Error(counts)
	}
}

// P3.4
func TestNearOfKnownFields(t *testing.T) {
	f := Fields{4096, 16, 0} // of 4096 to 4112
	for _, k := range []struct {
		f           Fields
		addr, other uint64
		want        bool
	}{
		{f, 4096, 4096, true}, {f, 4096, 4112, true}, {f, 4096, 0, true}, {f, 0, 16383, true},
		{f, 4096, 16384, false}, {f, 16384, 4096, false}, {f, 16384, 20480, true}, {f, 0, 1 << 40, false},
		{Fields{0, 0, 37}, 0, all - 1, true}, {Fields{0, 0, 37}, 0, all, false}, {Fields{0, 0, 37}, all, 0, false}, {Fields{0, 0, 37}, all, all, false},
		// Only one of the two has a span, and then it is one without addresses at 0, as the zero span is.
		{Fields{0, 0, 0}, 0, all, false}, {Fields{0, 0, 0}, all, 0, false}, {Fields{0, 0, 0}, 0, 12287, true},
		{Fields{12289, 1, 0}, 8193, 0, false}, {Fields{12289, 1, 0}, 0, 8193, false}, {Fields{12289, 1, 0}, 8193, 20480, true},
	} {
		if got := Near(k.f, k.addr, k.other); got != k.want {
			t.Errorf("Near(%v, %d, %d) = %v", k.f, k.addr, k.other, got)
		}
	}
}

// P3.4: to have no span is not to have the same one.
func TestNearOfNoneIsFalse(t *testing.T) {
	for _, k := range outside() {
		if Near(k.f, k.addr, k.addr) {
			t.Errorf("Near(%v, %d, %d)", k.f, k.addr, k.addr)
		}
	}
	for _, f := range wrongFields() {
		if Near(f, 4096, 4096) || Near(f, 0, 0) {
			t.Errorf("Near(%v)", f)
		}
	}
}

// P3.5
func TestLengthAndAlignOfAllLengths(t *testing.T) {
	for _, n := range lengths() {
		e, wide := leastOf(t, span(0, n))
		if got, ok := Length(n); got != wide.Top-wide.Base || !ok {
			t.Errorf("Length(%d) = %d, %v, not %d", n, got, ok, wide.Top-wide.Base)
		}
		if got, ok := Align(n); got != exponentOf(e) || !ok {
			t.Errorf("Align(%d) = %d, %v, not %d", n, got, ok, exponentOf(e))
		}
	}
}

// P3.5
func TestLengthAndAlignOfKnownLengths(t *testing.T) {
	for _, k := range []struct {
		n, length uint64
		align     int
	}{
		{0, 0, 0}, {1, 1, 0}, {4095, 4095, 0}, {4096, 4096, 0}, {4097, 4097, 0}, {8191, 8191, 0},
		{8192, 8192, 1}, {8193, 8194, 1}, {10001, 10002, 1}, {16382, 16382, 1}, {16383, 16384, 2}, {16384, 16384, 2}, {16385, 16388, 2},
		{1 << 20, 1 << 20, 8}, {1<<20 + 1, 1<<20 + 256, 8}, {1<<47 - 1, 1 << 47, 35}, {1<<47 + 1, 1<<47 + 1<<35, 35},
		{all - 1<<35, all - 1<<35, 35}, {all - 1<<35 + 1, all, 36}, {all - 1, all, 36}, {all, all, 36},
	} {
		if got, ok := Length(k.n); got != k.length || !ok {
			t.Errorf("Length(%d) = %d, %v, not %d", k.n, got, ok, k.length)
		}
		if got, ok := Align(k.n); got != k.align || !ok {
			t.Errorf("Align(%d) = %d, %v, not %d", k.n, got, ok, k.align)
		}
	}
}

// P3.5
func TestLengthAndAlignAboveAllAddresses(t *testing.T) {
	for _, n := range []uint64{all + 1, all + 2, all + 4096, 2 * all, 1 << 63, math.MaxUint64} {
		if got, ok := Length(n); got != 0 || ok {
			t.Errorf("Length(%d) = %d, %v", n, got, ok)
		}
		if got, ok := Align(n); got != 0 || ok {
			t.Errorf("Align(%d) = %d, %v", n, got, ok)
		}
	}
}

// P3.6
func TestWordOfKnownFields(t *testing.T) {
	const last = math.MaxUint64
	for _, k := range []struct {
		f    Fields
		want uint64
	}{
		{Fields{}, 0}, {Fields{1, 0, 0}, 1}, {Fields{0, 1, 0}, 1 << 14}, {Fields{0, 0, 1}, 1 << 26},
		{Fields{16383, 0, 0}, 0x3fff}, {Fields{0, 4095, 0}, 0x3ffc000}, {Fields{0, 0, 63}, 0xfc000000}, {Fields{0, 0, 37}, 0x94000000},
		{Fields{4096, 16, 0}, 0x41000}, {Fields{0x1234, 0x567, 0x25}, 0x9559d234},
		// Only the least significant bits have a place.
		{Fields{16384, 0, 0}, 0}, {Fields{0, 4096, 0}, 0}, {Fields{0, 0, 64}, 0}, {Fields{16385, 4097, 65}, 1<<26 + 1<<14 + 1},
		{Fields{last, 0, 0}, 0x3fff}, {Fields{0, last, 0}, 0x3ffc000}, {Fields{0, 0, last}, 0xfc000000}, {Fields{last, last, last}, 0xffffffff},
	} {
		if got := Word(k.f); got != k.want {
			t.Errorf("Word(%v) = %x, not %x", k.f, got, k.want)
		}
	}
}

// P3.6
func TestOfIgnoresAllOtherBits(t *testing.T) {
	for w, want := range map[uint64]Fields{
		0: {}, 1: {1, 0, 0}, 1 << 14: {0, 1, 0}, 1 << 26: {0, 0, 1}, 0xffffffff: {16383, 4095, 63},
		0x3fff: {16383, 0, 0}, 0x3ffc000: {0, 4095, 0}, 0xfc000000: {0, 0, 63}, 0x9559d234: {0x1234, 0x567, 0x25},
		1 << 32: {}, 1 << 63: {}, 0xffffffff00000000: {}, 0xffffffff00000001: {1, 0, 0}, math.MaxUint64: {16383, 4095, 63},
		0x123456789559d234: {0x1234, 0x567, 0x25},
	} {
		if got := Of(w); got != want {
			t.Errorf("Of(%x) = %v, not %v", w, got, want)
		}
	}
}

// P3.6
func TestWordAndOfRestoreEachOther(t *testing.T) {
	for at := range 64 {
		w := power(at)
		want := w
		if at > 31 {
			want = 0
		}
		if got := Word(Of(w)); got != want {
			t.Errorf("Word(Of(%x)) = %x", w, got)
		}
	}
	for _, s := range spans() {
		if f, _ := Encode(s); Of(Word(f)) != f || Word(f) > math.MaxUint32 {
			t.Fatalf("Of(Word(%v)) = %v", f, Of(Word(f)))
		}
	}
}

// P3.7
func TestRoundedHasTheSpanWithin(t *testing.T) {
	for _, s := range spans() {
		if wide, ok := Rounded(s); !ok || wide.Base > s.Base || wide.Top < s.Top || wide.Top > all {
			t.Fatalf("Rounded(%v) = %v, %v", s, wide, ok)
		}
	}
}

// P3.7: and beyond the ends of that range of addresses, there is another span or none.
func TestDecodeRestoresTheSpanInItsRange(t *testing.T) {
	for _, s := range spans() {
		f, _ := Encode(s)
		wide, _ := Rounded(s)
		room := int64(power(12 + exponentOf(f.E)))
		base := int64(wide.Base)
		try := []int64{
			base - room - 1, base - room, base - room + 1, base - 1, base, base + 1, int64(s.Base), int64(s.Top), int64(wide.Top) - 1, int64(wide.Top), int64(wide.Top) + 1,
			base + room, base + 2*room, base + 3*room - 1, base + 3*room, base + 4*room, 0, all - 1,
		}
		for _, addr := range try {
			if addr < 0 || addr >= all {
				continue
			}
			want := base-room <= addr && addr < base+3*room
			got, ok := Decode(f, uint64(addr))
			if restored := ok && got == wide; restored != want {
				t.Fatalf("Decode(%v, %d) = %v, %v, for %v", f, addr, got, ok, wide)
			}
		}
	}
}

// P3.7
func TestMultiplesAreRepresentedExactly(t *testing.T) {
	for _, n := range lengths() {
		x, _ := Align(n)
		length, _ := Length(n)
		if length%power(x) != 0 {
			t.Fatalf("Length(%d) = %d, Align(%d) = %d", n, length, n, x)
		}
		for _, start := range starts() {
			s := span(start/power(x)*power(x), length)
			if !validSpan(s) {
				continue
			}
			if _, exact := Encode(s); !exact {
				t.Fatalf("%v is not represented exactly with %d", s, x)
			}
			if wide, _ := Rounded(s); wide != s {
				t.Fatalf("Rounded(%v) = %v", s, wide)
			}
		}
	}
}

// The examples of the chapter.
func TestExamples(t *testing.T) {
	if f, exact := Encode(span(4096, 5000)); f.E != 1 || !exact {
		t.Errorf("Encode: %v, %v", f, exact)
	}
	for _, base := range []uint64{0, 2, 4096, 5000, all - 10002} {
		if wide, ok := Rounded(span(base, 10001)); wide != span(base, 10002) || !ok {
			t.Errorf("Rounded: %v, %v", wide, ok)
		}
		if _, exact := Encode(span(base, 10001)); exact {
			t.Errorf("Encode of 10001 from %d on", base)
		}
	}
	if n, ok := Length(10001); n != 10002 || !ok {
		t.Errorf("Length: %d, %v", n, ok)
	}
	if x, ok := Align(1 << 20); x != 8 || !ok {
		t.Errorf("Align: %d, %v", x, ok)
	}
}
