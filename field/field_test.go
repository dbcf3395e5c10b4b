package field

import (
	"math"
	"math/bits"
	"slices"
	"testing"
)

// words are what the tests read from and write to: none, all, single and mixed bits.
func words() []uint64 {
	return []uint64{
		0, 1, 2, 0x8000000000000000, 0x7fffffffffffffff, math.MaxUint64,
		0x5555555555555555, 0xaaaaaaaaaaaaaaaa, 0x0123456789abcdef, 0xfedcba9876543210,
		0x00000000ffffffff, 0xffffffff00000000, 0x8000000180000001,
	}
}

type place struct{ at, width int }

// wrongPlaces are fields that are not valid.
func wrongPlaces() []place {
	return []place{
		{-1, 0}, {-1, 1}, {-1, 3}, {-1, 64}, {-64, 64}, {-3, 65},
		{0, -1}, {5, -1}, {65, -1}, {64, -64},
		{0, 65}, {0, 128}, {1, 64}, {2, 63}, {60, 5}, {63, 2}, {64, 1}, {65, 0}, {64, 64}, {100, 1},
		{math.MinInt, 0}, {math.MinInt, 1}, {math.MinInt, 64}, {math.MinInt, math.MinInt}, {math.MinInt, math.MaxInt},
		{math.MaxInt, 0}, {math.MaxInt, 1}, {math.MaxInt, 64}, {math.MaxInt, math.MinInt}, {math.MaxInt, math.MaxInt},
		{0, math.MinInt}, {0, math.MaxInt}, {64, math.MinInt}, {64, math.MaxInt}, {1 << 32, 1}, {0, 1 << 32}, {0, 1<<32 + 4},
	}
}

// validPlaces are all the fields that are valid, those without bits among them.
func validPlaces() []place {
	var all []place
	for width := 0; width <= 64; width++ {
		for at := 0; at <= 64-width; at++ {
			all = append(all, place{at, width})
		}
	}
	return all
}

// bit is one bit of a word, without any of the functions that are tested.
func bit(x uint64, at int) uint64 { return x / (1 << uint(at)) % 2 }

// P1.1
func TestMaskHasThatManyLowBits(t *testing.T) {
	for width := 0; width <= 64; width++ {
		m := Mask(width)
		for at := range 64 {
			want := uint64(0)
			if at < width {
				want = 1
			}
			if bit(m, at) != want {
				t.Errorf("Mask(%d) = %x: bit %d is not %d", width, m, at, want)
			}
		}
	}
}

// P1.1
func TestMaskOfOtherWidths(t *testing.T) {
	for _, width := range []int{0, -1, -2, -63, -64, -65, -1 << 32, math.MinInt} {
		if m := Mask(width); m != 0 {
			t.Errorf("Mask(%d) = %x", width, m)
		}
	}
	for _, width := range []int{64, 65, 66, 127, 128, 129, 1 << 32, math.MaxInt} {
		if m := Mask(width); m != math.MaxUint64 {
			t.Errorf("Mask(%d) = %x", width, m)
		}
	}
	for width, want := range map[int]uint64{1: 1, 2: 3, 12: 0xfff, 63: math.MaxInt64} {
		if m := Mask(width); m != want {
			t.Errorf("Mask(%d) = %x, not %x", width, m, want)
		}
	}
}

// P1.2
func TestGetReturnsTheBitsOfTheField(t *testing.T) {
	for _, x := range words() {
		for _, p := range validPlaces() {
			want := uint64(0)
			for i := p.width - 1; i >= 0; i-- {
				want = 2*want + bit(x, p.at+i)
			}
			if got := Get(x, p.at, p.width); got != want {
				t.Errorf("Get(%x, %d, %d) = %x, not %x", x, p.at, p.width, got, want)
			}
		}
	}
}

// P1.2
func TestPutReplacesTheBitsOfTheField(t *testing.T) {
	for _, x := range words() {
		for _, v := range words() {
			for _, p := range validPlaces() {
				want := uint64(0)
				for i := 63; i >= 0; i-- {
					b := bit(x, i)
					if p.at <= i && i < p.at+p.width {
						b = bit(v, i-p.at)
					}
					want = 2*want + b
				}
				if got := Put(x, p.at, p.width, v); got != want {
					t.Fatalf("Put(%x, %d, %d, %x) = %x, not %x", x, p.at, p.width, v, got, want)
				}
			}
		}
	}
}

// P1.2
func TestGetAndPutOfFieldsAtTheEnds(t *testing.T) {
	const x = 0x8123456789abcdef
	gets := []struct {
		at, width int
		want      uint64
	}{
		{0, 0, 0}, {63, 0, 0}, {64, 0, 0}, {63, 1, 1}, {62, 2, 2}, {60, 4, 8}, {1, 63, x / 2}, {0, 63, x - 1<<63}, {0, 64, x}, {4, 8, 0xde},
	}
	for _, g := range gets {
		if got := Get(x, g.at, g.width); got != g.want {
			t.Errorf("Get(%d, %d) = %x, not %x", g.at, g.width, got, g.want)
		}
	}
	puts := []struct {
		at, width int
		v, want   uint64
	}{
		{0, 0, math.MaxUint64, x}, {64, 0, math.MaxUint64, x}, {63, 1, 0, x - 1<<63}, {63, 1, 2, x - 1<<63}, {63, 1, 3, x},
		{60, 4, 0x17, 0x7123456789abcdef}, {1, 63, 0, 1}, {0, 64, 5, 5}, {4, 8, 0x123, 0x8123456789abc23f},
	}
	for _, p := range puts {
		if got := Put(x, p.at, p.width, p.v); got != p.want {
			t.Errorf("Put(%d, %d, %x) = %x, not %x", p.at, p.width, p.v, got, p.want)
		}
	}
}

// P1.2
func TestGetAndPutOfFieldsThatAreNotValid(t *testing.T) {
	for _, p := range wrongPlaces() {
		for _, x := range words() {
			if got := Get(x, p.at, p.width); got != 0 {
				t.Errorf("Get(%x, %d, %d) = %x", x, p.at, p.width, got)
			}
			for _, v := range words() {
				if got := Put(x, p.at, p.width, v); got != x {
					t.Errorf("Put(%x, %d, %d, %x) = %x", x, p.at, p.width, v, got)
				}
			}
		}
	}
}

// P1.3
func TestSignRepeatsTheTopBit(t *testing.T) {
	for _, x := range words() {
		for width := 1; width <= 64; width++ {
			want := uint64(0)
			for i := 63; i >= 0; i-- {
				want = 2*want + bit(x, min(i, width-1))
			}
			if got := Sign(x, width); got != want {
				t.Errorf("Sign(%x, %d) = %x, not %x", x, width, got, want)
			}
		}
	}
}

// P1.3
func TestSignOfKnownNumbers(t *testing.T) {
	for _, s := range []struct {
		x     uint64
		width int
		want  int64
	}{
		{0xf, 4, -1}, {0x8, 4, -8}, {0x7, 4, 7}, {0xf7, 4, 7}, {1, 1, -1}, {2, 1, 0}, {3, 1, -1},
		{0xff, 8, -1}, {0x7f, 8, 0x7f}, {1 << 62, 63, -1 << 62}, {1<<62 - 1, 63, 1<<62 - 1}, {1 << 63, 63, 0},
		{1 << 63, 64, math.MinInt64}, {math.MaxUint64, 64, -1}, {5, 64, 5},
	} {
		if got := Sign(s.x, s.width); got != uint64(s.want) {
			t.Errorf("Sign(%x, %d) = %x, not %x", s.x, s.width, got, uint64(s.want))
		}
	}
}

// wrongWidths are those that no number has.
func wrongWidths() []int {
	return []int{0, -1, -2, -63, -64, -65, 65, 66, 127, 128, 129, 1<<32 + 4, math.MinInt, math.MaxInt}
}

// P1.3
func TestSignOfWidthsThatNoNumberHas(t *testing.T) {
	for _, width := range wrongWidths() {
		for _, x := range words() {
			if got := Sign(x, width); got != 0 {
				t.Errorf("Sign(%x, %d) = %x", x, width, got)
			}
		}
	}
}

// P1.4
func TestLayPutsTheParts(t *testing.T) {
	for _, l := range []struct {
		parts []Part
		want  uint64
	}{
		{nil, 0},
		{[]Part{}, 0},
		{[]Part{{}}, 0},
		{[]Part{{0, 4, 5}, {8, 4, 0x1f}}, 0xf05},
		{[]Part{{8, 4, 0x1f}, {0, 4, 5}}, 0xf05},
		{[]Part{{0, 64, math.MaxUint64}}, math.MaxUint64},
		{[]Part{{63, 1, 1}}, 1 << 63},
		{[]Part{{63, 1, 1}, {0, 63, math.MaxUint64}}, math.MaxUint64},
	} {
		if got := Lay(l.parts...); got != l.want {
			t.Errorf("Lay(%v) = %x, not %x", l.parts, got, l.want)
		}
	}
}

// P1.4
func TestLayPutsOnePartAfterTheOther(t *testing.T) {
	for _, l := range []struct {
		parts []Part
		want  uint64
	}{
		{[]Part{{0, 8, 0xff}, {4, 8, 0}}, 0xf},
		{[]Part{{4, 8, 0}, {0, 8, 0xff}}, 0xff},
		{[]Part{{0, 16, 0xabcd}, {4, 8, 0x12}, {0, 4, 7}}, 0xa127},
		{[]Part{{0, 8, 1}, {0, 8, 2}, {0, 8, 3}}, 3},
		{[]Part{{0, 64, math.MaxUint64}, {0, 64, 0}}, 0},
		{[]Part{{0, 64, math.MaxUint64}, {0, 0, 0}, {64, 0, 0}}, math.MaxUint64},
	} {
		if got := Lay(l.parts...); got != l.want {
			t.Errorf("Lay(%v) = %x, not %x", l.parts, got, l.want)
		}
	}
}

// P1.4
func TestLaySkipsPartsThatAreNotValid(t *testing.T) {
	for _, p := range wrongPlaces() {
		wrong := Part{p.at, p.width, math.MaxUint64}
		if got := Lay(wrong); got != 0 {
			t.Errorf("Lay(%v) = %x", wrong, got)
		}
		if got := Lay(Part{0, 4, 5}, wrong, Part{8, 4, 0x1f}); got != 0xf05 {
			t.Errorf("Lay with %v among others = %x", wrong, got)
		}
	}
}

// P1.4
func TestLayOfManyParts(t *testing.T) {
	for _, x := range words() {
		var parts []Part
		for at := range 64 {
			parts = append(parts, Part{at, 1, x >> at}) // only the lowest bit of what is put counts
		}
		if got := Lay(parts...); got != x {
			t.Errorf("Lay of the bits of %x = %x", x, got)
		}
		slices.Reverse(parts)
		if got := Lay(parts...); got != x {
			t.Errorf("Lay of the bits of %x, last one first = %x", x, got)
		}
	}
}

// Rule 4: arguments are not modified, nor their spare capacity.
func TestLayLeavesItsArguments(t *testing.T) {
	whole := []Part{{0, 4, 0x15}, {4, 4, 6}, {70, 4, 7}, {9, 9, 9}}
	before := slices.Clone(whole)
	if got := Lay(whole[:2]...); got != 0x65 {
		t.Errorf("Lay = %x", got)
	}
	if !slices.Equal(whole, before) {
		t.Errorf("%v became %v", before, whole)
	}
}

// P1.5
func TestFitsIsARange(t *testing.T) {
	for width := 1; width <= 64; width++ {
		least, greatest := int64(math.MinInt64), int64(math.MaxInt64)
		if width < 64 {
			greatest = pow(width-1) - 1
			least = -greatest - 1
		}
		checkRange(t, width, true, least, greatest)
		greatest = math.MaxInt64 // 2^63 - 1 is the greatest number that can be asked for
		if width < 63 {
			greatest = pow(width) - 1
		}
		checkRange(t, width, false, 0, greatest)
	}
}

// pow is 2^n, for n up to 62, without shifts.
func pow(n int) int64 {
	x := int64(1)
	for range n {
		x *= 2
	}
	return x
}

// checkRange asks for the ends of a range, numbers in it, and numbers beyond it as far as there are any.
func checkRange(t *testing.T, width int, signed bool, least, greatest int64) {
	t.Helper()
	for _, x := range []int64{least, least + 1, least/2 + greatest/2, 0, greatest - 1, greatest} {
		if want := least <= x && x <= greatest; Fits(x, width, signed) != want {
			t.Errorf("Fits(%d, %d, %v) is not %v", x, width, signed, want)
		}
	}
	if least > math.MinInt64 {
		for _, x := range []int64{least - 1, math.MinInt64, math.MinInt64 + 1} {
			if want := least <= x; Fits(x, width, signed) != want {
				t.Errorf("Fits(%d, %d, %v) is not %v", x, width, signed, want)
			}
		}
	}
	if greatest < math.MaxInt64 {
		for _, x := range []int64{greatest + 1, math.MaxInt64, math.MaxInt64 - 1} {
			if want := x <= greatest; Fits(x, width, signed) != want {
				t.Errorf("Fits(%d, %d, %v) is not %v", x, width, signed, want)
			}
		}
	}
}

// P1.5
func TestFitsOfKnownNumbers(t *testing.T) {
	for _, f := range []struct {
		x      int64
		width  int
		signed bool
		want   bool
	}{
		{-8, 4, true, true}, {8, 4, true, false}, {7, 4, true, true}, {-9, 4, true, false},
		{15, 4, false, true}, {16, 4, false, false}, {-1, 4, false, false}, {0, 4, false, true},
		{-1, 1, true, true}, {0, 1, true, true}, {1, 1, true, false}, {-2, 1, true, false},
		{1, 1, false, true}, {2, 1, false, false}, {0, 1, false, true},
		{math.MaxInt64, 63, false, true}, {math.MaxInt64, 63, true, false}, {math.MinInt64, 63, true, false},
		{math.MaxInt64, 62, false, false}, {-1 << 62, 63, true, true}, {1 << 62, 63, true, false},
		{math.MaxInt64, 64, false, true}, {math.MaxInt64, 64, true, true}, {math.MinInt64, 64, true, true},
		{-1, 64, false, false}, {math.MinInt64, 64, false, false}, {math.MinInt64, 63, false, false}, {-1, 64, true, true},
	} {
		if got := Fits(f.x, f.width, f.signed); got != f.want {
			t.Errorf("Fits(%d, %d, %v) = %v", f.x, f.width, f.signed, got)
		}
	}
}

// P1.5
func TestFitsInNoWidthThatNoNumberHas(t *testing.T) {
	for _, width := range wrongWidths() {
		for _, x := range []int64{0, 1, -1, 5, math.MinInt64, math.MaxInt64} {
			if Fits(x, width, true) || Fits(x, width, false) {
				t.Errorf("%d fits %d bits", x, width)
			}
		}
	}
}

// P1.6
func TestGetReturnsWhatWasPut(t *testing.T) {
	for _, x := range words() {
		for _, v := range words() {
			for _, p := range validPlaces() {
				got := Get(Put(x, p.at, p.width, v), p.at, p.width)
				if got != v&Mask(p.width) || bits.Len64(got) > p.width {
					t.Fatalf("%x, put into %x at %d, %d, is %x", v, x, p.at, p.width, got)
				}
			}
		}
	}
}

// P1.6
func TestPutChangesNoOtherField(t *testing.T) {
	const x, v = 0x0123456789abcdef, 0xaaaaaaaaaaaaaaaa
	all := validPlaces()
	for _, p := range all {
		y := Put(Put(x, p.at, p.width, v), p.at, p.width, ^uint64(v))
		for _, q := range all {
			apart := q.at+q.width <= p.at || p.at+p.width <= q.at
			if apart && Get(y, q.at, q.width) != Get(x, q.at, q.width) {
				t.Fatalf("a Put at %v changed the field at %v", p, q)
			}
		}
	}
}

// P1.6
func TestSignReturnsASignedNumberThatFits(t *testing.T) {
	for width := 1; width <= 64; width++ {
		for _, w := range words() {
			for _, x := range []int64{int64(w), int64(Sign(w, width)), -int64(Sign(w, width))} {
				back := int64(Sign(Get(uint64(x), 0, width), width))
				if Fits(x, width, true) != (back == x) {
					t.Errorf("%d fits %d bits: %v, but it comes back as %d", x, width, Fits(x, width, true), back)
				}
			}
		}
	}
}

// The examples of the chapter.
func TestExamples(t *testing.T) {
	if x := Get(0xab, 4, 4); x != 0xa {
		t.Errorf("Get = %x", x)
	}
	if x := Sign(0xf, 4); int64(x) != -1 {
		t.Errorf("Sign = %x", x)
	}
	if x := Put(0xabcd, 4, 8, 0x123); x != 0xa23d {
		t.Errorf("Put = %x", x)
	}
	if x := Mask(12); x != 0xfff {
		t.Errorf("Mask = %x", x)
	}
	if x := Lay(Part{0, 4, 5}, Part{8, 4, 0x1f}); x != 0xf05 {
		t.Errorf("Lay = %x", x)
	}
	if !Fits(-8, 4, true) || Fits(8, 4, true) {
		t.Error("Fits")
	}
}
