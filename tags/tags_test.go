package tags

import (
	"math"
	"math/big"
	"slices"
	"testing"

	"mintmark/api"
)

const (
	granules = 256
	page     = 4096
)

// wordOf has the bits of a word that are 1, found without shifts.
func wordOf(ones ...int) uint64 {
	w := uint64(0)
	for _, k := range ones {
		p := uint64(1)
		for range k {
			p *= 2
		}
		w += p
	}
	return w
}

// model is the numbers of the granules that a set contains, each once and in ascending order, read without its methods.
func model(s Set) []int {
	var l []int
	for w, word := range [4]uint64(s) {
		for k := range 64 {
			if word%2 == 1 {
				l = append(l, 64*w+k)
			}
			word /= 2
		}
	}
	return l
}

// setOf is the set of some granules, its words computed; a granule may be named more than once.
func setOf(all ...int) Set {
	var ones [4][]int
	for _, i := range all {
		if !slices.Contains(ones[i/64], i%64) {
			ones[i/64] = append(ones[i/64], i%64)
		}
	}
	return Set{wordOf(ones[0]...), wordOf(ones[1]...), wordOf(ones[2]...), wordOf(ones[3]...)}
}

// full is the set of all granules.
func full() Set { return Set{math.MaxUint64, math.MaxUint64, math.MaxUint64, math.MaxUint64} }

// pool has the empty set, the full one, sets of one granule and of all but one, of whole words, and mixed ones.
func pool() []Set {
	l := []Set{
		{}, full(),
		{math.MaxUint64}, {0, math.MaxUint64}, {0, 0, math.MaxUint64}, {0, 0, 0, math.MaxUint64},
		{0x5555555555555555, 0x5555555555555555, 0x5555555555555555, 0x5555555555555555},
		{0xaaaaaaaaaaaaaaaa, 0xaaaaaaaaaaaaaaaa, 0xaaaaaaaaaaaaaaaa, 0xaaaaaaaaaaaaaaaa},
		{0x0123456789abcdef, 0xfedcba9876543210, 0x00ff00ff00ff00ff, 0xf0f0f0f00f0f0f0f},
		{1, 1 << 63, 1, 1 << 63}, {1 << 63, 1, 1 << 63, 1}, {2, 3, 5, 7}, {7, 5, 3, 2},
	}
	for _, i := range edges() {
		one := setOf(i)
		but := full()
		but[i/64] -= one[i/64]
		l = append(l, one, but)
	}
	return l
}

// edges are the granules at the ends of each of the four words, and next to them.
func edges() []int {
	return []int{0, 1, 31, 62, 63, 64, 65, 100, 126, 127, 128, 129, 190, 191, 192, 193, 200, 254, 255}
}

// nowhere are numbers that no granule has; most are such a number's neighbours modulo 64, 256 or 2^32.
func nowhere() []int {
	return []int{
		-1, -2, -63, -64, -65, -255, -256, -257, -1 << 32, -1<<32 + 1, -1 << 62, math.MinInt + 1, math.MinInt,
		256, 257, 319, 320, 511, 512, 4095, 4096, 1 << 32, 1<<32 + 1, 1 << 62, math.MaxInt - 255, math.MaxInt - 1, math.MaxInt,
	}
}

// The type and the limits on which it depends.
func TestConstants(t *testing.T) {
	if api.PageTags != granules || api.Granule != 16 || api.PageBytes != page {
		t.Errorf("limits %d, %d, %d", api.PageTags, api.Granule, api.PageBytes)
	}
	if s := Set([4]uint64{1, 2, 3, 4}); s != (Set{1, 2, 3, 4}) {
		t.Errorf("a set is %v", s)
	}
}

// P7.1
func TestGetKnown(t *testing.T) {
	s := Set{1 | 1<<63, 2, 1 << 62, 1<<63 | 1<<8}
	in := []int{0, 63, 65, 190, 200, 255}
	for _, i := range edges() {
		if got := s.Get(i); got != slices.Contains(in, i) {
			t.Errorf("Get(%d) = %v", i, got)
		}
	}
}

// P7.1
func TestGetEach(t *testing.T) {
	yes, no := 0, 0
	for _, s := range pool() {
		m := model(s)
		for i := range granules {
			want := slices.Contains(m, i)
			if got := s.Get(i); got != want {
				t.Fatalf("%x.Get(%d) = %v", s, i, got)
			}
			if want {
				yes++
			} else {
				no++
			}
		}
	}
	if yes < 1000 || no < 1000 {
		t.Errorf("only %d granules are in, and %d are not", yes, no)
	}
}

// P7.1: a number that no granule has.
func TestGetNowhere(t *testing.T) {
	for _, s := range pool() {
		for _, i := range nowhere() {
			if s.Get(i) {
				t.Errorf("%x.Get(%d)", s, i)
			}
		}
	}
}

// P7.1
func TestWithKnown(t *testing.T) {
	for _, c := range []struct {
		s    Set
		i    int
		tag  bool
		want Set
	}{
		{Set{}, 0, true, Set{1}}, {Set{}, 63, true, Set{1 << 63}}, {Set{}, 64, true, Set{0, 1}}, {Set{}, 127, true, Set{0, 1 << 63}},
		{Set{}, 128, true, Set{0, 0, 1}}, {Set{}, 191, true, Set{0, 0, 1 << 63}}, {Set{}, 192, true, Set{0, 0, 0, 1}}, {Set{}, 255, true, Set{0, 0, 0, 1 << 63}},
		{Set{}, 70, false, Set{}}, {Set{1, 2, 3, 4}, 65, true, Set{1, 2, 3, 4}}, {Set{1, 2, 3, 4}, 65, false, Set{1, 0, 3, 4}},
		{Set{1, 2, 3, 4}, 66, true, Set{1, 6, 3, 4}}, {Set{1, 2, 3, 4}, 66, false, Set{1, 2, 3, 4}}, {Set{1, 2, 3, 4}, 194, false, Set{1, 2, 3}},
	} {
		if got := c.s.With(c.i, c.tag); got != c.want {
			t.Errorf("%x.With(%d, %v) = %x, not %x", c.s, c.i, c.tag, got, c.want)
		}
	}
}

// P7.1: granules that the set contains, and others; it remains what it was.
func TestWithEach(t *testing.T) {
	changed, unchanged := 0, 0
	for _, s := range pool() {
		m := model(s)
		for i := range granules {
			less := slices.DeleteFunc(slices.Clone(m), func(j int) bool { return j == i })
			more := append(slices.Clone(less), i)
			before := s
			with, without := s.With(i, true), s.With(i, false)
			if with != setOf(more...) || without != setOf(less...) || s != before {
				t.Fatalf("%x with %d is %x, and without it %x", s, i, with, without)
			}
			if with == s {
				unchanged++
			} else {
				changed++
			}
		}
	}
	if changed < 1000 || unchanged < 1000 {
		t.Errorf("only %d sets changed, and %d did not", changed, unchanged)
	}
}

// P7.1: a number that no granule has.
func TestWithNowhere(t *testing.T) {
	for _, s := range pool() {
		for _, i := range nowhere() {
			if s.With(i, true) != s || s.With(i, false) != s {
				t.Errorf("%x.With(%d, ..) is %x and %x", s, i, s.With(i, true), s.With(i, false))
			}
		}
	}
}

// P7.2
func TestCoverKnown(t *testing.T) {
	for _, c := range []struct {
		off, n int
		want   Set
	}{
		// Within one granule, from its first byte to its last one.
		{0, 1, Set{1}}, {0, 16, Set{1}}, {15, 1, Set{1}}, {7, 3, Set{1}}, {16, 1, Set{2}}, {31, 1, Set{2}}, {16, 16, Set{2}},
		// Across the border of two, and of two words.
		{15, 2, Set{3}}, {0, 17, Set{3}}, {31, 2, Set{6}}, {15, 18, Set{7}}, {1023, 2, Set{1 << 63, 1}}, {2047, 2, Set{0, 1 << 63, 1}}, {3071, 2, Set{0, 0, 1 << 63, 1}},
		// Across the page's first byte and its last one, and next to it.
		{-1, 1, Set{}}, {-1, 2, Set{1}}, {-16, 16, Set{}}, {-16, 17, Set{1}}, {-5, 21, Set{1}}, {-5, 22, Set{3}},
		{4095, 1, Set{0, 0, 0, 1 << 63}}, {4095, 2, Set{0, 0, 0, 1 << 63}}, {4079, 2, Set{0, 0, 0, 3 << 62}}, {4080, 1 << 40, Set{0, 0, 0, 1 << 63}}, {4096, 1, Set{}}, {4096, 4096, Set{}},
		// The whole page, less of it, and more.
		{0, 4096, full()}, {0, 4081, full()}, {15, 4066, full()}, {-100, 4300, full()}, {16, 4080, Set{math.MaxUint64 - 1, math.MaxUint64, math.MaxUint64, math.MaxUint64}},
		{0, 4080, Set{math.MaxUint64, math.MaxUint64, math.MaxUint64, math.MaxUint64 / 2}}, {0, 1024, Set{math.MaxUint64}}, {1024, 1024, Set{0, math.MaxUint64}},
		// No bytes.
		{0, 0, Set{}}, {0, -1, Set{}}, {15, 0, Set{}}, {100, -100, Set{}}, {4096, -4096, Set{}}, {-10, 0, Set{}},
		// The greatest and the least numbers.
		{0, math.MaxInt, full()}, {1, math.MaxInt, full()}, {4095, math.MaxInt, Set{0, 0, 0, 1 << 63}}, {math.MaxInt, math.MaxInt, Set{}}, {math.MaxInt, 1, Set{}}, {math.MaxInt - 10, 4096, Set{}},
		{math.MinInt, math.MaxInt, Set{}}, {math.MinInt + 1, math.MaxInt, Set{}}, {math.MinInt + 2, math.MaxInt, Set{1}}, {math.MinInt + 18, math.MaxInt, Set{3}}, {math.MinInt + 4097, math.MaxInt, full()},
		{-1, math.MaxInt, full()}, {-math.MaxInt + 16, math.MaxInt, Set{1}}, {math.MinInt, 1, Set{}}, {math.MinInt, math.MinInt, Set{}}, {math.MaxInt, math.MinInt, Set{}}, {0, math.MinInt, Set{}}, {5, math.MinInt, Set{}},
	} {
		if got := Cover(c.off, c.n); got != c.want {
			t.Errorf("Cover(%d, %d) = %x, not %x", c.off, c.n, got, c.want)
		}
	}
}

// covered is what Cover promises, with exact sums.
func covered(off, n int) Set {
	from := big.NewInt(int64(off))
	end := new(big.Int).Add(from, big.NewInt(int64(n)))
	var all []int
	for i := range granules {
		for b := 16 * i; b < 16*i+16; b++ {
			if at := big.NewInt(int64(b)); from.Cmp(at) <= 0 && at.Cmp(end) < 0 {
				all = append(all, i)
				break
			}
		}
	}
	return setOf(all...)
}

// P7.2
func TestCoverEach(t *testing.T) {
	offs := []int{
		math.MinInt, math.MinInt + 1, math.MinInt + 20, math.MinInt + 4000, -math.MaxInt + 4096, -1 << 32, -4097, -4096, -4095, -17, -16, -15, -2, -1,
		0, 1, 8, 14, 15, 16, 17, 31, 32, 1008, 1023, 1024, 1025, 2040, 2048, 3071, 3072, 4064, 4079, 4080, 4081, 4094, 4095, 4096, 4097, 4111, 4112, 8192, 1 << 32, math.MaxInt - 4096, math.MaxInt - 1, math.MaxInt,
	}
	ns := []int{math.MinInt, -4096, -16, -1, 0, 1, 2, 4, 8, 15, 16, 17, 18, 32, 33, 1024, 2048, 4079, 4080, 4081, 4095, 4096, 4097, 4112, 8192, 1 << 32, math.MaxInt - 4096, math.MaxInt - 16, math.MaxInt - 1, math.MaxInt}
	empty, some, whole := 0, 0, 0
	for _, off := range offs {
		for _, n := range ns {
			want := covered(off, n)
			if got := Cover(off, n); got != want {
				t.Errorf("Cover(%d, %d) = %x, not %x", off, n, got, want)
			}
			switch want {
			case Set{}:
				empty++
			case full():
				whole++
			default:
				some++
			}
		}
	}
	if empty < 100 || some < 100 || whole < 20 {
		t.Errorf("only %d are empty, %d are full, and %d are neither", empty, whole, some)
	}
}

// P7.2: one byte is of the granule that it is in, and of no other one.
func TestCoverOfOneByte(t *testing.T) {
	for off := range page {
		if got := Cover(off, 1); got != setOf(off/16) {
			t.Fatalf("Cover(%d, 1) = %x", off, got)
		}
	}
}

// P7.3
func TestWithoutKnown(t *testing.T) {
	for _, c := range []struct{ s, without, want Set }{
		{Set{}, Set{}, Set{}}, {full(), full(), Set{}}, {full(), Set{}, full()}, {Set{}, full(), Set{}},
		{Set{7, 7, 7, 7}, Set{1, 2, 4, 8}, Set{6, 5, 3, 7}},
		{Set{1, 2, 4, 8}, Set{7, 7, 7, 7}, Set{0, 0, 0, 8}},
		{Set{1, 2, 4, 8}, Set{2, 4, 8, 1}, Set{1, 2, 4, 8}}, // nothing in common
		{Set{1, 2, 4, 8}, Set{1, 2, 4, 8}, Set{}},           // equal
		{full(), Set{1 << 63, 1, 0, 1 << 63}, Set{math.MaxUint64 / 2, math.MaxUint64 - 1, math.MaxUint64, math.MaxUint64 / 2}},
	} {
		if got := c.s.Without(c.without); got != c.want {
			t.Errorf("%x.Without(%x) = %x, not %x", c.s, c.without, got, c.want)
		}
	}
}

// P7.3
func TestWithoutEach(t *testing.T) {
	for _, s := range pool() {
		for _, u := range pool() {
			gone := model(u)
			left := slices.DeleteFunc(model(s), func(i int) bool { return slices.Contains(gone, i) })
			before, other := s, u
			if got := s.Without(u); got != setOf(left...) || s != before || u != other {
				t.Fatalf("%x.Without(%x) = %x", s, u, got)
			}
		}
	}
}

// P7.3
func TestCountAnyAllKnown(t *testing.T) {
	for _, c := range []struct {
		s   Set
		all []int
	}{
		{Set{}, nil}, {Set{1}, []int{0}}, {Set{0, 0, 0, 1 << 63}, []int{255}}, {Set{0, 1}, []int{64}}, {Set{0, 0, 1 << 63}, []int{191}},
		{Set{5, 1 << 63, 3, 1}, []int{0, 2, 127, 128, 129, 192}}, {Set{1 << 63, 1, 0, 1 << 62}, []int{63, 64, 254}},
	} {
		if got := c.s.All(); !slices.Equal(got, c.all) {
			t.Errorf("%x.All() = %v, not %v", c.s, got, c.all)
		}
		if got := c.s.Count(); got != len(c.all) {
			t.Errorf("%x.Count() = %d, not %d", c.s, got, len(c.all))
		}
		if got := c.s.Any(); got != (len(c.all) > 0) {
			t.Errorf("%x.Any() = %v", c.s, got)
		}
	}
	if n := full().Count(); n != 256 || !full().Any() || len(full().All()) != 256 {
		t.Errorf("the full set has %d, %v, %v", n, full().Any(), full().All())
	}
}

// P7.3
func TestCountAnyAllEach(t *testing.T) {
	for _, s := range pool() {
		want := model(s)
		if s.Count() != len(want) || s.Any() != (len(want) > 0) || !slices.Equal(s.All(), want) {
			t.Errorf("%x has %d, %v, %v", s, s.Count(), s.Any(), s.All())
		}
	}
}

// P7.3: each call's list is new memory, its spare capacity too.
func TestAllIsNew(t *testing.T) {
	s := Set{5, 0, 9}
	first, second := s.All(), s.All()
	for i := range first[:cap(first)] {
		first[:cap(first)][i] = -7
	}
	if want := []int{0, 2, 128, 131}; !slices.Equal(second, want) || !slices.Equal(s.All(), want) {
		t.Errorf("after a change of the first list, the second is %v, and a third one %v", second, s.All())
	}
}

// P7.4
func TestAlignedKnown(t *testing.T) {
	for _, c := range []struct {
		off, want int
		is        bool
	}{
		{0, 0, true}, {16, 1, true}, {32, 2, true}, {1024, 64, true}, {2048, 128, true}, {4064, 254, true}, {4080, 255, true},
		{1, 0, false}, {8, 0, false}, {15, 0, false}, {17, 0, false}, {24, 0, false}, {4079, 0, false}, {4081, 0, false}, {4088, 0, false}, {4095, 0, false},
		{4096, 0, false}, {4097, 0, false}, {4112, 0, false}, {8192, 0, false}, {1 << 32, 0, false}, {1<<32 + 16, 0, false}, {math.MaxInt - 15, 0, false}, {math.MaxInt, 0, false},
		{-1, 0, false}, {-8, 0, false}, {-15, 0, false}, {-16, 0, false}, {-17, 0, false}, {-4096, 0, false}, {-1 << 32, 0, false}, {math.MinInt, 0, false}, {math.MinInt + 16, 0, false},
	} {
		if got, is := Aligned(c.off); got != c.want || is != c.is {
			t.Errorf("Aligned(%d) = %d, %v, not %d, %v", c.off, got, is, c.want, c.is)
		}
	}
}

// P7.4: exactly the granules' first bytes.
func TestAlignedEach(t *testing.T) {
	starts := map[int]int{}
	for i := range granules {
		starts[16*i] = i
	}
	for off := -2 * page; off <= 2*page; off++ {
		want, wanted := starts[off]
		if got, is := Aligned(off); got != want || is != wanted {
			t.Fatalf("Aligned(%d) = %d, %v", off, got, is)
		}
	}
}

// The chapter's examples.
func TestExamples(t *testing.T) {
	if s := Cover(15, 2); !s.Get(0) || !s.Get(1) || s.Count() != 2 {
		t.Errorf("Cover(15, 2) = %x", s)
	}
	if i, is := Aligned(4080); i != 255 || !is {
		t.Errorf("Aligned(4080) = %d, %v", i, is)
	}
}
