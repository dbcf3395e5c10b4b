package scale

import (
	"math"
	"math/big"
	"slices"
	"testing"
)

// exact is a number that no sum or product of which overflows.
func exact(x uint64) *big.Int { return new(big.Int).SetUint64(x) }

// power is 2^e as an exact number, found without shifts.
func power(e int) *big.Int { return new(big.Int).Exp(big.NewInt(2), big.NewInt(int64(e)), nil) }

// numbers are 0, all powers of two with their neighbours, 2^64 - 1 with its own, and mixed bits.
func numbers() []uint64 {
	all := []uint64{
		0, math.MaxUint64, math.MaxUint64 - 1, math.MaxUint64 - 2,
		0x5555555555555555, 0xaaaaaaaaaaaaaaaa, 0x0123456789abcdef, 0xfedcba9876543210,
		0xffffffff00000000, 0x8000000180000001, 5, 6, 10, 12, 13, 24, 40, 100, 1000, 10001,
	}
	for e := range 64 {
		p := power(e).Uint64()
		all = append(all, p-1, p, p+1)
	}
	slices.Sort(all)
	return slices.Compact(all)
}

// exponents are all that a word has, and those below and above.
func exponents() []int {
	all := []int{
		-1, -2, -12, -63, -64, -65, -128, -1 << 32, math.MinInt + 1, math.MinInt,
		64, 65, 66, 100, 127, 128, 129, 192, 256, 1 << 16, 1 << 32, 1<<32 + 2, math.MaxInt - 1, math.MaxInt,
	}
	for e := range 64 {
		all = append(all, e)
	}
	return all
}

// P2.1
func TestLogIsTheGreatestPowerThatIsNotAbove(t *testing.T) {
	for _, x := range numbers() {
		k := Log(x)
		if x == 0 {
			if k != -1 {
				t.Errorf("Log(0) = %d", k)
			}
			continue
		}
		if k < 0 || k > 63 || power(k).Cmp(exact(x)) > 0 || power(k+1).Cmp(exact(x)) <= 0 {
			t.Errorf("Log(%d) = %d", x, k)
		}
	}
}

// P2.1
func TestLogOfKnownNumbers(t *testing.T) {
	for x, want := range map[uint64]int{
		0: -1, 1: 0, 2: 1, 3: 1, 4: 2, 4095: 11, 4096: 12, 4097: 12,
		1<<62 - 1: 61, 1 << 62: 62, 1<<63 - 1: 62, 1 << 63: 63, 1<<63 + 1: 63, math.MaxUint64: 63,
	} {
		if got := Log(x); got != want {
			t.Errorf("Log(%d) = %d, not %d", x, got, want)
		}
	}
}

// P2.1
func TestZerosIsTheGreatestPowerThatDivides(t *testing.T) {
	divides := func(k int, x uint64) bool {
		return new(big.Int).Mod(exact(x), power(k)).Sign() == 0
	}
	for _, x := range numbers() {
		k := Zeros(x)
		if x == 0 {
			if k != 64 {
				t.Errorf("Zeros(0) = %d", k)
			}
			continue
		}
		if k < 0 || k > 63 || !divides(k, x) || divides(k+1, x) {
			t.Errorf("Zeros(%d) = %d", x, k)
		}
	}
}

// P2.1
func TestZerosOfKnownNumbers(t *testing.T) {
	for x, want := range map[uint64]int{
		0: 64, 1: 0, 2: 1, 3: 0, 4: 2, 24: 3, 4095: 0, 4096: 12, 4097: 0,
		1 << 62: 62, 1<<63 - 1: 0, 1 << 63: 63, 1<<63 + 1<<62: 62, math.MaxUint64: 0, math.MaxUint64 - 1: 1,
	} {
		if got := Zeros(x); got != want {
			t.Errorf("Zeros(%d) = %d, not %d", x, got, want)
		}
	}
}

// below is the greatest multiple of 2^e that is at most x, and above the least that is at least x: as exact numbers.
func below(x uint64, e int) *big.Int {
	step := power(min(max(e, 0), 200)) // all steps above 2^64 have the same multiples that count
	steps := new(big.Int).Div(exact(x), step)
	return steps.Mul(steps, step)
}

func above(x uint64, e int) *big.Int {
	down := below(x, e)
	if down.Cmp(exact(x)) == 0 {
		return down
	}
	return down.Add(down, power(min(max(e, 0), 200)))
}

// P2.2
func TestDownIsTheGreatestMultipleThatIsNotAbove(t *testing.T) {
	for _, x := range numbers() {
		for _, e := range exponents() {
			if got := Down(x, e); exact(got).Cmp(below(x, e)) != 0 {
				t.Errorf("Down(%d, %d) = %d, not %d", x, e, got, below(x, e))
			}
		}
	}
}

// P2.2
func TestUpIsTheLeastMultipleThatIsNotBelow(t *testing.T) {
	for _, x := range numbers() {
		for _, e := range exponents() {
			want, fits := above(x, e), above(x, e).IsUint64()
			if !fits {
				want = new(big.Int)
			}
			if got, ok := Up(x, e); ok != fits || exact(got).Cmp(want) != 0 {
				t.Errorf("Up(%d, %d) = %d, %v, not %d, %v", x, e, got, ok, want, fits)
			}
		}
	}
}

// P2.2
func TestDownOfKnownNumbers(t *testing.T) {
	for _, d := range []struct {
		x    uint64
		e    int
		want uint64
	}{
		{13, 2, 12}, {12, 2, 12}, {11, 2, 8}, {3, 2, 0}, {0, 2, 0},
		{13, 0, 13}, {13, -1, 13}, {13, math.MinInt, 13}, {math.MaxUint64, 0, math.MaxUint64}, {math.MaxUint64, -64, math.MaxUint64},
		{math.MaxUint64, 1, math.MaxUint64 - 1}, {math.MaxUint64, 63, 1 << 63}, {1 << 63, 63, 1 << 63}, {1<<63 - 1, 63, 0},
		{math.MaxUint64, 64, 0}, {1 << 63, 64, 0}, {13, 64, 0}, {0, 64, 0}, {13, 66, 0}, {13, 128, 0}, {math.MaxUint64, math.MaxInt, 0},
	} {
		if got := Down(d.x, d.e); got != d.want {
			t.Errorf("Down(%d, %d) = %d, not %d", d.x, d.e, got, d.want)
		}
	}
}

// P2.2
func TestUpOfKnownNumbers(t *testing.T) {
	for _, u := range []struct {
		x    uint64
		e    int
		want uint64
		ok   bool
	}{
		{5, 2, 8, true}, {8, 2, 8, true}, {9, 2, 12, true}, {1, 2, 4, true}, {0, 2, 0, true},
		{5, 0, 5, true}, {5, -1, 5, true}, {5, math.MinInt, 5, true},
		{math.MaxUint64, 0, math.MaxUint64, true}, {math.MaxUint64, -64, math.MaxUint64, true},
		{math.MaxUint64 - 1, 1, math.MaxUint64 - 1, true}, {math.MaxUint64, 1, 0, false},
		{0, 63, 0, true}, {1, 63, 1 << 63, true}, {1 << 63, 63, 1 << 63, true}, {1<<63 + 1, 63, 0, false}, {math.MaxUint64, 63, 0, false},
		{0, 64, 0, true}, {1, 64, 0, false}, {1 << 63, 64, 0, false}, {math.MaxUint64, 64, 0, false},
		{0, 66, 0, true}, {5, 66, 0, false}, {0, 128, 0, true}, {5, 128, 0, false},
		{0, math.MaxInt, 0, true}, {1, math.MaxInt, 0, false}, {math.MaxUint64, math.MaxInt, 0, false},
	} {
		if got, ok := Up(u.x, u.e); got != u.want || ok != u.ok {
			t.Errorf("Up(%d, %d) = %d, %v, not %d, %v", u.x, u.e, got, ok, u.want, u.ok)
		}
	}
}

// onesOf are the indices that Ones is to yield, found without any of the functions that are tested.
func onesOf(x uint64) []int {
	var all []int
	for k := 0; x > 0; k++ {
		if x%2 == 1 {
			all = append(all, k)
		}
		x /= 2
	}
	return all
}

// P2.3
func TestOnesYieldsTheIndicesInOrder(t *testing.T) {
	for _, x := range numbers() {
		if got := slices.Collect(Ones(x)); !slices.Equal(got, onesOf(x)) {
			t.Errorf("Ones(%x) yields %v, not %v", x, got, onesOf(x))
		}
	}
	for x, want := range map[uint64][]int{0: nil, 1: {0}, 5: {0, 2}, 1 << 63: {63}, 1<<63 + 1: {0, 63}} {
		if got := slices.Collect(Ones(x)); !slices.Equal(got, want) {
			t.Errorf("Ones(%x) yields %v, not %v", x, got, want)
		}
	}
}

// P2.3
func TestOnesCanBeEndedAtAnyIndex(t *testing.T) {
	for _, x := range numbers() {
		all := onesOf(x)
		for n := 1; n <= len(all); n++ {
			var got []int
			for k := range Ones(x) {
				got = append(got, k)
				if len(got) == n {
					break
				}
			}
			if !slices.Equal(got, all[:n]) {
				t.Errorf("Ones(%x), ended after %d, yields %v", x, n, got)
			}
		}
	}
}

// P2.3: what has ended calls nothing any more.
func TestOnesYieldsNothingAfterItsEnd(t *testing.T) {
	for _, x := range numbers() {
		for n := 1; n <= len(onesOf(x)); n++ {
			calls := 0
			Ones(x)(func(int) bool {
				calls++
				return calls < n
			})
			if calls != n {
				t.Errorf("Ones(%x), ended after %d, yields %d times", x, n, calls)
			}
		}
	}
}

// P2.3: an iterator begins anew each time, also while it is under way.
func TestOnesBeginsAnew(t *testing.T) {
	const x = 1<<63 + 1<<32 + 5
	it, all := Ones(x), onesOf(x)
	for k := range it {
		if k != all[0] {
			t.Errorf("it begins at %d", k)
		}
		break
	}
	var outer []int
	for k := range it {
		outer = append(outer, k)
		if got := slices.Collect(it); !slices.Equal(got, all) {
			t.Errorf("within itself at %d, it yields %v", k, got)
		}
	}
	if !slices.Equal(outer, all) {
		t.Errorf("it yields %v, not %v", outer, all)
	}
}

// P2.4
func TestAddIsTheSumModuloTheWord(t *testing.T) {
	for _, x := range numbers() {
		for _, y := range numbers() {
			sum := new(big.Int).Add(exact(x), exact(y))
			over := !sum.IsUint64()
			if over {
				sum.Sub(sum, power(64))
			}
			if got, ok := Add(x, y); ok != over || exact(got).Cmp(sum) != 0 {
				t.Errorf("Add(%d, %d) = %d, %v, not %d, %v", x, y, got, ok, sum, over)
			}
		}
	}
}

// P2.4
func TestAddOfKnownNumbers(t *testing.T) {
	for _, a := range []struct {
		x, y, sum uint64
		over      bool
	}{
		{0, 0, 0, false}, {2, 3, 5, false}, {0, math.MaxUint64, math.MaxUint64, false}, {math.MaxUint64, 0, math.MaxUint64, false},
		{1, math.MaxUint64, 0, true}, {math.MaxUint64, 1, 0, true}, {1, math.MaxUint64 - 1, math.MaxUint64, false},
		{1 << 63, 1 << 63, 0, true}, {1 << 63, 1<<63 - 1, math.MaxUint64, false}, {1 << 63, 1<<63 + 1, 1, true},
		{math.MaxUint64, math.MaxUint64, math.MaxUint64 - 1, true},
	} {
		if sum, over := Add(a.x, a.y); sum != a.sum || over != a.over {
			t.Errorf("Add(%d, %d) = %d, %v, not %d, %v", a.x, a.y, sum, over, a.sum, a.over)
		}
	}
}

// P2.5
func TestInIsARangeOfExactNumbers(t *testing.T) {
	ends := []uint64{
		0, 1, 2, 3, 4, 5, 8, 4095, 4096, 4097, 1<<63 - 1, 1 << 63, 1<<63 + 1,
		math.MaxUint64 - 4, math.MaxUint64 - 3, math.MaxUint64 - 1, math.MaxUint64,
	}
	for _, at := range ends {
		for _, n := range ends {
			end := new(big.Int).Add(exact(at), exact(n))
			for _, base := range ends {
				for _, top := range ends {
					want := exact(base).Cmp(exact(at)) <= 0 && end.Cmp(exact(top)) <= 0
					if got := In(at, n, base, top); got != want {
						t.Errorf("In(%d, %d, %d, %d) = %v", at, n, base, top, got)
					}
				}
			}
		}
	}
}

// P2.5
func TestInOfKnownRanges(t *testing.T) {
	const last = math.MaxUint64
	for _, r := range []struct {
		at, n, base, top uint64
		want             bool
	}{
		{4, 4, 0, 8, true}, {5, 4, 0, 8, false}, {4, 4, 4, 8, true}, {3, 4, 4, 8, false}, {4, 5, 4, 8, false}, {4, 1, 8, 2, false},
		// None at all are in the range as long as they begin in it, or at its end.
		{4, 0, 4, 8, true}, {8, 0, 4, 8, true}, {9, 0, 4, 8, false}, {3, 0, 4, 8, false}, {4, 0, 4, 4, true}, {4, 0, 8, 2, false}, {0, 0, 0, 0, true},
		// Ends at 2^64 or above are beyond every range, and do not begin at 0 again.
		{last, 0, 0, last, true}, {last, 1, 0, last, false}, {last, 2, 0, last, false}, {last - 1, 1, 0, last, true}, {last - 1, 2, 0, last, false},
		{last, last, 0, last, false}, {1, last, 0, last, false}, {0, last, 0, last, true}, {8, last - 7, 0, 8, false}, {8, last - 3, 0, 8, false},
		{1 << 63, 1 << 63, 0, last, false}, {1 << 63, 1<<63 - 1, 1 << 63, last, true},
	} {
		if got := In(r.at, r.n, r.base, r.top); got != r.want {
			t.Errorf("In(%d, %d, %d, %d) = %v", r.at, r.n, r.base, r.top, got)
		}
	}
}

// The examples of the chapter.
func TestExamples(t *testing.T) {
	if Log(4096) != 12 || Zeros(24) != 3 || Down(13, 2) != 12 {
		t.Error("Log, Zeros or Down")
	}
	if x, ok := Up(5, 2); x != 8 || !ok {
		t.Errorf("Up: %d, %v", x, ok)
	}
	if got := slices.Collect(Ones(5)); !slices.Equal(got, []int{0, 2}) {
		t.Errorf("Ones: %v", got)
	}
	if !In(4, 4, 0, 8) || In(5, 4, 0, 8) {
		t.Error("In")
	}
}
