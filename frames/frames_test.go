package frames

import (
	"math"
	"slices"
	"testing"

	"mintmark/api"
)

// sizes are as many numbers as a pool can have: one, some, and all.
func sizes() []int { return []int{1, 2, 3, 7, 8, 16, 31, 32, 33, 62, 63, 64} }

// nowhere are numbers that a pool of n does not have; most are the neighbours of one that it has, modulo 64 or 2^32.
func nowhere(n int) []int {
	return []int{
		-1, -2, -63, -64, -65, -128, -1 << 32, 1 - 1<<32, math.MinInt + 1, math.MinInt,
		n, n + 1, 64, 65, 63 + n, 64 + n, 127, 128, 192, 256, 1 << 31, 1 << 32, 1<<32 + 1, math.MaxInt - 63, math.MaxInt - 1, math.MaxInt,
	}
}

// made is a new pool of n numbers.
func made(t *testing.T, n int) *Pool {
	t.Helper()
	p, err := New(n)
	if p == nil || err != api.OK {
		t.Fatalf("New(%d) = %v, %v", n, p, err)
	}
	return p
}

// full is a pool of n numbers, all of which were taken.
func full(t *testing.T, n int) *Pool {
	t.Helper()
	p := made(t, n)
	for want := range n {
		takes(t, p, want)
	}
	return p
}

// with is a pool of n numbers, of which these, in ascending order, are taken.
func with(t *testing.T, n int, taken ...int) *Pool {
	t.Helper()
	p := full(t, n)
	for i := range n {
		if !slices.Contains(taken, i) {
			gives(t, p, i)
		}
	}
	holds(t, p, n, taken...)
	return p
}

// upTo are the numbers from 0 to n - 1.
func upTo(n int) []int {
	var l []int
	for i := range n {
		l = append(l, i)
	}
	return l
}

// holds reports an error if not exactly these numbers, of a pool of n, are taken.
func holds(t *testing.T, p *Pool, n int, taken ...int) {
	t.Helper()
	if got := p.All(); !slices.Equal(got, taken) {
		t.Errorf("a pool of %d: All() = %v, not %v", n, got, taken)
	}
	if got := p.Free(); got != n-len(taken) {
		t.Errorf("a pool of %d: Free() = %d, not %d", n, got, n-len(taken))
	}
	for i := range n {
		if got := p.Taken(i); got != slices.Contains(taken, i) {
			t.Errorf("a pool of %d with %v: Taken(%d) = %v", n, taken, i, got)
		}
	}
	for _, i := range nowhere(n) {
		if p.Taken(i) {
			t.Errorf("a pool of %d with %v: Taken(%d)", n, taken, i)
		}
	}
}

// takes reports an error if Take does not return this number.
func takes(t *testing.T, p *Pool, want int) {
	t.Helper()
	if got, err := p.Take(); got != want || err != api.OK {
		t.Errorf("Take() = %d, %v, not %d", got, err, want)
	}
}

// refuses reports an error if Take does not return this error, and 0.
func refuses(t *testing.T, p *Pool, want api.Errno) {
	t.Helper()
	if got, err := p.Take(); got != 0 || err != want {
		t.Errorf("Take() = %d, %v, not 0, %v", got, err, want)
	}
}

// gives reports an error if Give of a number returns one.
func gives(t *testing.T, p *Pool, n int) {
	t.Helper()
	if err := p.Give(n); err != api.OK {
		t.Errorf("Give(%d) = %v", n, err)
	}
}

// keeps reports an error if Give of a number does not return this one.
func keeps(t *testing.T, p *Pool, n int, want api.Errno) {
	t.Helper()
	if err := p.Give(n); err != want {
		t.Errorf("Give(%d) = %v, not %v", n, err, want)
	}
}

// The numbers of the errors that the chapter names.
func TestErrors(t *testing.T) {
	if api.OK != 0 || api.ErrNil != 1 || api.ErrArg != 2 || api.ErrNone != 13 || api.ErrRoom != 15 {
		t.Errorf("errors %d, %d, %d, %d, %d", api.OK, api.ErrNil, api.ErrArg, api.ErrNone, api.ErrRoom)
	}
}

// P18.1, P18.3: all numbers of a new pool are free, and it has no others.
func TestNew(t *testing.T) {
	for n := 1; n <= 64; n++ {
		holds(t, made(t, n), n)
	}
}

// P18.1
func TestNewWrong(t *testing.T) {
	for _, n := range []int{
		0, -1, -2, -63, -64, -1 << 32, 1 - 1<<32, math.MinInt + 1, math.MinInt,
		65, 66, 127, 128, 129, 256, 1 << 31, 1 << 32, 1<<32 + 1, 1<<32 + 64, math.MaxInt - 1, math.MaxInt,
	} {
		if p, err := New(n); p != nil || err != api.ErrArg {
			t.Errorf("New(%d) = %v, %v", n, p, err)
		}
	}
}

// P18.1: what is done with one pool is not done with another one, of as many numbers or not.
func TestNewShares(t *testing.T) {
	for _, n := range sizes() {
		a, b, c := made(t, n), made(t, n), made(t, 64)
		for i := range n {
			takes(t, a, i)
		}
		holds(t, a, n, upTo(n)...)
		holds(t, b, n)
		holds(t, c, 64)
		takes(t, b, 0)
		gives(t, a, n-1)
		holds(t, a, n, upTo(n-1)...)
		holds(t, b, n, 0)
		holds(t, c, 64)
		holds(t, made(t, n), n) // nor with one that is made afterward
	}
}

// P18.2: numbers are taken from 0 on, until none is free; then nothing changes.
func TestTakeAll(t *testing.T) {
	for n := 1; n <= 64; n++ {
		p := made(t, n)
		for i := range n {
			takes(t, p, i)
			holds(t, p, n, upTo(i+1)...)
		}
		for range 3 {
			refuses(t, p, api.ErrRoom)
			holds(t, p, n, upTo(n)...)
		}
		gives(t, p, n-1)
		holds(t, p, n, upTo(n-1)...)
		takes(t, p, n-1)
		refuses(t, p, api.ErrRoom)
	}
}

// P18.2: of a full pool, each number alone is given, and is the one that is taken next.
func TestGiveEach(t *testing.T) {
	for _, n := range sizes() {
		p := full(t, n)
		for i := range n {
			gives(t, p, i)
			holds(t, p, n, slices.Concat(upTo(i), upTo(n)[i+1:])...)
			takes(t, p, i)
			holds(t, p, n, upTo(n)...)
			refuses(t, p, api.ErrRoom)
		}
	}
}

// P18.2: of several that were given, in whatever order, the lowest one is taken first.
func TestTakeLowest(t *testing.T) {
	for _, c := range []struct {
		n     int
		given []int
		want  []int
	}{
		{2, []int{1, 0}, []int{0, 1}}, {2, []int{0, 1}, []int{0, 1}},
		{3, []int{2, 0}, []int{0, 2}}, {3, []int{1, 2, 0}, []int{0, 1, 2}}, {3, []int{2, 1}, []int{1, 2}},
		{8, []int{7, 3, 5}, []int{3, 5, 7}}, {8, []int{0, 7}, []int{0, 7}}, {8, []int{7, 0}, []int{0, 7}}, {8, []int{4, 6, 1, 2}, []int{1, 2, 4, 6}},
		{64, []int{63, 0}, []int{0, 63}}, {64, []int{0, 63}, []int{0, 63}}, {64, []int{63, 31, 32, 62, 0, 1}, []int{0, 1, 31, 32, 62, 63}}, {64, []int{40, 63, 33, 12}, []int{12, 33, 40, 63}},
	} {
		p := full(t, c.n)
		left := upTo(c.n)
		for _, i := range c.given {
			gives(t, p, i)
			left = slices.DeleteFunc(left, func(j int) bool { return i == j })
			holds(t, p, c.n, left...)
		}
		for _, i := range c.want {
			takes(t, p, i)
		}
		refuses(t, p, api.ErrRoom)
		holds(t, p, c.n, upTo(c.n)...)
	}
}

// P18.2: a number that was given while higher ones are free is taken before them.
func TestTakeBetween(t *testing.T) {
	p := with(t, 64, 0, 1, 2, 3, 4)
	gives(t, p, 2)
	takes(t, p, 2)
	takes(t, p, 5)
	gives(t, p, 4)
	gives(t, p, 0)
	takes(t, p, 0)
	gives(t, p, 1)
	takes(t, p, 1)
	takes(t, p, 4)
	takes(t, p, 6)
	holds(t, p, 64, 0, 1, 2, 3, 4, 5, 6)
}

// P18.2: of a full pool, all numbers are given, from either end on; then none is taken.
func TestGiveAll(t *testing.T) {
	for _, n := range sizes() {
		up, down := full(t, n), full(t, n)
		for i := range n {
			gives(t, up, i)
			holds(t, up, n, upTo(n)[i+1:]...)
			gives(t, down, n-1-i)
			holds(t, down, n, upTo(n-1-i)...)
		}
		for _, p := range []*Pool{up, down} {
			for i := range n {
				keeps(t, p, i, api.ErrNone)
			}
			holds(t, p, n)
			takes(t, p, 0)
		}
	}
}

// P18.2: a number that is free, as it was never taken, or given back already; nothing changes.
func TestGiveFree(t *testing.T) {
	for _, n := range sizes() {
		p := made(t, n)
		for i := range n {
			keeps(t, p, i, api.ErrNone)
			holds(t, p, n)
		}
		takes(t, p, 0)
		for i := 1; i < n; i++ {
			keeps(t, p, i, api.ErrNone)
			holds(t, p, n, 0)
		}
		gives(t, p, 0)
		keeps(t, p, 0, api.ErrNone)
		keeps(t, p, 0, api.ErrNone)
		holds(t, p, n)
	}
	p := full(t, 64)
	for _, i := range []int{0, 31, 63} {
		gives(t, p, i)
		keeps(t, p, i, api.ErrNone)
		keeps(t, p, i, api.ErrNone)
	}
	holds(t, p, 64, slices.DeleteFunc(upTo(64), func(i int) bool { return i == 0 || i == 31 || i == 63 })...)
}

// P18.2: a number that the pool does not have, whatever is taken; nothing changes.
func TestGiveWrong(t *testing.T) {
	for n := 1; n <= 64; n++ {
		for _, c := range []struct {
			p     *Pool
			taken []int
		}{
			{made(t, n), nil}, {with(t, n, 0), []int{0}}, {with(t, n, n-1), []int{n - 1}}, {full(t, n), upTo(n)},
		} {
			for _, i := range nowhere(n) {
				keeps(t, c.p, i, api.ErrArg)
			}
			holds(t, c.p, n, c.taken...)
		}
	}
}

// P18.2: each number near those of a pool of each size: one that it has is given if it is taken; others are wrong.
func TestGiveBorder(t *testing.T) {
	for n := 1; n <= 64; n++ {
		for i := -70; i <= 140; i++ {
			free, taken := made(t, n), full(t, n)
			if 0 <= i && i < n {
				keeps(t, free, i, api.ErrNone)
				keeps(t, taken, i, api.OK)
			} else {
				keeps(t, free, i, api.ErrArg)
				keeps(t, taken, i, api.ErrArg)
			}
		}
	}
}

// P18.2, P18.3: a nil pool, and one that no function made: ErrNil, before any error of the number, and zero values; nothing is done.
func TestNone(t *testing.T) {
	var plain Pool
	for _, p := range []*Pool{nil, &plain, {}, new(Pool)} {
		for range 2 {
			refuses(t, p, api.ErrNil)
			for _, i := range append(nowhere(1), 0, 1, 2, 31, 32, 63) {
				keeps(t, p, i, api.ErrNil)
				if p.Taken(i) {
					t.Errorf("Taken(%d)", i)
				}
			}
			if free, all := p.Free(), p.All(); free != 0 || len(all) != 0 {
				t.Errorf("Free() = %d, All() = %v", free, all)
			}
		}
	}
	if plain != (Pool{}) {
		t.Errorf("a plain pool is %v", plain)
	}
}

// P18.3
func TestAllKnown(t *testing.T) {
	for _, c := range []struct {
		n     int
		taken []int
	}{
		{1, nil}, {1, []int{0}}, {2, []int{1}}, {5, []int{0, 2, 4}}, {5, []int{1, 3}}, {33, []int{31, 32}},
		{64, []int{0}}, {64, []int{63}}, {64, []int{0, 63}}, {64, []int{31, 32}}, {64, []int{7, 8, 9, 40, 62}}, {64, upTo(64)}, {64, upTo(63)}, {64, upTo(64)[1:]},
	} {
		p := with(t, c.n, c.taken...)
		holds(t, p, c.n, c.taken...)
		holds(t, p, c.n, c.taken...) // asking changes nothing
	}
}

// P18.3: each pool, with each of its sets of taken numbers, up to eight numbers.
func TestAllSets(t *testing.T) {
	for n := 1; n <= 8; n++ {
		for set := range 1 << n {
			taken := slices.DeleteFunc(upTo(n), func(i int) bool { return set>>i&1 == 0 })
			with(t, n, taken...)
		}
	}
}

// P18.3: each call's list is new memory, its spare capacity too.
func TestAllIsNew(t *testing.T) {
	want := []int{0, 1, 5, 31, 63}
	p := with(t, 64, want...)
	first, second := p.All(), p.All()
	for i := range first[:cap(first)] {
		first[:cap(first)][i] = 7
	}
	if !slices.Equal(second, want) {
		t.Errorf("after a change of the first list, the second is %v", second)
	}
	holds(t, p, 64, want...)
	takes(t, p, 2)
	if !slices.Equal(second, want) {
		t.Errorf("after Take, the list from before is %v", second)
	}
	second = p.All()
	gives(t, p, 63)
	if !slices.Equal(second, []int{0, 1, 2, 5, 31, 63}) {
		t.Errorf("after Give, the list from before is %v", second)
	}
}

// model is what the chapter says of a pool: for each of its numbers, whether it is taken.
type model []bool

func (m model) take() (int, api.Errno) {
	n := slices.Index(m, false)
	if n < 0 {
		return 0, api.ErrRoom
	}
	m[n] = true
	return n, api.OK
}

func (m model) give(n int) api.Errno {
	switch {
	case n < 0 || n >= len(m):
		return api.ErrArg
	case !m[n]:
		return api.ErrNone
	}
	m[n] = false
	return api.OK
}

func (m model) taken() []int {
	return slices.DeleteFunc(upTo(len(m)), func(i int) bool { return !m[i] })
}

// agrees does the same to a pool and to its model, a Take or a Give of a number, and reports an error if they answer differently.
func agrees(t *testing.T, p *Pool, m model, take bool, n int) api.Errno {
	t.Helper()
	if take {
		want, wrong := m.take()
		if got, err := p.Take(); got != want || err != wrong {
			t.Errorf("of %v, Take() = %d, %v, not %d, %v", m, got, err, want, wrong)
		}
		return wrong
	}
	wrong := m.give(n)
	if err := p.Give(n); err != wrong {
		t.Errorf("of %v, Give(%d) = %v, not %v", m, n, err, wrong)
	}
	return wrong
}

// P18.2, P18.3: each sequence of five Takes and Gives, in pools of one to three numbers.
func TestSequences(t *testing.T) {
	for n := 1; n <= 3; n++ {
		kinds := n + 3 // Take, and Give of -1 to n
		total := kinds * kinds * kinds * kinds * kinds
		for sequence := range total {
			p, m := made(t, n), make(model, n)
			for range 5 {
				agrees(t, p, m, sequence%kinds == 0, sequence%kinds-2)
				sequence /= kinds
				holds(t, p, n, m.taken()...)
			}
			if t.Failed() {
				return
			}
		}
	}
}

// P18.2, P18.3: many Takes and Gives, by a rule, in pools of each size.
func TestRun(t *testing.T) {
	met := map[api.Errno]int{}
	x := uint32(1)
	next := func(below int) int {
		x = x*1664525 + 1013904223
		return int(x>>8) % below
	}
	for n := 1; n <= 64; n++ {
		p, m := made(t, n), make(model, n)
		for step := range 600 {
			// In turn, more is taken than given, and more is given than taken.
			take := next(4) < 1+step/100%2*2
			met[agrees(t, p, m, take, next(n+2)-1)]++
			holds(t, p, n, m.taken()...)
			if free, taken := p.Free(), len(p.All()); free+taken != n {
				t.Errorf("of %d, %d are free, and %d are taken", n, free, taken)
			}
		}
		if t.Failed() {
			return
		}
	}
	for _, err := range []api.Errno{api.OK, api.ErrArg, api.ErrNone, api.ErrRoom} {
		if met[err] < 500 {
			t.Errorf("error %d was met only %d times", err, met[err])
		}
	}
}

// The chapter's example.
func TestExample(t *testing.T) {
	for _, n := range []int{2, 3, 64} {
		p := made(t, n)
		takes(t, p, 0)
		takes(t, p, 1)
		gives(t, p, 0)
		takes(t, p, 0)
		holds(t, p, n, 0, 1)
	}
}
