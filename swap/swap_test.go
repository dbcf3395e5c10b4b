package swap

import (
	"bytes"
	"math"
	"slices"
	"testing"

	"mintmark/algebra"
	"mintmark/api"
	"mintmark/block"
	"mintmark/capab"
	"mintmark/perm"
	"mintmark/ram"
	"mintmark/tags"
)

// counts are as many blocks as a device can have: one, some, and all.
func counts() []int { return []int{1, 2, 3, 8, 31, 32, 33, 63, 64} }

// nowhere are numbers of blocks that a device of n does not have.
func nowhere(n int) []int {
	return []int{
		-1, -2, -n, -64, -65, -1 << 32, 1 - 1<<32, math.MinInt + 1, math.MinInt,
		n, n + 1, 64, 65, 64 + n, 128, 256, 1000000, 1 << 31, 1 << 32, 1<<32 + 1, math.MaxInt - 1, math.MaxInt,
	}
}

// made is a new device of n blocks, and a store on it.
func made(t *testing.T, n int) (*block.Device, *Store) {
	t.Helper()
	d, err := block.New(n)
	if err != api.OK {
		t.Fatalf("block.New(%d): %v", n, err)
	}
	s, err := New(d)
	if s == nil || err != api.OK {
		t.Fatalf("New of a device of %d = %v, %v", n, s, err)
	}
	return d, s
}

// root is a capability with a tag, whose span has sixteen bytes from base on.
func root(t *testing.T, base uint64) capab.Cap {
	t.Helper()
	c, ok := capab.Root(api.Span{Base: base, Top: base + 16}, perm.Load|perm.Store)
	if !ok {
		t.Fatalf("no capability from %d on", base)
	}
	return c
}

// put lays a capability into a granule of a page, with its tag.
func put(p *ram.Page, granule int, c capab.Cap) {
	b := capab.Bytes(c)
	copy(p.Bytes[granule*16:], b[:])
	p.Tags = p.Tags.With(granule, c.Tag)
}

// bases is a page that has, in each granule that is named, a capability with a tag whose span begins at base plus the granule's number times 64; all other bytes are 171.
func bases(t *testing.T, base uint64, granules ...int) ram.Page {
	t.Helper()
	var p ram.Page
	copy(p.Bytes[:], bytes.Repeat([]byte{171}, 4096))
	for _, i := range granules {
		put(&p, i, root(t, base+uint64(i)*64))
	}
	return p
}

// page is a page of bytes and tags by a rule; those of two seeds differ. Seed 0 is all zeros.
func page(seed int) ram.Page {
	var p ram.Page
	if seed == 0 {
		return p
	}
	for i := range p.Bytes {
		p.Bytes[i] = byte(i*31 + i>>8*7 + seed)
	}
	p.Bytes[0], p.Bytes[1], p.Bytes[4095] = byte(seed), byte(seed>>8), byte(seed*3)
	x := uint64(seed)
	for w := range p.Tags {
		x = x*6364136223846793005 + 1442695040888963407
		p.Tags[w] = x ^ x>>29
	}
	return p
}

// upTo is the numbers from 0 to below n.
func upTo(n int) []int {
	var all []int
	for i := range n {
		all = append(all, i)
	}
	return all
}

// set is the set of these granules.
func set(granules ...int) tags.Set {
	var s tags.Set
	for _, i := range granules {
		s = s.With(i, true)
	}
	return s
}

// always and never are what Sweep and Swept may be passed, and one is gone of a single base.
func always(uint64) bool { return true }
func never(uint64) bool  { return false }
func one(base uint64) func(uint64) bool {
	return func(b uint64) bool { return b == base }
}

// goes reports an error if Out of a page does not return this number.
func goes(t *testing.T, s *Store, p ram.Page, want int) {
	t.Helper()
	if got, err := s.Out(p); got != want || err != api.OK {
		t.Errorf("Out = %d, %v, not %d", got, err, want)
	}
}

// stays reports an error if Out of a page does not return this error, and 0.
func stays(t *testing.T, s *Store, p ram.Page, want api.Errno) {
	t.Helper()
	if got, err := s.Out(p); got != 0 || err != want {
		t.Errorf("Out = %d, %v, not 0, %v", got, err, want)
	}
}

// comes reports an error if In of a block does not return this page.
func comes(t *testing.T, s *Store, n int, want ram.Page) {
	t.Helper()
	got, err := s.In(n)
	if err != api.OK || got.Bytes != want.Bytes {
		t.Errorf("In(%d): error %v, or other bytes than were stored", n, err)
	}
	if got.Tags != want.Tags {
		t.Errorf("In(%d) has the tags %v, not %v", n, got.Tags, want.Tags)
	}
}

// fails reports an error if In of a block does not return this error, and a zero page.
func fails(t *testing.T, s *Store, n int, want api.Errno) {
	t.Helper()
	if got, err := s.In(n); err != want || got != (ram.Page{}) {
		t.Errorf("In(%d) returns the error %v, not %v, and a page with the tags %v", n, err, want, got.Tags)
	}
}

// frees reports an error if Free of a block does not return this error.
func frees(t *testing.T, s *Store, n int, want api.Errno) {
	t.Helper()
	if got := s.Free(n); got != want {
		t.Errorf("Free(%d) = %v, not %v", n, got, want)
	}
}

// sweeps reports an error if Sweep of a block does not return this number and this error.
func sweeps(t *testing.T, s *Store, n int, gone func(uint64) bool, want int, wrong api.Errno) {
	t.Helper()
	if got, err := s.Sweep(n, gone); got != want || err != wrong {
		t.Errorf("Sweep(%d) = %d, %v, not %d, %v", n, got, err, want, wrong)
	}
}

// holds reports an error if a store on a device of n blocks does not have exactly these pages in these blocks.
func holds(t *testing.T, s *Store, n int, pages map[int]ram.Page) {
	t.Helper()
	told(t, s, n, pages)
	for i := range n {
		if p, used := pages[i]; used {
			comes(t, s, i, p)
		} else {
			fails(t, s, i, api.ErrNone)
		}
	}
}

// told does as holds does, without a call of the device.
func told(t *testing.T, s *Store, n int, pages map[int]ram.Page) {
	t.Helper()
	var used []int
	for i := range n {
		p, is := pages[i]
		if is {
			used = append(used, i)
		}
		if got := s.Tags(i); got != p.Tags {
			t.Errorf("Tags(%d) = %v, not %v", i, got, p.Tags)
		}
	}
	if got := s.Used(); !slices.Equal(got, used) {
		t.Errorf("Used() = %v, not %v", got, used)
	}
}

// full is a store on a device of n blocks, all of which are used, and what they have.
func full(t *testing.T, n int) (*block.Device, *Store, map[int]ram.Page) {
	t.Helper()
	d, s := made(t, n)
	pages := map[int]ram.Page{}
	for i := range n {
		pages[i] = page(i + 1)
		goes(t, s, pages[i], i)
	}
	return d, s, pages
}

// The numbers of the errors that the chapter names, and its limits.
func TestConstants(t *testing.T) {
	if api.OK != 0 || api.ErrNil != 1 || api.ErrNone != 13 || api.ErrRoom != 15 || api.ErrDevice != 17 {
		t.Errorf("errors %d, %d, %d, %d, %d", api.OK, api.ErrNil, api.ErrNone, api.ErrRoom, api.ErrDevice)
	}
	if api.MaxSlots != 64 || api.PageBytes != 4096 || api.PageTags != 256 || api.Granule != 16 {
		t.Errorf("limits %d, %d, %d, %d", api.MaxSlots, api.PageBytes, api.PageTags, api.Granule)
	}
}

// P20.1: all blocks of a new store are free, whatever the device's blocks contain, and it takes as many pages as there are blocks.
func TestNew(t *testing.T) {
	for n := 1; n <= 64; n++ {
		d, s := made(t, n)
		holds(t, s, n, nil)
		for i := range n {
			if err := d.Write(i, bytes.Repeat([]byte{9}, 4096)); err != api.OK {
				t.Fatal(err)
			}
		}
		again, err := New(d)
		if err != api.OK {
			t.Fatal(err)
		}
		holds(t, again, n, nil)
		for i := range n {
			goes(t, s, page(i), i)
		}
		stays(t, s, page(0), api.ErrRoom)
	}
}

// P20.1: making a store calls nothing of the device, so that it is made even if the device fails.
func TestNewCallsNothing(t *testing.T) {
	d, err := block.New(2)
	if err != api.OK {
		t.Fatal(err)
	}
	d.Fail(1)
	s, err := New(d)
	if s == nil || err != api.OK {
		t.Fatalf("New = %v, %v", s, err)
	}
	stays(t, s, page(1), api.ErrDevice)
	goes(t, s, page(1), 0)
}

// P20.1
func TestNewWrong(t *testing.T) {
	var plain block.Device
	for i, d := range []*block.Device{nil, &plain, {}, new(block.Device)} {
		if s, err := New(d); s != nil || err != api.ErrNil {
			t.Errorf("New of device %d = %v, %v", i, s, err)
		}
	}
}

// P20.2: what is done with one store is not done with another one, on another device.
func TestNewShares(t *testing.T) {
	for _, n := range counts() {
		d, s, pages := full(t, n)
		_, other := made(t, n)
		_, more := made(t, 64)
		holds(t, other, n, nil)
		goes(t, more, page(500), 0)
		d.Fail(1)
		goes(t, other, page(501), 0)
		frees(t, s, n-1, api.OK)
		delete(pages, n-1)
		sweeps(t, other, 0, always, page(501).Tags.Count(), api.OK)
		swept := page(501)
		swept.Tags = tags.Set{}
		holds(t, other, n, map[int]ram.Page{0: swept})
		holds(t, more, 64, map[int]ram.Page{0: page(500)})
		stays(t, s, page(502), api.ErrDevice)
		holds(t, s, n, pages)
	}
}

// P20.2, P20.4: pages go out to the blocks from 0 on, until none is free; then nothing changes.
func TestOutAll(t *testing.T) {
	for n := 1; n <= 64; n++ {
		_, s := made(t, n)
		pages := map[int]ram.Page{}
		for i := range n {
			pages[i] = page(n*64 + i)
			goes(t, s, pages[i], i)
			told(t, s, n, pages)
		}
		for range 3 {
			stays(t, s, page(7), api.ErrRoom)
		}
		holds(t, s, n, pages)
		frees(t, s, n-1, api.OK)
		goes(t, s, page(9), n-1)
		stays(t, s, page(7), api.ErrRoom)
		pages[n-1] = page(9)
		holds(t, s, n, pages)
	}
}

// P20.2: of several blocks that were freed, in whatever order, the lowest one is used first.
func TestOutLowest(t *testing.T) {
	for _, c := range []struct {
		n           int
		freed, want []int
	}{
		{2, []int{1, 0}, []int{0, 1}}, {2, []int{0, 1}, []int{0, 1}},
		{3, []int{2, 0}, []int{0, 2}}, {3, []int{1, 2, 0}, []int{0, 1, 2}}, {3, []int{2, 1}, []int{1, 2}},
		{8, []int{7, 3, 5}, []int{3, 5, 7}}, {8, []int{4, 6, 1, 2}, []int{1, 2, 4, 6}},
		{64, []int{63, 0}, []int{0, 63}}, {64, []int{63, 31, 32, 62, 0, 1}, []int{0, 1, 31, 32, 62, 63}}, {64, []int{40, 63, 33, 12}, []int{12, 33, 40, 63}},
	} {
		_, s, pages := full(t, c.n)
		for _, i := range c.freed {
			frees(t, s, i, api.OK)
			delete(pages, i)
			told(t, s, c.n, pages)
		}
		for _, i := range c.want {
			pages[i] = page(1000 + i)
			goes(t, s, pages[i], i)
		}
		stays(t, s, page(7), api.ErrRoom)
		holds(t, s, c.n, pages)
	}
}

// P20.2: the bytes of the page are in the block of the device that has the number.
func TestOutWrites(t *testing.T) {
	d, s := made(t, 3)
	for i := range 3 {
		p := page(40 + i)
		goes(t, s, p, i)
		if b, err := d.Read(i); err != api.OK || !bytes.Equal(b, p.Bytes[:]) {
			t.Errorf("block %d has not the bytes of the page", i)
		}
		for j := i + 1; j < 3; j++ {
			if b, err := d.Read(j); err != api.OK || !bytes.Equal(b, make([]byte, 4096)) {
				t.Errorf("block %d was written, too", j)
			}
		}
	}
}

// P20.2, P20.5: while the device fails, the block remains free, and the next Out uses it.
func TestOutFails(t *testing.T) {
	for _, n := range counts() {
		d, s := made(t, n)
		pages := map[int]ram.Page{}
		for i := range n {
			d.Fail(i % 3)
			for range i % 3 {
				stays(t, s, page(900), api.ErrDevice)
				told(t, s, n, pages)
			}
			pages[i] = page(i + 1)
			goes(t, s, pages[i], i)
		}
		holds(t, s, n, pages)
	}
}

// P20.2: a block that was freed remains free when Out to it fails, and what others have remains.
func TestOutFailsBetween(t *testing.T) {
	d, s, pages := full(t, 5)
	for _, i := range []int{3, 1} {
		frees(t, s, i, api.OK)
		delete(pages, i)
	}
	d.Fail(2)
	stays(t, s, page(50), api.ErrDevice)
	stays(t, s, page(51), api.ErrDevice)
	holds(t, s, 5, pages)
	pages[1], pages[3] = page(52), page(53)
	goes(t, s, pages[1], 1)
	goes(t, s, pages[3], 3)
	holds(t, s, 5, pages)
}

// P20.2: if no block is free, that is the error, and the call counts for nothing with the device.
func TestOutOrder(t *testing.T) {
	for _, n := range counts() {
		d, s, pages := full(t, n)
		d.Fail(1)
		for range 3 {
			stays(t, s, page(7), api.ErrRoom)
		}
		fails(t, s, 0, api.ErrDevice)
		holds(t, s, n, pages)
	}
}

// P20.2: a block that is not used has no page: it never had, or was freed, or there is none. No such call counts for the device.
func TestInNone(t *testing.T) {
	for _, n := range counts() {
		d, s := made(t, n)
		d.Fail(1)
		for i := range n {
			fails(t, s, i, api.ErrNone)
		}
		for _, i := range nowhere(n) {
			fails(t, s, i, api.ErrNone)
		}
		stays(t, s, page(1), api.ErrDevice)
		goes(t, s, page(1), 0)
		frees(t, s, 0, api.OK)
		d.Fail(1)
		fails(t, s, 0, api.ErrNone)
		for _, i := range nowhere(n) {
			fails(t, s, i, api.ErrNone)
		}
		stays(t, s, page(1), api.ErrDevice)
		holds(t, s, n, nil)
	}
}

// P20.2: each number near those of a device's blocks.
func TestBlockBorder(t *testing.T) {
	for n := 1; n <= 64; n++ {
		_, s, pages := full(t, n)
		for i := -3; i <= 70; i++ {
			if p, used := pages[i]; used {
				comes(t, s, i, p)
				sweeps(t, s, i, never, 0, api.OK)
				frees(t, s, i, api.OK)
			}
			fails(t, s, i, api.ErrNone)
			frees(t, s, i, api.ErrNone)
			sweeps(t, s, i, always, 0, api.ErrNone)
			if got := s.Tags(i); got != (tags.Set{}) {
				t.Errorf("Tags(%d) = %v", i, got)
			}
		}
		holds(t, s, n, nil)
	}
}

// P20.2, P20.5: while the device fails, nothing comes beside the error, and nothing changes; then the page is there.
func TestInFails(t *testing.T) {
	d, s, pages := full(t, 3)
	for n := range 6 {
		d.Fail(n)
		for i := range n {
			fails(t, s, i%3, api.ErrDevice)
			told(t, s, 3, pages)
		}
		holds(t, s, 3, pages)
	}
}

// P20.2: In leaves the block used.
func TestInAgain(t *testing.T) {
	_, s, pages := full(t, 2)
	for range 3 {
		holds(t, s, 2, pages)
	}
	stays(t, s, page(1), api.ErrRoom)
}

// P20.2: a block is freed once, and the others are as they were; what is not used is not freed.
func TestFree(t *testing.T) {
	for _, n := range counts() {
		_, s, pages := full(t, n)
		for _, i := range nowhere(n) {
			frees(t, s, i, api.ErrNone)
		}
		holds(t, s, n, pages)
		for i := range n {
			j := (i*5 + 3) % n
			if _, used := pages[j]; !used {
				continue
			}
			frees(t, s, j, api.OK)
			frees(t, s, j, api.ErrNone)
			delete(pages, j)
			told(t, s, n, pages)
		}
		holds(t, s, n, pages)
	}
}

// P20.2: Free is no call of the device: it does not fail, and counts for nothing.
func TestFreeCallsNothing(t *testing.T) {
	d, s, pages := full(t, 2)
	d.Fail(1)
	frees(t, s, 0, api.OK)
	frees(t, s, 0, api.ErrNone)
	delete(pages, 0)
	told(t, s, 2, pages)
	stays(t, s, page(5), api.ErrDevice)
	holds(t, s, 2, pages)
}

// P20.2, P20.4: a block that is used again has what was stored last, and no tag of what it had.
func TestUsedAgain(t *testing.T) {
	_, s := made(t, 1)
	for i := range 20 {
		p := page(i * 3 % 7)
		goes(t, s, p, 0)
		holds(t, s, 1, map[int]ram.Page{0: p})
		frees(t, s, 0, api.OK)
		holds(t, s, 1, nil)
	}
}

// swept reports an error if Swept of a page does not remove exactly these tags, and nothing else.
func swept(t *testing.T, p ram.Page, gone func(uint64) bool, removed ...int) {
	t.Helper()
	before, want := p, p
	for _, i := range removed {
		want.Tags = want.Tags.With(i, false)
	}
	got, n := Swept(p, gone)
	if n != len(removed) {
		t.Errorf("Swept removes %d tags, not %d", n, len(removed))
	}
	if got.Bytes != want.Bytes {
		t.Error("Swept changes bytes")
	}
	if got.Tags != want.Tags {
		t.Errorf("Swept leaves the tags %v, not %v", got.Tags, want.Tags)
	}
	if p != before {
		t.Error("Swept changes what it was passed")
	}
}

// P20.3: of pages with no tag, all, and some, in the first and the last granule and between.
func TestSwept(t *testing.T) {
	for _, granules := range [][]int{nil, {0}, {255}, {0, 255}, {63, 64}, {0, 1, 62, 63, 64, 65, 127, 128, 191, 192, 254, 255}, {17}, upTo(256)} {
		p := bases(t, 4096, granules...)
		swept(t, p, nil)
		swept(t, p, never)
		swept(t, p, always, granules...)
		for _, i := range granules {
			swept(t, p, one(4096+uint64(i)*64), i)
		}
		swept(t, p, one(4095))
		swept(t, p, one(4096+300*64))
		var odd []int
		for _, i := range granules {
			if i%2 != 0 {
				odd = append(odd, i)
			}
		}
		swept(t, p, func(b uint64) bool { return b/64%2 != 0 }, odd...)
	}
}

// P20.3: gone is asked for the granules with a tag alone, each once, with the Base of the span: not with the address.
func TestSweptAsks(t *testing.T) {
	p := bases(t, 4096, 2, 9, 200)
	c := root(t, 1<<20)
	put(&p, 10, algebra.Move(c, 5)) // an address within the span
	put(&p, 11, algebra.Clear(c))   // no tag
	sealed, _ := capab.Make(capab.View{Span: api.Span{Base: 1 << 21, Top: 1<<21 + 64}, Type: capab.First}, 1<<21+32)
	sealed.Tag = true
	put(&p, 12, sealed)
	var asked []uint64
	got, n := Swept(p, func(b uint64) bool {
		asked = append(asked, b)
		return b >= 1<<20
	})
	slices.Sort(asked)
	if want := []uint64{4096 + 2*64, 4096 + 9*64, 4096 + 200*64, 1 << 20, 1 << 21}; !slices.Equal(asked, want) {
		t.Errorf("gone is asked for %v, not for %v", asked, want)
	}
	if n != 2 || got.Tags != set(2, 9, 200) || got.Bytes != p.Bytes {
		t.Errorf("Swept removes %d tags, and leaves %v", n, got.Tags)
	}
}

// P20.3: a capability with a tag that has no span, as any bytes may be, has the Base that algebra.Base tells.
func TestSweptAny(t *testing.T) {
	for seed := range 60 {
		p := page(seed)
		want := map[uint64]int{}
		var all []int
		for i := range 256 {
			if !p.Tags.Get(i) {
				continue
			}
			all = append(all, i)
			want[algebra.Base(capab.Of([16]byte(p.Bytes[i*16:i*16+16]), true))]++
		}
		asked := map[uint64]int{}
		swept(t, p, func(b uint64) bool {
			asked[b]++
			return true
		}, all...)
		if len(asked) != len(want) {
			t.Errorf("gone is asked for %d bases, not for %d", len(asked), len(want))
		}
		for b, n := range want {
			if asked[b] != n {
				t.Errorf("gone is asked %d times for %d, not %d times", asked[b], b, n)
			}
		}
	}
	var p ram.Page // of zeros with tags: as a capability has, these have the Base 0
	p.Tags = set(0, 100, 255)
	swept(t, p, one(algebra.Base(capab.Cap{Tag: true})), 0, 100, 255)
	swept(t, p, never)
}

// P20.3: a gone that panics has not returned true: that tag remains, and the others are asked for all the same.
func TestSweptPanics(t *testing.T) {
	p := bases(t, 4096, 0, 1, 2, 255)
	swept(t, p, func(uint64) bool { panic("x") })
	swept(t, p, func(b uint64) bool {
		if b == 4096+64 {
			panic(nil)
		}
		return true
	}, 0, 2, 255)
	_, s := made(t, 1)
	goes(t, s, p, 0)
	sweeps(t, s, 0, func(uint64) bool { panic("x") }, 0, api.OK)
	holds(t, s, 1, map[int]ram.Page{0: p})
}

// P20.3, P20.5: a later In has the tags as they were swept, and the bytes as they were written; other blocks are as they were.
func TestSweep(t *testing.T) {
	_, s := made(t, 3)
	pages := map[int]ram.Page{0: bases(t, 4096, 0, 5, 255), 1: bases(t, 4096, upTo(256)...), 2: bases(t, 4096)}
	for i := range 3 {
		goes(t, s, pages[i], i)
	}
	sweep := func(n int, gone func(uint64) bool, left ...int) {
		t.Helper()
		p := pages[n]
		sweeps(t, s, n, gone, p.Tags.Count()-len(left), api.OK)
		p.Tags = set(left...)
		pages[n] = p
		holds(t, s, 3, pages)
	}
	sweep(0, nil, 0, 5, 255)
	sweep(0, never, 0, 5, 255)
	sweep(0, one(4096+5*64), 0, 255)
	sweep(0, one(4096+5*64), 0, 255)
	sweep(2, always)
	sweep(1, func(b uint64) bool { return b >= 4096+64 }, 0)
	sweep(0, one(4096+255*64), 0)
	sweep(0, one(4096))
	sweep(1, always)
	sweep(1, always)
}

// P20.3: a block that is not used, whatever gone is: nothing is asked, and it counts for nothing with the device.
func TestSweepNone(t *testing.T) {
	for _, n := range counts() {
		d, s := made(t, n)
		goes(t, s, page(1), 0)
		frees(t, s, 0, api.OK)
		d.Fail(1)
		asked := func(uint64) bool {
			t.Error("gone is asked")
			return true
		}
		for _, i := range append(nowhere(n), upTo(n)...) {
			sweeps(t, s, i, asked, 0, api.ErrNone)
			sweeps(t, s, i, nil, 0, api.ErrNone)
		}
		stays(t, s, page(1), api.ErrDevice)
		holds(t, s, n, nil)
	}
}

// P20.3, P20.5: while the device fails, nothing is changed, whatever gone is, and even if the page has no tag.
func TestSweepFails(t *testing.T) {
	d, s := made(t, 2)
	pages := map[int]ram.Page{0: bases(t, 4096, 0, 5, 255), 1: bases(t, 4096)}
	goes(t, s, pages[0], 0)
	goes(t, s, pages[1], 1)
	for i := range 2 {
		for _, gone := range []func(uint64) bool{nil, always, never} {
			d.Fail(2)
			sweeps(t, s, i, gone, 0, api.ErrDevice)
			sweeps(t, s, i, gone, 0, api.ErrDevice)
			holds(t, s, 2, pages)
		}
	}
	sweeps(t, s, 0, always, 3, api.OK)
}

// P20.2, P20.3: Out, In and Sweep are one call of the device each; Tags and Used are none.
func TestCalls(t *testing.T) {
	for order := range 81 {
		d, s := made(t, 2)
		goes(t, s, page(1), 0)
		d.Fail(4)
		for i := range 4 {
			var err api.Errno
			switch kind := []int{order / 27, order / 9 % 3, order / 3 % 3, order % 3}[i]; kind {
			case 0:
				_, err = s.Out(page(2))
			case 1:
				_, err = s.In(0)
			default:
				_, err = s.Sweep(0, always)
			}
			if err != api.ErrDevice {
				t.Errorf("call %d of %d returns %v", i, order, err)
			}
			told(t, s, 2, map[int]ram.Page{0: page(1)})
		}
		holds(t, s, 2, map[int]ram.Page{0: page(1)})
	}
}

// P20.3, P20.5: whatever gone does with the store meanwhile, no tag comes back, and no block is used that is free.
func TestSweepMeanwhile(t *testing.T) {
	p := bases(t, 4096, 0, 1, 2)
	_, s := made(t, 2)
	goes(t, s, p, 0)
	sweeps(t, s, 0, func(b uint64) bool {
		if b == 4096 {
			frees(t, s, 0, api.OK)
		}
		return b == 4096+64
	}, 1, api.OK)
	holds(t, s, 2, nil)

	goes(t, s, p, 0)
	sweeps(t, s, 0, func(b uint64) bool {
		if b == 4096 {
			sweeps(t, s, 0, one(4096+128), 1, api.OK)
		}
		return b == 4096+64
	}, 1, api.OK)
	left := p
	left.Tags = set(0)
	holds(t, s, 2, map[int]ram.Page{0: left})

	sweeps(t, s, 0, func(b uint64) bool {
		frees(t, s, 0, api.OK)
		goes(t, s, bases(t, 4096), 0)
		return false
	}, 0, api.OK)
	holds(t, s, 2, map[int]ram.Page{0: bases(t, 4096)})
}

// P20.4: Tags of what is no used block, and Used of a store in which none is.
func TestTagsNone(t *testing.T) {
	for _, n := range counts() {
		_, s, pages := full(t, n)
		for _, i := range nowhere(n) {
			if got := s.Tags(i); got != (tags.Set{}) {
				t.Errorf("Tags(%d) = %v", i, got)
			}
		}
		told(t, s, n, pages)
		for i := range n {
			frees(t, s, i, api.OK)
		}
		told(t, s, n, nil)
	}
}

// P20.4: each call's list is new memory, its spare capacity too.
func TestUsedIsNew(t *testing.T) {
	_, s, pages := full(t, 5)
	for _, i := range []int{1, 3} {
		frees(t, s, i, api.OK)
		delete(pages, i)
	}
	first, second := s.Used(), s.Used()
	first = first[:cap(first)]
	for i := range first {
		first[i] = 7
	}
	if !slices.Equal(second, []int{0, 2, 4}) {
		t.Errorf("after a change of the first list, the second is %v", second)
	}
	goes(t, s, page(8), 1)
	pages[1] = page(8)
	frees(t, s, 4, api.OK)
	delete(pages, 4)
	if !slices.Equal(second, []int{0, 2, 4}) {
		t.Errorf("after Out and Free, the list from before is %v", second)
	}
	holds(t, s, 5, pages)
}

// P20.5: each byte and each tag of a page is stored by itself.
func TestEach(t *testing.T) {
	_, s := made(t, 3)
	goes(t, s, page(0), 0)
	for i := range 4096 {
		var p ram.Page
		p.Bytes[i] = byte(i%255 + 1)
		p.Tags = set(i % 256)
		if i%2 != 0 {
			p.Tags = set(slices.Delete(upTo(256), i%256, i%256+1)...)
		}
		goes(t, s, p, 1)
		comes(t, s, 1, p)
		comes(t, s, 0, page(0))
		frees(t, s, 1, api.OK)
	}
}

// P20.5: with no tag, with every tag, with the first and the last one.
func TestPages(t *testing.T) {
	for _, granules := range [][]int{nil, upTo(256), {0}, {255}, {0, 255}, {63, 64, 127, 128}} {
		for _, seed := range []int{0, 1, 77} {
			p := page(seed)
			p.Tags = set(granules...)
			_, s := made(t, 2)
			goes(t, s, p, 0)
			goes(t, s, page(3), 1)
			holds(t, s, 2, map[int]ram.Page{0: p, 1: page(3)})
		}
	}
}

// P20.5: a page that was passed, or returned, may be changed afterward without changing what is stored.
func TestKeepsNothing(t *testing.T) {
	_, s := made(t, 1)
	p := page(5)
	goes(t, s, p, 0)
	clear(p.Bytes[:])
	p.Tags = set(1)
	comes(t, s, 0, page(5))
	got, _ := s.In(0)
	clear(got.Bytes[:])
	got.Tags = tags.Set{}
	theirs := s.Tags(0)
	clear(theirs[:])
	holds(t, s, 1, map[int]ram.Page{0: page(5)})
}

// P20.2, P20.3, P20.4: a nil store, and one that no function made: ErrNil, before any error of the number, and zero values; nothing is done.
func TestNone(t *testing.T) {
	var plain Store
	for _, s := range []*Store{nil, &plain, {}, new(Store)} {
		for _, i := range append(nowhere(1), 0, 1, 63) {
			stays(t, s, page(i&255), api.ErrNil)
			fails(t, s, i, api.ErrNil)
			frees(t, s, i, api.ErrNil)
			for _, gone := range []func(uint64) bool{nil, always, never} {
				sweeps(t, s, i, gone, 0, api.ErrNil)
			}
			if got := s.Tags(i); got != (tags.Set{}) {
				t.Errorf("Tags(%d) = %v", i, got)
			}
			if got := s.Used(); len(got) != 0 {
				t.Errorf("Used() = %v", got)
			}
		}
	}
	if plain.device != nil || plain.blocks != nil || plain.tags != nil {
		t.Errorf("a plain store is %v", plain)
	}
}

// model is what the chapter says of a store: the pages in its blocks, and how many calls of the device are to fail.
type model struct {
	n       int
	pages   map[int]ram.Page
	failing int
}

// call returns the error of a call of the device.
func (m *model) call() api.Errno {
	if m.failing < 1 {
		return api.OK
	}
	m.failing--
	return api.ErrDevice
}

func (m *model) out(p ram.Page) (int, api.Errno) {
	for i := range m.n {
		if _, used := m.pages[i]; used {
			continue
		}
		if err := m.call(); err != api.OK {
			return 0, err
		}
		m.pages[i] = p
		return i, api.OK
	}
	return 0, api.ErrRoom
}

func (m *model) in(n int) (ram.Page, api.Errno) {
	p, used := m.pages[n]
	if !used {
		return ram.Page{}, api.ErrNone
	}
	if err := m.call(); err != api.OK {
		return ram.Page{}, err
	}
	return p, api.OK
}

func (m *model) free(n int) api.Errno {
	if _, used := m.pages[n]; !used {
		return api.ErrNone
	}
	delete(m.pages, n)
	return api.OK
}

func (m *model) sweep(n int, gone func(uint64) bool) (int, api.Errno) {
	p, err := m.in(n)
	if err != api.OK {
		return 0, err
	}
	count := 0
	for i := range 256 {
		if p.Tags.Get(i) && gone(algebra.Base(capab.Of([16]byte(p.Bytes[i*16:i*16+16]), true))) {
			p.Tags = p.Tags.With(i, false)
			count++
		}
	}
	m.pages[n] = p
	return count, api.OK
}

// P20.1 to P20.5: many calls, by a rule, on devices of some sizes that fail at times.
func TestRun(t *testing.T) {
	met := map[api.Errno]int{}
	removed := 0
	x := uint32(1)
	next := func(below int) int {
		x = x*1664525 + 1013904223
		return int(x>>8) % below
	}
	for _, n := range counts() {
		d, s := made(t, n)
		m := &model{n: n, pages: map[int]ram.Page{}}
		for step := range 900 {
			i := next(n+2) - 1
			// In turn, more goes out than is freed, and more is freed than goes out.
			switch kind := next(10); {
			case kind < 4 && step/150%2 == 0, kind < 1:
				p := bases(t, 4096, next(256), next(256), next(256))
				p.Bytes[next(4096)] ^= byte(next(256))
				want, wrong := m.out(p)
				if got, err := s.Out(p); got != want || err != wrong {
					t.Errorf("Out = %d, %v, not %d, %v", got, err, want, wrong)
				}
				met[wrong]++
			case kind < 4:
				want := m.free(i)
				frees(t, s, i, want)
				met[want]++
			case kind < 6:
				want, wrong := m.in(i)
				if got, err := s.In(i); got != want || err != wrong {
					t.Errorf("In(%d) = tags %v, %v, not %v, %v", i, got.Tags, err, want.Tags, wrong)
				}
				met[wrong]++
			case kind < 9:
				from, to := uint64(4096+64*next(256)), uint64(4096+64*next(256))
				gone := func(b uint64) bool { return from <= b && b < to }
				want, wrong := m.sweep(i, gone)
				sweeps(t, s, i, gone, want, wrong)
				met[wrong]++
				removed += want
			default:
				m.failing = next(5) - 1
				d.Fail(m.failing)
			}
			told(t, s, n, m.pages)
			if t.Failed() {
				return
			}
		}
		d.Fail(0)
		holds(t, s, n, m.pages)
	}
	for _, err := range []api.Errno{api.OK, api.ErrNone, api.ErrRoom, api.ErrDevice} {
		if met[err] < 100 {
			t.Errorf("error %d was met only %d times", err, met[err])
		}
	}
	if removed < 100 {
		t.Errorf("only %d tags were removed", removed)
	}
}

// The chapter's example.
func TestExample(t *testing.T) {
	for _, n := range []int{1, 2, 64} {
		_, s := made(t, n)
		p := bases(t, 4096, 3, 200)
		goes(t, s, p, 0)
		comes(t, s, 0, p)
	}
}
