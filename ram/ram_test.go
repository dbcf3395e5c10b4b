package ram

import (
	"math"
	"testing"

	"mintmark/api"
	"mintmark/capab"
	"mintmark/tags"
)

const (
	pageBytes = 4096
	granule   = 16
)

// made is memory of so many frames, none of whose bytes is zero and all of whose granules have a tag; and its pages.
func made(t *testing.T, frames int) (*Ram, []Page) {
	t.Helper()
	r, err := New(frames)
	if err != api.OK {
		t.Fatalf("New(%d): %d", frames, err)
	}
	pages := make([]Page, frames)
	for i := range pages {
		pages[i] = full(i)
		if err := r.Write(i, pages[i]); err != api.OK {
			t.Fatalf("Write(%d): %d", i, err)
		}
	}
	return r, pages
}

// full is a page without a zero byte, with all tags; for each i another one.
func full(i int) Page {
	p := Page{Tags: tags.Set{math.MaxUint64, math.MaxUint64, math.MaxUint64, math.MaxUint64}}
	for k := range p.Bytes {
		p.Bytes[k] = byte((i*31+k*7+k/256)%255 + 1)
	}
	return p
}

// holds reports an error if the memory is not of these pages.
func holds(t *testing.T, r *Ram, pages []Page, after string, args ...any) {
	t.Helper()
	if r.Frames() != len(pages) {
		t.Errorf("after %s %v: %d frames", after, args, r.Frames())
	}
	for i, want := range pages {
		got, err := r.Read(i)
		if err != api.OK {
			t.Errorf("after %s %v: Read(%d): %d", after, args, i, err)
		}
		for k := range got.Bytes {
			if got.Bytes[k] != want.Bytes[k] {
				t.Errorf("after %s %v: byte %d of frame %d is %x, not %x", after, args, k, i, got.Bytes[k], want.Bytes[k])
				break
			}
		}
		if got.Tags != want.Tags {
			t.Errorf("after %s %v: tags of frame %d are %x, not %x", after, args, i, got.Tags, want.Tags)
		}
		if set, err := r.Tags(i); set != want.Tags || err != api.OK {
			t.Errorf("after %s %v: Tags(%d): %x, %d, not %x", after, args, i, set, err, want.Tags)
		}
	}
}

// tagged is a capability that is well-formed, with a tag.
func tagged(t *testing.T) capab.Cap {
	t.Helper()
	c, ok := capab.Root(api.Span{Base: 4096, Top: 4112}, 27)
	if !ok || !c.Tag || !capab.Right(c) {
		t.Fatal("Root", c, ok)
	}
	return c
}

// capabilities has some with a tag and without one, well-formed and not.
func capabilities(t *testing.T) []capab.Cap {
	c := tagged(t)
	bare := c
	bare.Tag = false
	return []capab.Cap{
		c, bare, {}, {Tag: true},
		{Tag: true, Meta: math.MaxUint64, Addr: math.MaxUint64}, {Meta: math.MaxUint64, Addr: math.MaxUint64},
		{Tag: true, Meta: 0xf0e0d0c0b0a09080, Addr: 0x1122334455667788}, {Meta: 0x0102030405060708, Addr: 1 << 63},
		{Tag: true, Meta: 1 << 63, Addr: 1},
	}
}

// wrongFrames are numbers that no frame of a memory of so many has.
func wrongFrames(frames int) []int {
	return []int{-1, -2, -64, math.MinInt, frames, frames + 1, 64, 65, 1 << 52, math.MaxInt}
}

// behind are addresses that a memory of so many frames does not have, though they are multiples of sixteen.
func behind(frames int) []uint64 {
	top := uint64(frames) * pageBytes
	return []uint64{top, top + 8, top + granule, top + pageBytes, 64 * pageBytes, 1 << 32, 1 << 48, 1 << 63, math.MaxUint64 - 15}
}

// P8.1
func TestNew(t *testing.T) {
	for _, n := range []int{1, 2, 3, 17, 63, 64} {
		r, err := New(n)
		if r == nil || err != api.OK {
			t.Fatalf("New(%d): %v, %d", n, r, err)
		}
		holds(t, r, make([]Page, n), "New", n)
	}
	for _, n := range []int{0, -1, -2, -64, math.MinInt, 65, 66, 128, 1 << 40, math.MaxInt} {
		if r, err := New(n); r != nil || err != 2 {
			t.Errorf("New(%d): %v, %d", n, r, err)
		}
	}
}

// P8.1: each memory is one of its own.
func TestNewTwice(t *testing.T) {
	a, pages := made(t, 2)
	b, _ := New(2)
	holds(t, b, make([]Page, 2), "New and Write of another one")
	b.Store(0, 8, math.MaxUint64)
	b.Wipe(1)
	holds(t, a, pages, "Store and Wipe in another one")
}

// P8.1
func TestFrames(t *testing.T) {
	var none *Ram
	if n := none.Frames(); n != 0 {
		t.Errorf("of nil: %d", n)
	}
	if n := new(Ram).Frames(); n != 0 {
		t.Errorf("of a plain one: %d", n)
	}
	for n := 1; n <= 64; n++ {
		if r, _ := New(n); r.Frames() != n {
			t.Errorf("of %d: %d", n, r.Frames())
		}
	}
}

// P8.2: known values, the least significant byte first.
func TestLoadKnown(t *testing.T) {
	r, _ := New(2)
	var p Page
	copy(p.Bytes[16:], []byte{1, 2, 3, 4, 5, 6, 7, 8, 0xff, 0xfe, 0xfd, 0xfc, 0xfb, 0xfa, 0xf9, 0xf8})
	r.Write(1, p)
	for _, x := range []struct {
		at   uint64
		n    int
		want uint64
	}{
		{4112, 1, 1}, {4113, 1, 2}, {4119, 1, 8}, {4120, 1, 0xff},
		{4112, 2, 0x0201}, {4114, 2, 0x0403}, {4120, 2, 0xfeff},
		{4112, 4, 0x04030201}, {4116, 4, 0x08070605}, {4120, 4, 0xfcfdfeff},
		{4112, 8, 0x0807060504030201}, {4120, 8, 0xf8f9fafbfcfdfeff},
		{4111, 1, 0}, {4128, 8, 0}, {16, 8, 0}, {0, 1, 0}, {8191, 1, 0},
	} {
		if v, err := r.Load(x.at, x.n); v != x.want || err != api.OK {
			t.Errorf("Load(%d, %d): %x, %d, not %x", x.at, x.n, v, err, x.want)
		}
	}
}

// P8.2: known values; of a number of more than n bytes, the least significant ones are stored.
func TestStoreKnown(t *testing.T) {
	for _, x := range []struct {
		at   uint64
		n    int
		v    uint64
		want []byte
	}{
		{32, 1, 0x0807060504030201, []byte{1}},
		{33, 1, 0x100, []byte{0}},
		{34, 2, 0x0807060504030201, []byte{1, 2}},
		{36, 4, 0x0807060504030201, []byte{1, 2, 3, 4}},
		{40, 8, 0x0807060504030201, []byte{1, 2, 3, 4, 5, 6, 7, 8}},
		{40, 8, math.MaxUint64, []byte{255, 255, 255, 255, 255, 255, 255, 255}},
		{44, 4, 7, []byte{7, 0, 0, 0}},
	} {
		r, pages := made(t, 1)
		if err := r.Store(x.at, x.n, x.v); err != api.OK {
			t.Errorf("Store(%d, %d): %d", x.at, x.n, err)
		}
		copy(pages[0].Bytes[x.at:], x.want)
		pages[0].Tags[0] = math.MaxUint64 - 4
		holds(t, r, pages, "Store", x.at, x.n, x.v)
	}
}

// P8.2: at the ends of the memory, of its frames and of its granules, each size at each address that is a multiple of it.
func TestLoadStoreEdges(t *testing.T) {
	const frames = 3
	v := uint64(0xa1b2c3d4e5f60718)
	near := []uint64{0, 16, 4080, 4096, 8176, 8192, 12272}
	for _, first := range near {
		for at := first; at < first+granule; at++ {
			for _, n := range []int{1, 2, 4, 8} {
				r, pages := made(t, frames)
				load, loaded := r.Load(at, n)
				store := r.Store(at, n, v)
				if at%uint64(n) != 0 {
					if load != 0 || loaded != 2 || store != 2 {
						t.Errorf("%d, %d: %x, %d, %d", at, n, load, loaded, store)
					}
					holds(t, r, pages, "Store", at, n)
					continue
				}
				p, off := &pages[at/pageBytes], int(at%pageBytes)
				was, unit := uint64(0), uint64(1)
				for i := range n {
					was += unit * uint64(p.Bytes[off+i])
					p.Bytes[off+i] = byte(v / unit % 256)
					unit *= 256
				}
				p.Tags = p.Tags.With(off/granule, false)
				if load != was || loaded != 0 || store != 0 {
					t.Errorf("%d, %d: %x, %d, %d, not %x", at, n, load, loaded, store, was)
				}
				holds(t, r, pages, "Store", at, n)
				low := v
				if n < 8 {
					low = v % unit
				}
				if got, err := r.Load(at, n); got != low || err != 0 {
					t.Errorf("%d, %d: stored %x, loaded %x, %d", at, n, low, got, err)
				}
			}
		}
	}
}

// P8.2: other numbers of bytes, and addresses that are none.
func TestLoadStoreWrong(t *testing.T) {
	for _, frames := range []int{1, 2, 64} {
		r, pages := made(t, frames)
		refused := func(at uint64, n int) {
			t.Helper()
			if v, err := r.Load(at, n); v != 0 || err != 2 {
				t.Errorf("Load(%d, %d) of %d frames: %x, %d", at, n, frames, v, err)
			}
			if err := r.Store(at, n, 0x5a5a); err != 2 {
				t.Errorf("Store(%d, %d) of %d frames: %d", at, n, frames, err)
			}
		}
		for _, n := range []int{0, -1, -2, -4, -8, -16, math.MinInt, 3, 5, 6, 7, 9, 10, 12, 15, 16, 24, 32, 64, 4096, 1 << 32, math.MaxInt} {
			for _, at := range []uint64{0, 16, 48, 4080, 1 << 63, math.MaxUint64} {
				refused(at, n)
			}
		}
		for _, n := range []int{1, 2, 4, 8} {
			for _, at := range append(behind(frames), math.MaxUint64, math.MaxUint64-7, math.MaxUint64-1) {
				refused(at, n)
			}
		}
		for _, x := range []struct {
			at uint64
			n  int
		}{{1, 2}, {1, 4}, {2, 4}, {3, 4}, {4, 8}, {12, 8}, {4095, 2}, {4094, 4}, {4092, 8}, {4088, 16}} {
			refused(x.at, x.n)
		}
		holds(t, r, pages, "errors")
	}
}

// P8.3: known bytes, the address before the Meta.
func TestCapKnown(t *testing.T) {
	r, _ := New(1)
	c := capab.Cap{Tag: true, Meta: 0x1817161514131211, Addr: 0x0807060504030201}
	if err := r.StoreCap(4080, c); err != api.OK {
		t.Fatal(err)
	}
	var p Page
	copy(p.Bytes[4080:], []byte{1, 2, 3, 4, 5, 6, 7, 8, 0x11, 0x12, 0x13, 0x14, 0x15, 0x16, 0x17, 0x18})
	p.Tags = tags.Set{0, 0, 0, 1 << 63}
	holds(t, r, []Page{p}, "StoreCap")
	if got, err := r.LoadCap(4080); got != c || err != api.OK {
		t.Error(got, err)
	}
	if got, err := r.LoadCap(4064); got != (capab.Cap{}) || err != api.OK {
		t.Error(got, err)
	}
}

// P8.3, P8.5: what is stored is loaded, in the first granule and the last one, over one with a tag and one without.
func TestCaps(t *testing.T) {
	const frames = 2
	for _, at := range []uint64{0, 16, 1008, 1024, 4064, 4080, 4096, 4112, 8160, 8176} {
		for _, c := range capabilities(t) {
			for _, before := range []bool{false, true} {
				r, pages := made(t, frames)
				p, g := &pages[at/pageBytes], int(at%pageBytes)/granule
				if !before {
					r.Untag(int(at/pageBytes), g)
					p.Tags = p.Tags.With(g, false)
				}
				if got, err := r.LoadCap(at); got != capab.Of([16]byte(p.Bytes[16*g:16*g+16]), before) || err != 0 {
					t.Errorf("LoadCap(%d): %v, %d", at, got, err)
				}
				if err := r.StoreCap(at, c); err != 0 {
					t.Errorf("StoreCap(%d, %v): %d", at, c, err)
				}
				b := capab.Bytes(c)
				copy(p.Bytes[16*g:], b[:])
				p.Tags = p.Tags.With(g, c.Tag)
				holds(t, r, pages, "StoreCap", at, c)
				if got, err := r.LoadCap(at); got != c || err != 0 {
					t.Errorf("LoadCap(%d): %v, %d, not %v", at, got, err, c)
				}
				holds(t, r, pages, "LoadCap", at)
			}
		}
	}
}

// P8.3: addresses that are no multiples of sixteen, or none.
func TestCapsWrong(t *testing.T) {
	for _, frames := range []int{1, 2, 64} {
		r, pages := made(t, frames)
		wrong := append(behind(frames), math.MaxUint64, 1<<48+1, uint64(frames)*pageBytes-8, uint64(frames)*pageBytes-1)
		for _, first := range []uint64{0, 16, 4080} {
			for k := uint64(1); k < 16; k++ {
				wrong = append(wrong, first+k)
			}
		}
		for _, at := range wrong {
			if c, err := r.LoadCap(at); c != (capab.Cap{}) || err != 2 {
				t.Errorf("LoadCap(%d) of %d frames: %v, %d", at, frames, c, err)
			}
			for _, c := range capabilities(t) {
				if err := r.StoreCap(at, c); err != 2 {
					t.Errorf("StoreCap(%d, %v) of %d frames: %d", at, c, frames, err)
				}
			}
		}
		holds(t, r, pages, "errors")
	}
}

// P8.4: the frames at both ends and between; the others stay as they are.
func TestFramesOperations(t *testing.T) {
	for _, frames := range []int{1, 2, 3, 64} {
		for _, i := range []int{0, frames / 2, frames - 1} {
			r, pages := made(t, frames)
			if p, err := r.Read(i); p != pages[i] || err != 0 {
				t.Errorf("Read(%d) of %d: %d", i, frames, err)
			}
			if s, err := r.Tags(i); s != pages[i].Tags || err != 0 {
				t.Errorf("Tags(%d) of %d: %x, %d", i, frames, s, err)
			}
			pages[i] = full(frames + 100)
			pages[i].Tags = tags.Set{1, 2, 1 << 63, 1<<63 + 1}
			if err := r.Write(i, pages[i]); err != 0 {
				t.Errorf("Write(%d) of %d: %d", i, frames, err)
			}
			holds(t, r, pages, "Write", i)
			pages[i] = Page{}
			if err := r.Wipe(i); err != 0 {
				t.Errorf("Wipe(%d) of %d: %d", i, frames, err)
			}
			holds(t, r, pages, "Wipe", i)
			if err := r.Wipe(i); err != 0 {
				t.Errorf("Wipe(%d) again of %d: %d", i, frames, err)
			}
			holds(t, r, pages, "Wipe again", i)
		}
	}
}

// P8.4: frame i has the addresses from 4096 i on.
func TestFrameAddresses(t *testing.T) {
	r, _ := New(64)
	for i := range 64 {
		r.Store(uint64(i)*4096, 8, uint64(i)+1)
		r.StoreCap(uint64(i)*4096+4080, capab.Cap{Tag: true, Addr: uint64(i) + 100})
	}
	for i := range 64 {
		p, err := r.Read(i)
		if err != 0 || p.Bytes[0] != byte(i+1) || p.Bytes[4080] != byte(i+100) || p.Tags != (tags.Set{0, 0, 0, 1 << 63}) {
			t.Errorf("%d: %d, %d, %d, %x", i, err, p.Bytes[0], p.Bytes[4080], p.Tags)
		}
	}
}

// P8.4: a granule loses its tag, and nothing else changes.
func TestUntag(t *testing.T) {
	r, pages := made(t, 2)
	for _, g := range []int{0, 255, 1, 63, 64, 127, 128, 191, 192, 254, 0, 255} {
		if err := r.Untag(1, g); err != 0 {
			t.Errorf("Untag(1, %d): %d", g, err)
		}
		pages[1].Tags[g/64] &^= 1 << (g % 64)
		holds(t, r, pages, "Untag", g)
	}
	for g := range 256 {
		if err := r.Untag(0, g); err != 0 {
			t.Errorf("Untag(0, %d): %d", g, err)
		}
	}
	pages[0].Tags = tags.Set{}
	holds(t, r, pages, "Untag of all")
}

// P8.4: granules that do not exist, of frames that do and of others.
func TestUntagWrong(t *testing.T) {
	for _, frames := range []int{1, 2, 64} {
		r, pages := made(t, frames)
		for _, g := range []int{-1, -2, -255, -256, math.MinInt, 256, 257, 512, 4096, math.MaxInt} {
			for _, i := range []int{0, frames - 1, frames, -1} {
				if err := r.Untag(i, g); err != 2 {
					t.Errorf("Untag(%d, %d) of %d: %d", i, g, frames, err)
				}
			}
		}
		holds(t, r, pages, "errors of Untag")
	}
}

// P8.4: frames that do not exist.
func TestFramesWrong(t *testing.T) {
	for _, frames := range []int{1, 2, 64} {
		r, pages := made(t, frames)
		for _, i := range wrongFrames(frames) {
			if i >= 0 && i < frames {
				continue
			}
			if p, err := r.Read(i); p != (Page{}) || err != 2 {
				t.Errorf("Read(%d) of %d: %d", i, frames, err)
			}
			if s, err := r.Tags(i); s != (tags.Set{}) || err != 2 {
				t.Errorf("Tags(%d) of %d: %x, %d", i, frames, s, err)
			}
			if err := r.Write(i, full(7)); err != 2 {
				t.Errorf("Write(%d) of %d: %d", i, frames, err)
			}
			if err := r.Wipe(i); err != 2 {
				t.Errorf("Wipe(%d) of %d: %d", i, frames, err)
			}
			for _, g := range []int{0, 255, 256, -1} {
				if err := r.Untag(i, g); err != 2 {
					t.Errorf("Untag(%d, %d) of %d: %d", i, g, frames, err)
				}
			}
		}
		holds(t, r, pages, "errors")
	}
}

// P8.4: a page that was read does not change when the memory does, nor the memory when a page that was written does.
func TestPagesAreCopies(t *testing.T) {
	r, pages := made(t, 2)
	read, _ := r.Read(0)
	set, _ := r.Tags(0)
	r.Store(0, 8, 0)
	r.StoreCap(16, capab.Cap{})
	r.Wipe(0)
	if read != pages[0] || set != pages[0].Tags {
		t.Error("what was read has changed")
	}
	own := full(9)
	r.Write(0, own)
	own.Bytes[5]++
	own.Tags[2] = 0
	read, _ = r.Read(0)
	read.Bytes[6]++
	read.Tags[1] = 0
	pages[0] = full(9)
	holds(t, r, pages, "changes of pages that were read and written")
}

// P8.1 to P8.4: every method of nil and of a plain Ram{}, of right arguments and of wrong ones.
func TestNil(t *testing.T) {
	for name, r := range map[string]*Ram{"nil": nil, "plain": {}} {
		if n := r.Frames(); n != 0 {
			t.Errorf("%s: Frames %d", name, n)
		}
		for _, at := range []uint64{0, 16, 1, 4096, math.MaxUint64} {
			for _, n := range []int{1, 2, 4, 8, 0, -1, 3, 16} {
				if v, err := r.Load(at, n); v != 0 || err != 1 {
					t.Errorf("%s: Load(%d, %d) %d, %d", name, at, n, v, err)
				}
				if err := r.Store(at, n, 1); err != 1 {
					t.Errorf("%s: Store(%d, %d) %d", name, at, n, err)
				}
			}
			if c, err := r.LoadCap(at); c != (capab.Cap{}) || err != 1 {
				t.Errorf("%s: LoadCap(%d) %v, %d", name, at, c, err)
			}
			if err := r.StoreCap(at, tagged(t)); err != 1 {
				t.Errorf("%s: StoreCap(%d) %d", name, at, err)
			}
		}
		for _, i := range []int{0, 1, 63, 64, -1, math.MinInt, math.MaxInt} {
			if p, err := r.Read(i); p != (Page{}) || err != 1 {
				t.Errorf("%s: Read(%d) %d", name, i, err)
			}
			if s, err := r.Tags(i); s != (tags.Set{}) || err != 1 {
				t.Errorf("%s: Tags(%d) %x, %d", name, i, s, err)
			}
			if err := r.Write(i, full(1)); err != 1 {
				t.Errorf("%s: Write(%d) %d", name, i, err)
			}
			if err := r.Wipe(i); err != 1 {
				t.Errorf("%s: Wipe(%d) %d", name, i, err)
			}
			for _, g := range []int{0, 255, 256, -1} {
				if err := r.Untag(i, g); err != 1 {
					t.Errorf("%s: Untag(%d, %d) %d", name, i, g, err)
				}
			}
		}
		if n := r.Frames(); n != 0 {
			t.Errorf("%s: Frames %d in the end", name, n)
		}
	}
}

// P8.5: a byte stored in the granule takes the tag away, wherever it lies in it and whether it changes or not; one beside it does not.
func TestTagIsLost(t *testing.T) {
	c := tagged(t)
	b := capab.Bytes(c)
	for _, n := range []int{1, 2, 4, 8} {
		for at := uint64(4080 - 16); at < 4096+32; at += uint64(n) {
			r, _ := New(2)
			r.StoreCap(4080, c)
			if got, _ := r.LoadCap(4080); got != c {
				t.Fatal(got)
			}
			in := at >= 4080 && at < 4096
			same := uint64(0)
			if in {
				same, _ = r.Load(at, n)
			}
			r.Store(at, n, same)
			got, err := r.LoadCap(4080)
			if got != capab.Of(b, !in) || err != 0 {
				t.Errorf("Store(%d, %d): %v, %d", at, n, got, err)
			}
			if r.StoreCap(4080, c); in {
				if got, _ := r.LoadCap(4080); got != c {
					t.Errorf("StoreCap after Store(%d, %d): %v", at, n, got)
				}
			}
			for _, wrong := range []struct {
				at uint64
				n  int
			}{{4081, 2}, {4082, 4}, {4084, 8}, {4080, 3}, {4080, 0}, {4080, -1}, {4080, 16}} {
				r.Store(wrong.at, wrong.n, 0)
			}
			if got, _ := r.LoadCap(4080); got != c {
				t.Errorf("after stores that failed: %v", got)
			}
		}
	}
}

// memory is a model: each byte, and whether each granule has a tag, by address.
type memory struct {
	bytes []byte
	tag   []bool
}

func (m *memory) pages() []Page {
	l := make([]Page, len(m.bytes)/pageBytes)
	for i := range l {
		copy(l[i].Bytes[:], m.bytes[i*pageBytes:])
		for g := range 256 {
			if m.tag[i*256+g] {
				l[i].Tags[g/64] |= 1 << (g % 64)
			}
		}
	}
	return l
}

func (m *memory) setByte(at uint64, b byte) {
	m.bytes[at] = b
	m.tag[at/granule] = false
}

// P8.2 to P8.5: many operations in a row, each compared with a model of bytes.
func TestModel(t *testing.T) {
	const frames, top = 2, 2 * pageBytes
	r, _ := New(frames)
	m := &memory{bytes: make([]byte, top), tag: make([]bool, top/granule)}
	seed := uint64(12345)
	next := func(below uint64) uint64 {
		seed = seed*6364136223846793005 + 1442695040888963407
		return (seed >> 33) % below
	}
	spots := []uint64{0, 4064, 8160, 2048}
	done := map[api.Errno]int{}
	live, dead := 0, 0
	for step := range 6000 {
		at := spots[next(4)] + next(48)
		v := next(1<<31)<<33 + next(1<<31)<<7 + next(256)
		right := at < top
		var err api.Errno
		switch next(8) {
		case 0, 1:
			n := uint64(1) << next(4)
			right = right && at%n == 0
			err = r.Store(at, int(n), v)
			for i := uint64(0); right && i < n; i++ {
				m.setByte(at+i, byte(v))
				v /= 256
			}
		case 2, 3, 4:
			c := capab.Cap{Tag: next(3) > 0, Meta: v, Addr: v * 5}
			at -= at % (1 << next(6))
			right = at < top && at%granule == 0
			err = r.StoreCap(at, c)
			if right {
				for i := range uint64(8) {
					m.setByte(at+i, byte(c.Addr))
					m.setByte(at+8+i, byte(c.Meta))
					c.Addr /= 256
					c.Meta /= 256
				}
				m.tag[at/granule] = c.Tag
			}
		case 5:
			right = at/pageBytes < frames
			err = r.Untag(int(at/pageBytes), int(at%pageBytes/granule))
			if right {
				m.tag[at/granule] = false
			}
		case 6:
			at -= at % granule
			if right = at < top; right {
				c, e := r.LoadCap(at)
				if c != capab.Of([16]byte(m.bytes[at:at+16]), m.tag[at/granule]) || e != 0 {
					t.Fatalf("step %d: LoadCap(%d): %v, %d", step, at, c, e)
				}
				if c.Tag {
					live++
				} else {
					dead++
				}
				continue
			}
			_, err = r.LoadCap(at)
		case 7:
			frame := int(next(40))
			right = frame < frames
			err = r.Wipe(frame)
			for i := 0; right && i < pageBytes; i++ {
				m.setByte(uint64(frame*pageBytes+i), 0)
			}
		}
		if right != (err == api.OK) || !right && err != api.ErrArg {
			t.Fatalf("step %d at %d: %d", step, at, err)
		}
		done[err]++
		if holds(t, r, m.pages(), "step", step); t.Failed() {
			return
		}
	}
	if done[0] < 1000 || done[2] < 100 || live < 50 || dead < 50 {
		t.Error(done, live, dead)
	}
}

// The chapter's example.
func TestExample(t *testing.T) {
	r, _ := New(1)
	c := tagged(t)
	if err := r.StoreCap(64, c); err != api.OK {
		t.Fatal(err)
	}
	if got, _ := r.LoadCap(64); got != c {
		t.Error(got)
	}
	if err := r.Store(70, 1, 7); err != api.OK {
		t.Fatal(err)
	}
	if got, err := r.LoadCap(64); got.Tag || err != api.OK {
		t.Error(got, err)
	}
}
