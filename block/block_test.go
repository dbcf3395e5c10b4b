package block

import (
	"bytes"
	"errors"
	"fmt"
	"math"
	"slices"
	"testing"

	"mintmark/api"
)

// counts are as many blocks as a device can have: one, some, and all.
func counts() []int { return []int{1, 2, 3, 8, 31, 32, 33, 63, 64} }

// nowhere are numbers of blocks that a device of n does not have.
func nowhere(n int) []int {
	return []int{
		-1, -2, -n, -64, -65, -1 << 32, 1 - 1<<32, math.MinInt + 1, math.MinInt,
		n, n + 1, 64, 65, 64 + n, 128, 256, 1000000, 1 << 31, 1 << 32, 1<<32 + 1, math.MaxInt - 1, math.MaxInt,
	}
}

// lengths are those that a block does not have.
func lengths() []int {
	return []int{0, 1, 2, 16, 255, 256, 4080, 4094, 4095, 4097, 4098, 4112, 8191, 8192, 8193, 65536, 1 << 22}
}

// made is a new device of n blocks.
func made(t *testing.T, n int) *Device {
	t.Helper()
	d, err := New(n)
	if d == nil || err != api.OK {
		t.Fatalf("New(%d) = %v, %v", n, d, err)
	}
	return d
}

// content is a block's bytes; those of two seeds differ, and so do those near one another. Seed 0 is all zeros.
func content(seed int) []byte {
	b := make([]byte, 4096)
	if seed == 0 {
		return b
	}
	for i := range b {
		b[i] = byte(i*31 + i>>8*7 + seed)
	}
	b[0], b[1], b[4095] = byte(seed), byte(seed>>8), byte(seed*3)
	return b
}

// filled is a device of n blocks, of which block i has the content i + 1, and what its blocks have.
func filled(t *testing.T, n int) (*Device, [][]byte) {
	t.Helper()
	d := made(t, n)
	var all [][]byte
	for i := range n {
		all = append(all, content(i+1))
		writes(t, d, i, all[i])
	}
	return d, all
}

// blank is what n new blocks have.
func blank(n int) [][]byte {
	var all [][]byte
	for range n {
		all = append(all, make([]byte, 4096))
	}
	return all
}

// writes reports an error if Write of a block returns one.
func writes(t *testing.T, d *Device, n int, b []byte) {
	t.Helper()
	refuses(t, d, n, b, api.OK)
}

// refuses reports an error if Write of a block does not return this one.
func refuses(t *testing.T, d *Device, n int, b []byte, want api.Errno) {
	t.Helper()
	if err := d.Write(n, b); err != want {
		t.Errorf("Write(%d, %d bytes) = %v, not %v", n, len(b), err, want)
	}
}

// reads reports an error if Read of a block does not return these bytes.
func reads(t *testing.T, d *Device, n int, want []byte) {
	t.Helper()
	if got, err := d.Read(n); err != api.OK || !bytes.Equal(got, want) {
		t.Errorf("Read(%d) = %d bytes, %v: not those that the block has", n, len(got), err)
	}
}

// fails reports an error if Read of a block does not return this error, and nothing beside it.
func fails(t *testing.T, d *Device, n int, want api.Errno) {
	t.Helper()
	if got, err := d.Read(n); err != want || len(got) != 0 {
		t.Errorf("Read(%d) = %d bytes, %v, not %v", n, len(got), err, want)
	}
}

// holds reports an error if a device does not have exactly these blocks.
func holds(t *testing.T, d *Device, all [][]byte) {
	t.Helper()
	if got := d.Blocks(); got != len(all) {
		t.Errorf("Blocks() = %d, not %d", got, len(all))
	}
	for i, b := range all {
		reads(t, d, i, b)
	}
}

// The numbers of the errors that the chapter names, and its constants.
func TestConstants(t *testing.T) {
	if api.OK != 0 || api.ErrNil != 1 || api.ErrArg != 2 || api.ErrDevice != 17 {
		t.Errorf("errors %d, %d, %d, %d", api.OK, api.ErrNil, api.ErrArg, api.ErrDevice)
	}
	if Size != 4096 || api.MaxSlots != 64 {
		t.Errorf("Size %d, MaxSlots %d", Size, api.MaxSlots)
	}
}

// P19.1: a new device has so many blocks, of zeros, and no other one.
func TestNew(t *testing.T) {
	for n := 1; n <= 64; n++ {
		d := made(t, n)
		holds(t, d, blank(n))
		for _, i := range nowhere(n) {
			fails(t, d, i, api.ErrArg)
		}
	}
}

// P19.1
func TestNewWrong(t *testing.T) {
	for _, n := range []int{
		0, -1, -2, -63, -64, -1 << 32, 1 - 1<<32, math.MinInt + 1, math.MinInt,
		65, 66, 127, 128, 256, 4096, 1 << 31, 1 << 32, 1<<32 + 1, 1<<32 + 64, math.MaxInt - 1, math.MaxInt,
	} {
		if d, err := New(n); d != nil || err != api.ErrArg {
			t.Errorf("New(%d) = %v, %v", n, d, err)
		}
	}
}

// P19.1: what is done with one device is not done with another one, of as many blocks or not; nor is one's failing the other's.
func TestNewShares(t *testing.T) {
	for _, n := range counts() {
		other, more := made(t, n), made(t, 64)
		d, all := filled(t, n)
		holds(t, other, blank(n))
		holds(t, more, blank(64))
		d.Fail(1)
		holds(t, other, blank(n))
		writes(t, other, n-1, content(77))
		holds(t, made(t, n), blank(n)) // nor with one that is made afterward
		fails(t, d, 0, api.ErrDevice)
		holds(t, d, all)
	}
}

// P19.2: each block of each device is written alone, and all others are as they were.
func TestWriteEach(t *testing.T) {
	for n := 1; n <= 64; n++ {
		d, all := made(t, n), blank(n)
		for i := range n {
			all[i] = content(n*64 + i)
			writes(t, d, i, all[i])
			reads(t, d, i, all[i])
			reads(t, d, (i+1)%n, all[(i+1)%n])
		}
		holds(t, d, all)
	}
}

// P19.2: what was written last is read; other blocks, written or not, are as they were.
func TestWriteAgain(t *testing.T) {
	d, all := made(t, 4), blank(4)
	for step, i := range []int{2, 2, 0, 2, 3, 0, 3, 3, 2, 0, 0} {
		all[i] = content(100 + step)
		writes(t, d, i, all[i])
		holds(t, d, all)
		holds(t, d, all) // reading changes nothing
	}
	for _, i := range []int{2, 0, 3, 1} {
		all[i] = make([]byte, 4096)
		writes(t, d, i, all[i])
		holds(t, d, all)
	}
}

// P19.2: each byte of a block is written, and read, by itself.
func TestWriteBytes(t *testing.T) {
	d := made(t, 2)
	for i := range 4096 {
		b := make([]byte, 4096)
		b[i] = byte(i%255 + 1)
		writes(t, d, 1, b)
		reads(t, d, 1, b)
	}
	reads(t, d, 0, make([]byte, 4096))
	writes(t, d, 0, bytes.Repeat([]byte{255}, 4096))
	reads(t, d, 0, bytes.Repeat([]byte{255}, 4096))
}

// P19.2: a block that the device does not have; nothing changes.
func TestNoBlock(t *testing.T) {
	for _, n := range counts() {
		d, all := filled(t, n)
		for _, i := range nowhere(n) {
			refuses(t, d, i, content(99), api.ErrArg)
			fails(t, d, i, api.ErrArg)
			refuses(t, d, i, nil, api.ErrArg)
		}
		holds(t, d, all)
	}
}

// P19.2: each number near those of a device's blocks.
func TestBlockBorder(t *testing.T) {
	for n := 1; n <= 64; n++ {
		d := made(t, n)
		for i := -3; i <= 70; i++ {
			if 0 <= i && i < n {
				writes(t, d, i, content(i))
				reads(t, d, i, content(i))
			} else {
				refuses(t, d, i, content(i+3), api.ErrArg)
				fails(t, d, i, api.ErrArg)
			}
		}
	}
}

// P19.2: bytes that are not as many as a block has; nothing changes.
func TestWriteLength(t *testing.T) {
	d, all := filled(t, 3)
	blanks := made(t, 3)
	for _, n := range lengths() {
		b := bytes.Repeat([]byte{7}, n)
		for i := range 3 {
			refuses(t, d, i, b, api.ErrArg)
			refuses(t, blanks, i, b, api.ErrArg)
		}
	}
	refuses(t, d, 1, nil, api.ErrArg)
	refuses(t, d, 1, []byte{}, api.ErrArg)
	refuses(t, d, 1, make([]byte, 0, 4096), api.ErrArg)
	refuses(t, d, 1, make([]byte, 4095, 4096), api.ErrArg)
	refuses(t, d, 1, make([]byte, 4095, 8192), api.ErrArg)
	holds(t, d, all)
	holds(t, blanks, blank(3))
}

// P19.2: what Read returns is new memory, its spare capacity too.
func TestReadIsNew(t *testing.T) {
	for _, write := range []bool{false, true} {
		d, want := made(t, 2), make([]byte, 4096)
		if write {
			want = content(5)
			writes(t, d, 1, want)
		}
		first, err := d.Read(1)
		second, again := d.Read(1)
		if err != api.OK || again != api.OK {
			t.Fatal(err, again)
		}
		first = first[:cap(first)]
		for i := range first {
			first[i] ^= 255
		}
		if !bytes.Equal(second, want) {
			t.Error("after a change of the first copy, the second is another one")
		}
		reads(t, d, 1, want)
		writes(t, d, 1, content(6))
		if !bytes.Equal(second, want) {
			t.Error("after Write, the copy from before is another one")
		}
		reads(t, d, 0, make([]byte, 4096))
	}
}

// P19.2: what Write is given is neither kept nor changed, nor is the memory around it.
func TestWriteKeepsNothing(t *testing.T) {
	whole := bytes.Repeat([]byte{9}, 3*4096)
	b := whole[4096:8192]
	copy(b, content(3))
	before := slices.Clone(whole)
	d := made(t, 2)
	writes(t, d, 0, b)
	writes(t, d, 1, b)
	if !bytes.Equal(whole, before) {
		t.Error("Write changed what it was given")
	}
	for i := range whole {
		whole[i] = 1
	}
	reads(t, d, 0, content(3))
	reads(t, d, 1, content(3))
	got, _ := d.Read(1)
	got[0] = 200
	if whole[4096] != 1 {
		t.Error("Read returns what Write was given")
	}
}

// call is one call of Write or Read, which is right.
func call(d *Device, write bool) api.Errno {
	if write {
		return d.Write(0, content(1))
	}
	_, err := d.Read(0)
	return err
}

// P19.2: so many calls fail as Fail was told, in whatever order Write and Read are called; the one behind them does not.
func TestFail(t *testing.T) {
	for order := range 1 << 8 {
		for n := range 8 {
			d := made(t, 1)
			d.Fail(n)
			for i := range 8 {
				want := api.OK
				if i < n {
					want = api.ErrDevice
				}
				if got := call(d, order>>i&1 != 0); got != want {
					t.Errorf("after Fail(%d), call %d of %b is %v, not %v", n, i, order, got, want)
				}
			}
		}
	}
}

// P19.2: a call that fails does nothing, and Read returns nothing beside the error.
func TestFailDoesNothing(t *testing.T) {
	d, all := filled(t, 3)
	for n := range 6 {
		d.Fail(n)
		for i := range n {
			if i%2 == 0 {
				refuses(t, d, i%3, content(50+i), api.ErrDevice)
			} else {
				fails(t, d, i%3, api.ErrDevice)
			}
		}
		holds(t, d, all)
	}
	blanks := made(t, 1)
	blanks.Fail(2)
	refuses(t, blanks, 0, content(5), api.ErrDevice)
	fails(t, blanks, 0, api.ErrDevice)
	holds(t, blanks, blank(1))
}

// P19.2: none fails if the number is below 1.
func TestFailNone(t *testing.T) {
	for _, n := range []int{0, -1, -2, -64, -1 << 32, 1 - 1<<32, math.MinInt + 1, math.MinInt} {
		d, all := filled(t, 2)
		d.Fail(n)
		holds(t, d, all)
		writes(t, d, 0, content(9))
		reads(t, d, 0, content(9))
	}
}

// P19.2: of very many, all calls fail, until a later Fail.
func TestFailMany(t *testing.T) {
	for _, n := range []int{1000, 1 << 31, 1 << 32, 1<<32 + 1, math.MaxInt - 1, math.MaxInt} {
		d, all := filled(t, 2)
		d.Fail(n)
		for range 500 {
			refuses(t, d, 1, content(9), api.ErrDevice)
			fails(t, d, 0, api.ErrDevice)
		}
		d.Fail(0)
		holds(t, d, all)
	}
}

// P19.2: a call with an error of its arguments returns that one, and is not one of those that fail.
func TestFailOrder(t *testing.T) {
	d, all := filled(t, 2)
	d.Fail(2)
	wrong := func() {
		for _, i := range nowhere(2) {
			refuses(t, d, i, content(9), api.ErrArg)
			fails(t, d, i, api.ErrArg)
		}
		for _, n := range lengths() {
			refuses(t, d, 0, make([]byte, n), api.ErrArg)
		}
		refuses(t, d, 0, nil, api.ErrArg)
		var none *Device
		fails(t, none, 0, api.ErrNil)
	}
	wrong()
	fails(t, d, 0, api.ErrDevice)
	wrong()
	refuses(t, d, 1, content(9), api.ErrDevice)
	wrong()
	holds(t, d, all)
}

// P19.2: Blocks does not fail, and is not one of the calls that do.
func TestFailBlocks(t *testing.T) {
	d, all := filled(t, 3)
	d.Fail(2)
	for range 5 {
		if got := d.Blocks(); got != 3 {
			t.Errorf("Blocks() = %d", got)
		}
	}
	fails(t, d, 0, api.ErrDevice)
	d.Blocks()
	refuses(t, d, 0, content(9), api.ErrDevice)
	holds(t, d, all)
}

// P19.2: a later Fail replaces an earlier one, after each number of calls between them.
func TestFailAgain(t *testing.T) {
	ns := []int{math.MinInt, -1, 0, 1, 2, 3, 7}
	for _, first := range append(ns, math.MaxInt) {
		for _, second := range ns {
			for between := range 4 {
				d := made(t, 1)
				d.Fail(first)
				for i := range between {
					want := api.OK
					if i < first {
						want = api.ErrDevice
					}
					if got := call(d, i%2 == 0); got != want {
						t.Errorf("after Fail(%d), call %d is %v", first, i, got)
					}
				}
				d.Fail(second)
				for i := range max(second, 0) {
					if got := call(d, i%2 != 0); got != api.ErrDevice {
						t.Errorf("after Fail(%d), %d calls and Fail(%d), call %d is %v", first, between, second, i, got)
					}
				}
				for i := range 10 {
					if got := call(d, i%2 != 0); got != api.OK {
						t.Errorf("after Fail(%d), %d calls, Fail(%d) and so many calls, call %d is %v", first, between, second, i, got)
					}
				}
			}
		}
	}
}

// P19.1, P19.2: a nil device, and one that no function made: ErrNil, before any error of the arguments, and zero values; nothing is done.
func TestNone(t *testing.T) {
	var plain Device
	for _, d := range []*Device{nil, &plain, {}, new(Device)} {
		for _, n := range []int{0, 3, -1, math.MaxInt} {
			d.Fail(n)
			if got := d.Blocks(); got != 0 {
				t.Errorf("Blocks() = %d", got)
			}
			for _, i := range append(nowhere(1), 0, 1, 63) {
				fails(t, d, i, api.ErrNil)
				refuses(t, d, i, content(1), api.ErrNil)
				refuses(t, d, i, content(1)[:4095], api.ErrNil)
				refuses(t, d, i, nil, api.ErrNil)
			}
		}
	}
	if plain.n != 0 || plain.written != nil || plain.failing != 0 {
		t.Errorf("a plain device is %v", plain)
	}
}

// wrapper is an error that wraps another one, by a type of its own.
type wrapper struct{ inner error }

func (w wrapper) Error() string { return "wrapped" }
func (w wrapper) Unwrap() error { return w.inner }

// several is an error that wraps some others.
type several []error

func (s several) Error() string   { return "several" }
func (s several) Unwrap() []error { return s }

// says is an error that tells itself which others it is.
type says struct{ other error }

func (s says) Error() string        { return "says" }
func (s says) Is(target error) bool { return target == s.other }

// wild is an error whose methods panic.
type wild struct{ what any }

func (w wild) Error() string { panic(w.what) }
func (w wild) Unwrap() error { panic(w.what) }

// wilder is an error whose Is panics.
type wilder struct{ wild }

func (w wilder) Is(error) bool { panic(w.what) }

// faint is an error whose nil pointer can't be unwrapped.
type faint struct{ inner error }

func (f *faint) Error() string { return "faint" }
func (f *faint) Unwrap() error { return f.inner }

// P19.3
func TestFailed(t *testing.T) {
	device := error(api.ErrDevice)
	for i, e := range []error{
		device, api.Errno(17), wrapper{device}, wrapper{wrapper{device}}, wrapper{wrapper{wrapper{wrapper{device}}}},
		fmt.Errorf("read: %w", device), fmt.Errorf("swap: %w", fmt.Errorf("read: %w", device)),
		errors.Join(device), errors.Join(api.ErrArg, device), errors.Join(device, api.ErrArg), errors.Join(errors.New("x"), wrapper{device}), errors.Join(nil, device, nil),
		fmt.Errorf("%w and %w", api.ErrRoom, device), wrapper{errors.Join(api.ErrNone, fmt.Errorf("%w", device))},
		several{api.ErrArg, nil, wrapper{device}}, several{device, device}, several{several{}, several{device}},
		says{device}, wrapper{says{device}}, &faint{device},
	} {
		if !Failed(e) {
			t.Errorf("Failed of error %d is false", i)
		}
	}
}

// P19.3: other errors, those that wrap them, and none at all.
func TestFailedNot(t *testing.T) {
	for n := -40; n <= 600; n++ {
		e := api.Errno(n)
		if n == 17 {
			continue
		}
		if Failed(e) || Failed(wrapper{e}) || Failed(fmt.Errorf("%w", e)) || Failed(errors.Join(e, api.ErrNil)) {
			t.Errorf("Failed of number %d", n)
		}
	}
	seventeen := api.ErrDevice
	for i, e := range []error{
		nil, api.Errno(17 + 1<<32), api.Errno(17 - 1<<32), api.Errno(math.MaxInt), api.Errno(math.MinInt),
		errors.New(""), errors.New(api.ErrDevice.Error()), errors.New("mintmark: error 17"), fmt.Errorf("read: %v", api.ErrDevice), errors.ErrUnsupported,
		wrapper{}, wrapper{wrapper{}}, several{}, several(nil), several{nil}, says{}, says{api.ErrArg}, errors.Join(errors.New("x"), api.ErrNone), &faint{}, &seventeen, (*api.Errno)(nil),
	} {
		if Failed(e) {
			t.Errorf("Failed of error %d", i)
		}
	}
}

// P19.3: an error whose methods panic is no device's, and nothing is thrown.
func TestFailedPanics(t *testing.T) {
	for i, e := range []error{
		wild{"x"}, wild{}, wild{api.ErrDevice}, wilder{wild{"x"}}, wilder{wild{api.ErrDevice}}, wrapper{wild{"x"}}, wrapper{wilder{wild{1}}}, several{api.ErrArg, wild{"x"}}, (*faint)(nil), wrapper{(*faint)(nil)}, (*wrapper)(nil), (*wild)(nil),
	} {
		if Failed(e) {
			t.Errorf("Failed of error %d, whose methods panic", i)
		}
	}
	if !Failed(several{api.ErrDevice, wild{"x"}}) {
		t.Error("Failed asks what it need not")
	}
}

// P19.2, P19.3: what Write and Read return is the device's error only when it failed.
func TestFailedOfCalls(t *testing.T) {
	d := made(t, 1)
	d.Fail(2)
	_, first := d.Read(0)
	second := d.Write(0, content(1))
	third := d.Write(0, content(1))
	_, fourth := d.Read(1)
	if !Failed(first) || !Failed(second) || Failed(third) || Failed(fourth) {
		t.Errorf("errors %v, %v, %v, %v", first, second, third, fourth)
	}
}

// model is what the chapter says of a device: its blocks, and how many calls are to fail.
type model struct {
	all     [][]byte
	failing int
}

// begin returns the error of a call.
func (m *model) begin(n int, right bool) api.Errno {
	if n < 0 || n >= len(m.all) || !right {
		return api.ErrArg
	}
	if m.failing >= 1 {
		m.failing--
		return api.ErrDevice
	}
	return api.OK
}

// P19.1, P19.2: many calls, by a rule, of devices of some sizes.
func TestRun(t *testing.T) {
	met := map[api.Errno]int{}
	x := uint32(1)
	next := func(below int) int {
		x = x*1664525 + 1013904223
		return int(x>>8) % below
	}
	for _, n := range counts() {
		d, m := made(t, n), &model{all: blank(n)}
		for step := range 1500 {
			i := next(n+2) - 1
			switch next(5) {
			case 0, 1:
				b := content(step)
				right := next(8) != 0
				if !right {
					b = b[:next(4096)]
				}
				want := m.begin(i, right)
				if want == api.OK {
					m.all[i] = b
				}
				refuses(t, d, i, b, want)
				met[want]++
			case 2, 3:
				if want := m.begin(i, true); want != api.OK {
					fails(t, d, i, want)
					met[want]++
				} else {
					reads(t, d, i, m.all[i])
				}
			case 4:
				m.failing = next(7) - 2
				d.Fail(m.failing)
			}
			if got := d.Blocks(); got != n {
				t.Errorf("Blocks() = %d, not %d", got, n)
			}
			if t.Failed() {
				return
			}
		}
		d.Fail(0)
		holds(t, d, m.all)
	}
	for _, err := range []api.Errno{api.OK, api.ErrArg, api.ErrDevice} {
		if met[err] < 500 {
			t.Errorf("error %d was met only %d times", err, met[err])
		}
	}
}

// The chapter's example.
func TestExample(t *testing.T) {
	for _, n := range []int{1, 3, 64} {
		d := made(t, n)
		d.Fail(1)
		fails(t, d, 0, api.ErrDevice)
		reads(t, d, 0, make([]byte, 4096))
	}
}
