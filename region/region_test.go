package region

import (
	"math"
	"slices"
	"testing"

	"mintmark/api"
	"mintmark/bounds"
)

const (
	page = uint64(4096)
	full = uint64(1) << 38 // the greatest Top of a room
)

// span is from base on to below top.
func span(base, top uint64) api.Span { return api.Span{Base: base, Top: top} }

// pages is the span of the pages from one number on to below another one.
func pages(from, to uint64) api.Span { return span(from*page, to*page) }

// live and held are reservations of the pages from one number on to below another one.
func live(from, to uint64) Region { return Region{Span: pages(from, to), Kind: Live} }
func held(from, to uint64) Region { return Region{Span: pages(from, to), Kind: Held} }

// made is a new map of a room.
func made(t *testing.T, room api.Span) Map {
	t.Helper()
	m, err := New(room)
	if err != api.OK {
		t.Fatalf("New(%v): %v", room, err)
	}
	return m
}

// with is the map with these reservations, added in this order.
func with(t *testing.T, m Map, regions ...Region) Map {
	t.Helper()
	for _, r := range regions {
		var err api.Errno
		if m, err = m.Add(r.Span); err != api.OK {
			t.Fatalf("Add(%v): %v", r.Span, err)
		}
		if r.Kind != Held {
			continue
		}
		if m, err = m.Hold(r.Span); err != api.OK {
			t.Fatalf("Hold(%v): %v", r.Span, err)
		}
	}
	return m
}

// finds reports an error if Find does not return this span.
func finds(t *testing.T, m Map, n uint64, want api.Span) {
	t.Helper()
	if got, err := m.Find(n); got != want || err != api.OK {
		t.Errorf("room %v, reservations %v: Find(%d) = %v, %v, not %v", m.Room(), m.All(), n, got, err, want)
	}
}

// lacks reports an error if Find does not return this error, and a zero span.
func lacks(t *testing.T, m Map, n uint64, want api.Errno) {
	t.Helper()
	if got, err := m.Find(n); got != (api.Span{}) || err != want {
		t.Errorf("room %v, reservations %v: Find(%d) = %v, %v, not a zero span, %v", m.Room(), m.All(), n, got, err, want)
	}
}

// has reports an error if the map does not have exactly this room and these reservations, which are in ascending order.
func has(t *testing.T, m Map, room api.Span, want ...Region) {
	t.Helper()
	if got := m.Room(); got != room {
		t.Errorf("Room() = %v, not %v", got, room)
	}
	if got := m.All(); !slices.Equal(got, want) {
		t.Errorf("All() = %v, not %v", got, want)
	}
	gaps, free := between(room, want)
	if got := m.Gaps(); !slices.Equal(got, gaps) {
		t.Errorf("reservations %v: Gaps() = %v, not %v", want, got, gaps)
	}
	if got := m.Free(); got != free {
		t.Errorf("reservations %v: Free() = %d, not %d", want, got, free)
	}
	for _, addr := range edges(room, want) {
		r, found := containing(want, addr)
		if got, ok := m.At(addr); got != r || ok != found {
			t.Errorf("reservations %v: At(%d) = %v, %v, not %v, %v", want, addr, got, ok, r, found)
		}
	}
}

// between is the spans of the room that reservations in ascending order leave, and the sum of their lengths.
func between(room api.Span, regions []Region) ([]api.Span, uint64) {
	var gaps []api.Span
	free, last := uint64(0), room.Base
	for i := 0; i <= len(regions); i++ {
		next := room.Top
		if i < len(regions) {
			next = regions[i].Span.Base
		}
		if last != next {
			gaps = append(gaps, span(last, next))
			free += next - last
		}
		if i < len(regions) {
			last = regions[i].Span.Top
		}
	}
	return gaps, free
}

// containing is the reservation that contains an address, and whether there is one.
func containing(regions []Region, addr uint64) (Region, bool) {
	for _, r := range regions {
		if addr >= r.Span.Base && addr < r.Span.Top {
			return r, true
		}
	}
	return Region{}, false
}

// edges are addresses at the ends of the room and of reservations, next to these, and far away.
func edges(room api.Span, regions []Region) []uint64 {
	all := []uint64{0, 1, page - 1, page, full - 1, full, full + 1, 1 << 48, 1 << 63, math.MaxInt64, math.MaxUint64 - 1, math.MaxUint64}
	ends := []uint64{room.Base, room.Top}
	for _, r := range regions {
		ends = append(ends, r.Span.Base, r.Span.Top, r.Span.Base+(r.Span.Top-r.Span.Base)/2)
	}
	for _, e := range ends {
		all = append(all, e-1, e, e+1) // those that are below 0 are the greatest numbers
	}
	return all
}

// adds, holds and drops return the map that the call returns, and report an error if the call does not return api.OK, or changes the map that it was called on.
func adds(t *testing.T, m Map, s api.Span) Map {
	t.Helper()
	return changes(t, m, s, "Add", Map.Add)
}
func holds(t *testing.T, m Map, s api.Span) Map {
	t.Helper()
	return changes(t, m, s, "Hold", Map.Hold)
}
func drops(t *testing.T, m Map, s api.Span) Map {
	t.Helper()
	return changes(t, m, s, "Drop", Map.Drop)
}

// changes does what adds, holds and drops do.
func changes(t *testing.T, m Map, s api.Span, name string, call func(Map, api.Span) (Map, api.Errno)) Map {
	t.Helper()
	room, before := m.Room(), m.All()
	got, err := call(m, s)
	if err != api.OK {
		t.Errorf("reservations %v: %s(%v) returns %v", before, name, s, err)
	}
	has(t, m, room, before...)
	return got
}

// refuses reports an error if a call does not return this error, and the map as it was.
func refuses(t *testing.T, m Map, s api.Span, name string, call func(Map, api.Span) (Map, api.Errno), want api.Errno) {
	t.Helper()
	room, before := m.Room(), m.All()
	got, err := call(m, s)
	if err != want {
		t.Errorf("room %v, reservations %v: %s(%v) returns %v, not %v", room, before, name, s, err, want)
	}
	has(t, got, room, before...)
	has(t, m, room, before...)
}

// noAdd, noHold and noDrop report an error if the call does not return this error, and the map as it was.
func noAdd(t *testing.T, m Map, s api.Span, want api.Errno) {
	t.Helper()
	refuses(t, m, s, "Add", Map.Add, want)
}
func noHold(t *testing.T, m Map, s api.Span) {
	t.Helper()
	refuses(t, m, s, "Hold", Map.Hold, api.ErrNone)
}
func noDrop(t *testing.T, m Map, s api.Span) {
	t.Helper()
	refuses(t, m, s, "Drop", Map.Drop, api.ErrNone)
}

// unpaged are spans that do not consist of pages.
func unpaged() []api.Span {
	return []api.Span{
		{}, span(page, page), span(full, full), span(2*page, page), span(page, 0), span(full, 0), // empty, and their Base above their Top
		span(1, page), span(page-1, 2*page), span(page+1, 3*page), span(16, 2*page), span(2048, 2*page), span(full-1, full),
		span(0, 1), span(0, page-1), span(0, page+1), span(page, 3*page-1), span(0, full-1), span(0, 2*page+2048), span(0, 2*page+16),
		span(1, page+1), span(1, 2), span(page+1, page+2), span(1, 1), span(2, 1), span(page-1, page+1),
		span(0, math.MaxUint64), span(1, math.MaxUint64), span(math.MaxUint64, math.MaxUint64), span(math.MaxUint64, 0), span(math.MaxUint64, page),
		span(math.MaxUint64-4095, math.MaxUint64), span(math.MaxUint64-4095, 0), span(math.MaxUint64-4095, page), span(1<<63, 1<<63), span(1<<63, page),
	}
}

// The numbers that the document names.
func TestConstants(t *testing.T) {
	if Live != 1 || Held != 2 {
		t.Errorf("Live %d, Held %d", Live, Held)
	}
	if api.ErrArg != 2 || api.ErrNone != 13 || api.ErrThere != 14 || api.ErrRoom != 15 || api.OK != 0 {
		t.Errorf("errors %d, %d, %d, %d, %d", api.ErrArg, api.ErrNone, api.ErrThere, api.ErrRoom, api.OK)
	}
	if api.VirtualBits != 38 || api.PageBytes != 4096 {
		t.Errorf("limits %d, %d", api.VirtualBits, api.PageBytes)
	}
}

// The chapter's example.
func TestExample(t *testing.T) {
	for _, top := range []uint64{12288, 16384, 1 << 20, full} {
		finds(t, made(t, span(4096, top)), 5000, span(4096, 12288))
	}
}

// P21.1: a new map has the room, and nothing is reserved in it.
func TestNew(t *testing.T) {
	for _, room := range []api.Span{
		pages(0, 1), pages(1, 2), pages(0, 2), pages(1, 65), pages(3, 1000), span(0, full), span(page, full), span(full-page, full),
		span(full-2*page, full-page), span(0, full-page), span(1<<37, full), span(1<<31, 1<<32), span(1<<32, 1<<33+page),
	} {
		m := made(t, room)
		has(t, m, room)
		if n := len(m.All()); n != 0 {
			t.Errorf("a new map of %v has %d reservations", room, n)
		}
		if got := m.Gaps(); !slices.Equal(got, []api.Span{room}) {
			t.Errorf("a new map of %v has the gaps %v", room, got)
		}
	}
}

// P21.1: rooms that do not consist of pages, or reach beyond 2^38; beside the error, the map is a plain one.
func TestNewWrong(t *testing.T) {
	rooms := append(unpaged(),
		span(0, full+page), span(page, full+page), span(full, full+page), span(full-page, full+page), span(0, 2*full), span(0, 1<<48), span(0, 1<<63),
		span(2*full, 3*full), span(0, math.MaxUint64-4095), span(math.MaxUint64-8191, math.MaxUint64-4095), span(1<<63, 1<<63+page),
		span(0, full+1), span(full+1, full+page), span(1, full+page),
	)
	for _, room := range rooms {
		m, err := New(room)
		if err != api.ErrArg {
			t.Errorf("New(%v) returns %v", room, err)
		}
		isPlain(t, m)
	}
}

// isPlain reports an error if the map does not do as one without a room.
func isPlain(t *testing.T, m Map) {
	t.Helper()
	has(t, m, api.Span{})
	if n, g := len(m.All()), len(m.Gaps()); n != 0 || g != 0 {
		t.Errorf("a map without a room has %d reservations and %d gaps", n, g)
	}
	for _, n := range []uint64{1, page, page + 1, 1 << 20, full} {
		lacks(t, m, n, api.ErrRoom)
	}
	for _, n := range []uint64{0, full + 1, math.MaxUint64} {
		lacks(t, m, n, api.ErrArg)
	}
	for _, s := range append(unpaged(), pages(0, 1), pages(1, 2), span(0, full), span(full, full+page)) {
		noAdd(t, m, s, api.ErrArg)
		noHold(t, m, s)
		noDrop(t, m, s)
	}
}

// P21.1, and each call: a plain map has no room.
func TestPlain(t *testing.T) {
	isPlain(t, Map{})
	var m Map
	isPlain(t, m)
	isPlain(t, *new(Map))
}

// P21.2: numbers of bytes that are none come ahead of everything else.
func TestFindWrong(t *testing.T) {
	maps := []Map{{}, made(t, pages(0, 1)), made(t, span(0, full)), with(t, made(t, pages(1, 2)), live(1, 2)), with(t, made(t, span(0, full)), held(0, 1<<26))}
	for _, m := range maps {
		for _, n := range []uint64{0, full + 1, full + page - 1, full + page, 2 * full, 1 << 48, 1<<48 + 1, 1 << 63, math.MaxUint64 - 4096, math.MaxUint64 - 4095, math.MaxUint64} {
			lacks(t, m, n, api.ErrArg)
		}
	}
}

// P21.2: numbers of bytes at the ends of pages.
func TestFindPages(t *testing.T) {
	m := made(t, pages(1, 1000))
	for _, c := range []struct{ n, want uint64 }{
		{1, 1}, {2, 1}, {16, 1}, {2048, 1}, {4095, 1}, {4096, 1}, {4097, 2}, {5000, 2}, {8191, 2}, {8192, 2}, {8193, 3},
		{40960, 10}, {40961, 11}, {998 * 4096, 998}, {999*4096 - 4095, 999}, {999*4096 - 1, 999}, {999 * 4096, 999},
	} {
		finds(t, m, c.n, pages(1, 1+c.want))
	}
	lacks(t, m, 999*4096+1, api.ErrRoom)
	lacks(t, m, 1000*4096, api.ErrRoom)
}

// P21.2: the lengths and steps of long spans, as the chapter's words give them: in a room from 4096 on, a Base is the step.
func TestFindSteps(t *testing.T) {
	m := made(t, span(page, full))
	for _, c := range []struct{ n, step, length uint64 }{
		{1<<24 - 4096, 4096, 1<<24 - 4096}, {1 << 24, 4096, 1 << 24}, {1<<24 + 1, 4096, 1<<24 + 4096},
		{1<<25 - 8192, 4096, 1<<25 - 8192}, {1<<25 - 4097, 4096, 1<<25 - 4096}, {1<<25 - 4096, 4096, 1<<25 - 4096},
		{1<<25 - 4095, 8192, 1 << 25}, {1<<25 - 1, 8192, 1 << 25}, {1 << 25, 8192, 1 << 25},
		{1<<25 + 1, 8192, 1<<25 + 8192}, {1<<25 + 4096, 8192, 1<<25 + 8192}, {1<<25 + 8192, 8192, 1<<25 + 8192}, {1<<25 + 8193, 8192, 1<<25 + 16384},
		{1<<26 - 8192, 8192, 1<<26 - 8192}, {1<<26 - 8191, 16384, 1 << 26}, {1<<26 - 4096, 16384, 1 << 26}, {1 << 26, 16384, 1 << 26},
		{1<<26 + 1, 16384, 1<<26 + 16384}, {1<<27 - 1, 1 << 15, 1 << 27}, {1 << 28, 1 << 16, 1 << 28}, {1<<30 + 1, 1 << 18, 1<<30 + 1<<18},
		{1 << 32, 1 << 20, 1 << 32}, {1<<36 + 1<<25, 1 << 24, 1<<36 + 1<<24*2}, {1 << 37, 1 << 25, 1 << 37}, {1<<38 - 1<<25, 1 << 25, 1<<38 - 1<<25},
		{1<<37 + 1, 1 << 25, 1<<37 + 1<<25},
	} {
		if c.step+c.length > full {
			t.Fatalf("no room for %d", c.n)
		}
		finds(t, m, c.n, span(c.step, c.step+c.length))
		length, step := shaped(c.n)
		if length != c.length || step != c.step {
			t.Errorf("shaped(%d) = %d, %d", c.n, length, step)
		}
	}
	lacks(t, m, 1<<38-1<<25+1, api.ErrRoom) // its length is 2^38
	lacks(t, m, 1<<38-1<<25+4096, api.ErrRoom)
}

// P21.2: the whole of the greatest room, and a page less.
func TestFindWhole(t *testing.T) {
	m := made(t, span(0, full))
	for _, n := range []uint64{full, full - 1, full - page, full - 1<<25 + 1} {
		finds(t, m, n, span(0, full))
	}
	finds(t, m, full-1<<25, span(0, full-1<<25))
	for _, room := range []api.Span{span(page, full), span(0, full-page), span(1<<37, full)} {
		lacks(t, made(t, room), full, api.ErrRoom)
		lacks(t, made(t, room), full-1, api.ErrRoom)
	}
}

// P21.2: a room whose Base is no multiple of the step.
func TestFindRaised(t *testing.T) {
	n := uint64(1 << 25) // its step is two pages
	m := made(t, span(page, page*3+n))
	finds(t, m, n, span(2*page, 2*page+n))
	finds(t, m, page, pages(1, 2))
	finds(t, made(t, span(page, 2*page+n)), n, span(2*page, 2*page+n))
	lacks(t, made(t, span(page, page+n)), n, api.ErrRoom) // long enough, but its Base is no multiple
	finds(t, made(t, span(2*page, 2*page+n)), n, span(2*page, 2*page+n))
	lacks(t, made(t, span(3*page, 3*page+n)), n, api.ErrRoom)

	m = made(t, span(1<<30+page, full))
	finds(t, m, 1<<30, span(1<<30+1<<18, 2<<30+1<<18))
	finds(t, m, 1<<25, span(1<<30+2*page, 1<<30+2*page+1<<25))
	lacks(t, made(t, span(1<<25+page, full)), full-1<<25-page, api.ErrRoom)
	finds(t, made(t, span(1<<24+page, full)), 1<<37, span(1<<25, 1<<37+1<<25))
}

// P21.2: the lowest Base between reservations, behind all of them, and at the very end.
func TestFindLowest(t *testing.T) {
	room := pages(1, 21)
	m := with(t, made(t, room), live(3, 5), live(6, 9), held(12, 17), live(18, 19)) // gaps of 2, 1, 3, 1 and 2 pages
	for _, c := range []struct{ n, from, to uint64 }{{1, 1, 2}, {4096, 1, 2}, {4097, 1, 3}, {8192, 1, 3}, {8193, 9, 12}, {3 * 4096, 9, 12}} {
		finds(t, m, c.n, pages(c.from, c.to))
	}
	lacks(t, m, 3*4096+1, api.ErrRoom)

	m = with(t, m, live(1, 2))
	finds(t, m, page, pages(2, 3))
	finds(t, m, 2*page, pages(9, 11))
	m = with(t, m, live(2, 3))
	finds(t, m, page, pages(5, 6))
	finds(t, m, 2*page, pages(9, 11))
	m = with(t, m, live(9, 10))
	finds(t, m, 2*page, pages(10, 12))
	m = with(t, m, held(10, 12))
	finds(t, m, 2*page, pages(19, 21)) // at the end of the room
	lacks(t, m, 3*page, api.ErrRoom)
	m = with(t, m, held(20, 21))
	lacks(t, m, 2*page, api.ErrRoom)
	finds(t, m, 1, pages(5, 6))
	m = with(t, m, live(5, 6))
	finds(t, m, 1, pages(17, 18))
	m = with(t, m, live(17, 18))
	finds(t, m, 1, pages(19, 20))
	m = with(t, m, live(19, 20))
	lacks(t, m, 1, api.ErrRoom)
}

// P21.2: behind all reservations, which begin at the room's Base.
func TestFindBehind(t *testing.T) {
	m := made(t, pages(7, 17))
	for i := uint64(7); i < 17; i++ {
		finds(t, m, 4096, pages(i, i+1))
		finds(t, m, (17-i)*page, pages(i, 17))
		lacks(t, m, (17-i)*page+1, api.ErrRoom)
		m = with(t, m, Region{Span: pages(i, i+1), Kind: 1 + int(i%2)})
	}
	lacks(t, m, 1, api.ErrRoom)
}

// P21.2: gaps that are long enough, but in which no multiple of the step leaves the length.
func TestFindSteppedGaps(t *testing.T) {
	n := uint64(1 << 25) // 8192 pages, with a step of two
	m := with(t, made(t, pages(0, 60000)), live(0, 1), live(8193, 8195), live(16387, 16389), held(24582, 24583), live(32776, 32777), live(40971, 40973))
	// All gaps begin at odd numbers: 8192 pages from 1, 8192 from 8195, 8193 from 16389, 8193 from 24583, 8194 from 32777, and more from 40973.
	finds(t, m, n, pages(16390, 24582))
	m = with(t, m, live(16390, 16391))
	finds(t, m, n, pages(24584, 32776))
	m = with(t, m, live(24600, 24601))
	finds(t, m, n, pages(32778, 40970))
	m = with(t, m, live(32778, 32779))
	finds(t, m, n, pages(40974, 49166))
	m = with(t, m, live(40974, 40975), live(50001, 50002))
	finds(t, m, n, pages(40976, 49168))
	m = with(t, m, live(49167, 49168))
	finds(t, m, n, pages(50002, 58194))
	m = with(t, m, live(51809, 51810))
	lacks(t, m, n, api.ErrRoom) // what is left, behind it, is 8190 pages
	finds(t, m, n-page, pages(1, 8192))
}

// P21.2: a gap at the end of the room that only a Base that is no multiple would do for.
func TestFindOddEnd(t *testing.T) {
	n := uint64(1 << 26) // 16384 pages, with a step of four
	for odd := uint64(0); odd < 4; odd++ {
		m := with(t, made(t, pages(0, 20000+odd+16384)), live(0, 20000+odd))
		if odd == 0 {
			finds(t, m, n, pages(20000, 36384))
			continue
		}
		lacks(t, m, n, api.ErrRoom)
		m = with(t, made(t, pages(0, 20004+16384)), live(0, 20000+odd))
		finds(t, m, n, pages(20004, 36388))
	}
}

// P21.2: Live and Held reservations count alike, dropped ones do not.
func TestFindKinds(t *testing.T) {
	m := made(t, pages(0, 4))
	finds(t, m, 1, pages(0, 1))
	m = adds(t, m, pages(0, 1))
	finds(t, m, 1, pages(1, 2))
	lacks(t, m, 4*page, api.ErrRoom)
	m = holds(t, m, pages(0, 1))
	finds(t, m, 1, pages(1, 2))
	lacks(t, m, 4*page, api.ErrRoom)
	m = drops(t, m, pages(0, 1))
	finds(t, m, 1, pages(0, 1))
	finds(t, m, 4*page, pages(0, 4))

	m = with(t, m, live(0, 1), live(1, 3), live(3, 4))
	lacks(t, m, 1, api.ErrRoom)
	m = holds(t, m, pages(1, 3))
	lacks(t, m, 1, api.ErrRoom)
	m = drops(t, m, pages(1, 3))
	finds(t, m, 1, pages(1, 2))
	finds(t, m, page+1, pages(1, 3))
	lacks(t, m, 2*page+1, api.ErrRoom)
}

// P21.2: the greatest room is searched to its end, in whichever order it was reserved.
func TestFindNearlyFull(t *testing.T) {
	last := uint64(1) << 26
	m := with(t, made(t, span(0, full)), live(0, last-1))
	finds(t, m, 1, pages(last-1, last))
	finds(t, m, page, span(full-page, full))
	lacks(t, m, page+1, api.ErrRoom)
	lacks(t, with(t, m, held(last-1, last)), 1, api.ErrRoom)

	m = with(t, made(t, span(0, full)), held(1, last-2), live(last-1, last))
	finds(t, m, 1, pages(0, 1))
	m = with(t, m, live(0, 1))
	finds(t, m, 1, pages(last-2, last-1))
	lacks(t, m, page+1, api.ErrRoom)

	m = with(t, made(t, span(0, full)), live(0, 1<<25-1))
	finds(t, m, 1<<37, span(1<<37, full))
	lacks(t, m, 1<<37+1, api.ErrRoom)
	m = with(t, m, live(1<<25+1, 1<<25+2))
	lacks(t, m, 1<<37, api.ErrRoom)
	finds(t, m, 1<<36, span(1<<37+1<<24, 1<<37+1<<36+1<<24))
}

// P21.2: a thousand reservations, each a page, with gaps of a page between them, and one of two pages at the end.
func TestFindMany(t *testing.T) {
	m := made(t, pages(0, 2002))
	for i := uint64(0); i < 2000; i += 2 {
		m = with(t, m, Region{Span: pages(i*7%2000, i*7%2000+1), Kind: 1 + int(i/2%2)})
	}
	finds(t, m, 1, pages(1, 2))
	finds(t, m, 2*page, pages(1999, 2001))
	finds(t, m, 3*page, pages(1999, 2002))
	lacks(t, m, 3*page+1, api.ErrRoom)
	if got := m.Free(); got != 1002*page {
		t.Errorf("Free() = %d", got)
	}
}

// P21.3: what can be reserved, at all places of a room and next to other reservations, becomes Live.
func TestAdd(t *testing.T) {
	room := pages(2, 12)
	m := made(t, room)
	m = adds(t, m, pages(5, 7))
	has(t, m, room, live(5, 7))
	m = adds(t, m, pages(2, 3)) // from the Base of the room on
	has(t, m, room, live(2, 3), live(5, 7))
	m = adds(t, m, pages(10, 12)) // to its Top
	has(t, m, room, live(2, 3), live(5, 7), live(10, 12))
	m = adds(t, m, pages(7, 8)) // next to one, behind it
	m = adds(t, m, pages(4, 5)) // and ahead of it
	has(t, m, room, live(2, 3), live(4, 5), live(5, 7), live(7, 8), live(10, 12))
	m = adds(t, m, pages(8, 10)) // between two
	m = adds(t, m, pages(3, 4))
	has(t, m, room, live(2, 3), live(3, 4), live(4, 5), live(5, 7), live(7, 8), live(8, 10), live(10, 12))
	has(t, adds(t, made(t, room), room), room, live(2, 12))
	has(t, adds(t, made(t, span(0, full)), span(0, full)), span(0, full), Region{Span: span(0, full), Kind: Live})
	has(t, adds(t, made(t, span(0, full)), span(full-page, full)), span(0, full), Region{Span: span(full-page, full), Kind: Live})
}

// P21.3: a span need not be one that Find returns, or one that a capability represents exactly.
func TestAddAny(t *testing.T) {
	s := pages(1, 1<<25)
	if _, exact := bounds.Encode(s); exact {
		t.Fatalf("%v is represented exactly", s)
	}
	has(t, adds(t, made(t, span(0, full)), s), span(0, full), Region{Span: s, Kind: Live})
}

// P21.3: spans that do not consist of pages, and such that are not in the room.
func TestAddWrong(t *testing.T) {
	room := pages(2, 12)
	outside := []api.Span{
		pages(1, 2), pages(0, 2), pages(1, 3), pages(1, 12), pages(0, 13), pages(1, 13), pages(2, 13), pages(11, 13), pages(12, 13), pages(13, 14),
		span(0, full), span(2*page, full), span(full, full+page), span(2*page, 1<<63), span(1<<63, 1<<63+page), span(0, math.MaxUint64-4095), span(math.MaxUint64-8191, math.MaxUint64-4095),
		span(2*page, math.MaxUint64-4095), span(1<<32+2*page, 1<<32+3*page),
	}
	for _, m := range []Map{made(t, room), with(t, made(t, room), live(4, 5)), with(t, made(t, room), live(2, 12)), with(t, made(t, room), held(2, 12))} {
		for _, s := range append(unpaged(), outside...) {
			noAdd(t, m, s, api.ErrArg)
		}
		for _, s := range []api.Span{span(4*page+1, 5*page), span(4*page, 5*page-1), span(4*page, 4*page), span(5*page, 4*page), span(4*page+2048, 4*page+2049)} {
			noAdd(t, m, s, api.ErrArg)
		}
	}
}

// P21.3: a span that overlaps a reservation of either kind, by all that it can.
func TestAddThere(t *testing.T) {
	room := pages(0, 30)
	for _, kind := range []int{Live, Held} {
		m := with(t, made(t, room), Region{Span: pages(10, 14), Kind: kind}, Region{Span: pages(20, 21), Kind: kind})
		for _, s := range []api.Span{
			pages(10, 14), pages(20, 21), // the same
			pages(9, 11), pages(0, 11), pages(13, 15), pages(13, 20), pages(19, 21), pages(20, 22), pages(20, 30), // by one page
			pages(10, 11), pages(11, 13), pages(13, 14), pages(11, 14), pages(10, 13), // contained in one
			pages(9, 15), pages(0, 15), pages(9, 14), pages(10, 15), pages(19, 22), pages(10, 20), // containing one
			pages(13, 21), pages(12, 25), pages(0, 30), pages(9, 22), pages(10, 21), // both
		} {
			noAdd(t, m, s, api.ErrThere)
		}
		for _, s := range []api.Span{pages(9, 10), pages(0, 10), pages(14, 15), pages(14, 20), pages(19, 20), pages(21, 22), pages(21, 30), pages(15, 19)} {
			adds(t, m, s)
		}
		noAdd(t, m, pages(13, 31), api.ErrArg) // overlaps, and ends outside the room
		noAdd(t, m, span(10*page, 11*page+1), api.ErrArg)
	}
}

// P21.3: Add of each span of a small room, beside each of two reservations, is as the pages that they have say.
func TestAddEach(t *testing.T) {
	const n = 7
	for a := uint64(1); a < n; a++ {
		for b := a + 1; b <= n; b++ {
			m := with(t, made(t, pages(1, n)), live(a, b))
			for from := range uint64(n + 2) {
				for to := range uint64(n + 2) {
					s := pages(from, to)
					switch {
					case from >= to || from < 1 || to > n:
						noAdd(t, m, s, api.ErrArg)
					case max(from, a) < min(to, b):
						noAdd(t, m, s, api.ErrThere)
					case from < a:
						has(t, adds(t, m, s), pages(1, n), live(from, to), live(a, b))
					default:
						has(t, adds(t, m, s), pages(1, n), live(a, b), live(from, to))
					}
				}
			}
		}
	}
}

// inexact are spans of which none is exactly one of the pages 2 to 4, 4 to 5, 8 to 10, or 12 to 15.
func inexact() []api.Span {
	return append(unpaged(),
		pages(2, 3), pages(3, 4), pages(12, 14), pages(13, 15), pages(13, 14), // parts
		pages(1, 4), pages(2, 5), pages(1, 5), pages(11, 15), pages(12, 16), pages(2, 15), pages(0, 20), // longer
		pages(0, 2), pages(5, 8), pages(15, 20), pages(16, 17), // none of their pages
		span(2*page, 4*page-1), span(2*page+1, 4*page), span(4*page, 2*page), span(2*page, 2*page), pages(20, 21), span(0, full), span(full, full+page),
	)
}

// P21.3: only a Live reservation of exactly that span is held.
func TestHold(t *testing.T) {
	room := pages(0, 20)
	m := with(t, made(t, room), live(2, 4), live(4, 5), held(8, 10), live(12, 15))
	for _, s := range append(inexact(), pages(8, 10)) { // that one is Held
		noHold(t, m, s)
	}
	h := holds(t, m, pages(4, 5))
	has(t, h, room, live(2, 4), held(4, 5), held(8, 10), live(12, 15))
	noHold(t, h, pages(4, 5))
	h = holds(t, h, pages(2, 4))
	h = holds(t, h, pages(12, 15))
	has(t, h, room, held(2, 4), held(4, 5), held(8, 10), held(12, 15))
	for _, s := range []api.Span{pages(2, 4), pages(4, 5), pages(8, 10), pages(12, 15)} {
		noHold(t, h, s)
		noAdd(t, h, s, api.ErrThere)
	}
}

// P21.3: only a Held reservation of exactly that span is removed, and then it can be reserved again.
func TestDrop(t *testing.T) {
	room := pages(0, 20)
	m := with(t, made(t, room), held(2, 4), live(4, 5), held(8, 10), held(12, 15))
	for _, s := range append(inexact(), pages(4, 5)) { // that one is Live
		noDrop(t, m, s)
	}
	d := drops(t, m, pages(8, 10))
	has(t, d, room, held(2, 4), live(4, 5), held(12, 15))
	noDrop(t, d, pages(8, 10))
	noHold(t, d, pages(8, 10))
	d = drops(t, d, pages(2, 4))
	d = drops(t, d, pages(12, 15))
	has(t, d, room, live(4, 5))
	for _, s := range []api.Span{pages(2, 4), pages(8, 10), pages(12, 15)} {
		noDrop(t, d, s)
		again := adds(t, d, s) // Live, so that it is neither dropped, nor there twice
		noDrop(t, again, s)
		noAdd(t, again, s, api.ErrThere)
		has(t, drops(t, holds(t, again, s), s), room, live(4, 5))
	}
	d = holds(t, d, pages(4, 5))
	has(t, drops(t, d, pages(4, 5)), room)
}

// P21.3: several maps that were made of one have nothing in common.
func TestBranches(t *testing.T) {
	room := pages(0, 100)
	m := made(t, room)
	for n := uint64(0); n < 20; n++ {
		base := m.All()
		a := adds(t, m, pages(90, 91))
		b := adds(t, m, pages(95, 97))
		c := adds(t, m, pages(0, 1))
		var h, d Map
		if n > 0 {
			h = holds(t, m, pages(4*n, 4*n+2))
			d = drops(t, h, pages(4*n, 4*n+2))
		}
		has(t, a, room, append(slices.Clone(base), live(90, 91))...)
		has(t, b, room, append(slices.Clone(base), live(95, 97))...)
		has(t, c, room, append([]Region{live(0, 1)}, base...)...)
		aa := adds(t, a, pages(92, 93))
		ab := adds(t, a, pages(93, 94))
		has(t, aa, room, append(slices.Clone(base), live(90, 91), live(92, 93))...)
		has(t, ab, room, append(slices.Clone(base), live(90, 91), live(93, 94))...)
		if n > 0 {
			has(t, h, room, append(slices.Clone(base[:n-1]), held(4*n, 4*n+2))...)
			has(t, d, room, base[:n-1]...)
		}
		has(t, m, room, base...)
		m = adds(t, m, pages(4*n+4, 4*n+6))
	}
}

// P21.4: addresses within and next to reservations, of both kinds.
func TestAt(t *testing.T) {
	m := with(t, made(t, span(page, full)), live(2, 4), held(4, 5), live(8, 9), held(1<<26-1, 1<<26))
	for _, c := range []struct {
		addr uint64
		want Region
	}{
		{8192, live(2, 4)}, {8193, live(2, 4)}, {12287, live(2, 4)}, {12288, live(2, 4)}, {16383, live(2, 4)},
		{16384, held(4, 5)}, {20479, held(4, 5)}, {32768, live(8, 9)}, {36863, live(8, 9)},
		{full - 4096, held(1<<26-1, 1<<26)}, {full - 1, held(1<<26-1, 1<<26)},
	} {
		if got, ok := m.At(c.addr); got != c.want || !ok {
			t.Errorf("At(%d) = %v, %v, not %v", c.addr, got, ok, c.want)
		}
	}
	for _, addr := range []uint64{
		0, 1, 4095, 4096, 8191, 20480, 32767, 36864, 1 << 30, full - 4097, full, full + 1, full + 8192, 1<<48 + 8192, 1 << 63, 1<<63 + 8192,
		math.MaxInt64, math.MaxUint64 - 4096, math.MaxUint64 - 1, math.MaxUint64,
	} {
		if got, ok := m.At(addr); got != (Region{}) || ok {
			t.Errorf("At(%d) = %v, %v", addr, got, ok)
		}
	}
}

// P21.4: in ascending order, in whichever order they were added, and with their kinds.
func TestAllOrder(t *testing.T) {
	want := []Region{live(0, 1), held(1, 3), live(5, 6), held(6, 7), live(9, 12)}
	room := pages(0, 12)
	count := 0
	permute(want, func(order []Region) {
		m := made(t, room)
		for _, r := range order {
			m = adds(t, m, r.Span)
		}
		for _, r := range order {
			if r.Kind == Held {
				m = holds(t, m, r.Span)
			}
		}
		has(t, m, room, want...)
		has(t, with(t, made(t, room), order...), room, want...)
		count++
	})
	if count != 120 {
		t.Errorf("%d orders", count)
	}
}

// permute calls do with each order of a list.
func permute(list []Region, do func(order []Region)) {
	order := slices.Clone(list)
	var swap func(k int)
	swap = func(k int) {
		if k == len(order) {
			do(slices.Clone(order))
		}
		for i := k; i < len(order); i++ {
			order[k], order[i] = order[i], order[k]
			swap(k + 1)
			order[k], order[i] = order[i], order[k]
		}
	}
	swap(0)
}

// P21.4, P21.6: what is done to a list that was returned, its spare capacity too, changes neither the map nor another list.
func TestNewMemory(t *testing.T) {
	room := pages(0, 40)
	m := made(t, room)
	var want []Region
	for n := uint64(0); n < 10; n++ {
		all, gaps := m.All(), m.Gaps()
		others, more := m.All(), m.Gaps()
		for i := range all[:cap(all)] {
			all[:cap(all)][i] = live(77, 99)
		}
		for i := range gaps[:cap(gaps)] {
			gaps[:cap(gaps)][i] = pages(77, 99)
		}
		all, gaps = append(all, live(3, 4)), append(gaps, pages(3, 4))
		left, _ := between(room, want)
		if !slices.Equal(others, want) || !slices.Equal(more, left) {
			t.Errorf("lists %v, %v share memory with %v, %v", others, more, all, gaps)
		}
		has(t, m, room, want...)
		kind := 1 + int(n%2)
		m = with(t, m, Region{Span: pages(3*n, 3*n+2), Kind: kind})
		want = append(want, Region{Span: pages(3*n, 3*n+2), Kind: kind})
		has(t, m, room, want...)
	}
}

// P21.6
func TestGaps(t *testing.T) {
	for _, c := range []struct {
		room    api.Span
		regions []Region
		want    []api.Span
		free    uint64
	}{
		{pages(1, 10), nil, []api.Span{pages(1, 10)}, 9 * page},
		{pages(1, 2), nil, []api.Span{pages(1, 2)}, page},
		{pages(1, 10), []Region{live(1, 10)}, nil, 0},
		{pages(1, 10), []Region{held(1, 10)}, nil, 0},
		{pages(1, 10), []Region{live(1, 4), held(4, 5), live(5, 10)}, nil, 0},
		{pages(1, 10), []Region{live(1, 2)}, []api.Span{pages(2, 10)}, 8 * page},
		{pages(1, 10), []Region{held(9, 10)}, []api.Span{pages(1, 9)}, 8 * page},
		{pages(1, 10), []Region{live(1, 2), live(9, 10)}, []api.Span{pages(2, 9)}, 7 * page},
		{pages(1, 10), []Region{live(2, 9)}, []api.Span{pages(1, 2), pages(9, 10)}, 2 * page},
		{pages(1, 10), []Region{live(3, 4), live(4, 6)}, []api.Span{pages(1, 3), pages(6, 10)}, 6 * page},
		{pages(1, 10), []Region{live(3, 4), held(4, 6), live(6, 7)}, []api.Span{pages(1, 3), pages(7, 10)}, 5 * page},
		{pages(1, 10), []Region{live(2, 3), held(5, 6), live(8, 9)}, []api.Span{pages(1, 2), pages(3, 5), pages(6, 8), pages(9, 10)}, 6 * page},
		{pages(1, 10), []Region{live(8, 9), held(1, 3), live(5, 6)}, []api.Span{pages(3, 5), pages(6, 8), pages(9, 10)}, 5 * page},
		{span(0, full), nil, []api.Span{span(0, full)}, full},
		{span(0, full), []Region{live(0, 1)}, []api.Span{span(page, full)}, full - page},
		{span(0, full), []Region{live(0, 1<<26-1)}, []api.Span{span(full-page, full)}, page},
		{span(0, full), []Region{live(1<<20, 1<<21)}, []api.Span{span(0, 1<<32), span(1<<33, full)}, full - 1<<32},
		{span(0, full), []Region{held(0, 1<<26)}, nil, 0},
	} {
		m := with(t, made(t, c.room), c.regions...)
		if got := m.Gaps(); !slices.Equal(got, c.want) {
			t.Errorf("room %v, reservations %v: Gaps() = %v, not %v", c.room, c.regions, got, c.want)
		}
		if got := m.Free(); got != c.free {
			t.Errorf("room %v, reservations %v: Free() = %d, not %d", c.room, c.regions, got, c.free)
		}
	}
}

// P21.6: Held reservations count like Live ones, dropped ones do not, so that gaps next to each other become one.
func TestGapsKinds(t *testing.T) {
	room := pages(0, 9)
	m := with(t, made(t, room), live(3, 6))
	apart := []api.Span{pages(0, 3), pages(6, 9)}
	for range 2 {
		if got, free := m.Gaps(), m.Free(); !slices.Equal(got, apart) || free != 6*page {
			t.Errorf("Gaps() = %v, Free() = %d", got, free)
		}
		m, _ = m.Hold(pages(3, 6))
	}
	m = drops(t, m, pages(3, 6))
	if got, free := m.Gaps(), m.Free(); !slices.Equal(got, []api.Span{room}) || free != 9*page {
		t.Errorf("Gaps() = %v, Free() = %d", got, free)
	}
}

// shaped is the length and the step of a span for n bytes, without bounds and scale: the step of the representation is the least that has fewer than 2^13 of them in the length.
func shaped(n uint64) (length, step uint64) {
	length = (n + page - 1) / page * page
	represented := uint64(1)
	for (length+represented-1)/represented >= 8192 {
		represented *= 2
	}
	length = (length + represented - 1) / represented * represented
	length = (length + page - 1) / page * page
	return length, max(represented, page)
}

// P21.2, P21.5: shaped against the words of chapter 3, for lengths at all steps: what Find returns is represented exactly.
func TestFindExact(t *testing.T) {
	for x := 12; x <= 38; x++ {
		for _, d := range []int64{-1<<20 - 1, -4097, -4096, -4095, -1, 0, 1, 4095, 4096, 4097, 8191, 8192, 8193, 1<<20 + 1, 1 << 24, 1<<25 + 4096} {
			n := uint64(int64(1)<<x + d)
			if n == 0 || n > full {
				continue
			}
			length, step := shaped(n)
			for _, base := range []uint64{0, page, 3 * page, 5 << 20, 1<<30 + page, 1<<36 + page, 1<<37 - page} {
				m := made(t, span(base, full))
				at := (base + step - 1) / step * step
				if at+length > full {
					lacks(t, m, n, api.ErrRoom)
					continue
				}
				finds(t, m, n, span(at, at+length))
				right(t, m, n)
			}
		}
	}
}

// right reports an error if a span that Find returns is not in the room, overlaps a reservation, can't be reserved, or is not represented exactly.
func right(t *testing.T, m Map, n uint64) {
	t.Helper()
	s, err := m.Find(n)
	if err != api.OK {
		return
	}
	if _, exact := bounds.Encode(s); !exact {
		t.Errorf("Find(%d) = %v, which no capability represents exactly", n, s)
	}
	if s.Base >= s.Top || s.Top-s.Base < n || s.Base%page != 0 || s.Top%page != 0 || s.Base < m.Room().Base || s.Top > m.Room().Top {
		t.Errorf("Find(%d) = %v, in the room %v", n, s, m.Room())
	}
	added, err := m.Add(s)
	if err != api.OK {
		t.Errorf("Add of what Find(%d) returned, %v, returns %v", n, s, err)
	}
	if r, ok := added.At(s.Base); !ok || r != (Region{Span: s, Kind: Live}) {
		t.Errorf("%v was added, but there is %v", s, r)
	}
	apart(t, added)
}

// apart reports an error if two reservations overlap, are not in ascending order, are empty, are of no kind or not in the room.
func apart(t *testing.T, m Map) {
	t.Helper()
	last := m.Room().Base
	for _, r := range m.All() {
		if r.Span.Base < last || r.Span.Base >= r.Span.Top || r.Span.Top > m.Room().Top || r.Kind != Live && r.Kind != Held {
			t.Errorf("reservations %v in the room %v", m.All(), m.Room())
		}
		last = r.Span.Top
	}
}

// model is reservations in the order in which they were added.
type model struct {
	room    api.Span
	regions []Region
}

// free reports whether a span overlaps no reservation, and is in the room.
func (m *model) free(s api.Span) bool {
	for _, r := range m.regions {
		if max(r.Span.Base, s.Base) < min(r.Span.Top, s.Top) {
			return false
		}
	}
	return s.Base >= m.room.Base && s.Top <= m.room.Top
}

// find tries each multiple of the step.
func (m *model) find(n uint64) (api.Span, api.Errno) {
	if n == 0 || n > full {
		return api.Span{}, api.ErrArg
	}
	length, step := shaped(n)
	for base := m.room.Base / step * step; base < m.room.Top; base += step {
		if s := span(base, base+length); m.free(s) {
			return s, api.OK
		}
	}
	return api.Span{}, api.ErrRoom
}

// add, hold and drop change the model as the calls do.
func (m *model) add(s api.Span) api.Errno {
	switch {
	case s.Base >= s.Top || s.Base%page != 0 || s.Top%page != 0 || s.Base < m.room.Base || s.Top > m.room.Top:
		return api.ErrArg
	case !m.free(s):
		return api.ErrThere
	}
	m.regions = append(m.regions, Region{Span: s, Kind: Live})
	return api.OK
}
func (m *model) hold(s api.Span) api.Errno {
	for i, r := range m.regions {
		if r == (Region{Span: s, Kind: Live}) {
			m.regions[i].Kind = Held
			return api.OK
		}
	}
	return api.ErrNone
}
func (m *model) drop(s api.Span) api.Errno {
	for i, r := range m.regions {
		if r == (Region{Span: s, Kind: Held}) {
			m.regions = append(m.regions[:i], m.regions[i+1:]...)
			return api.OK
		}
	}
	return api.ErrNone
}

// sorted is the model's reservations in ascending order.
func (m *model) sorted() []Region {
	all := slices.Clone(m.regions)
	for i := range all {
		for j := range i {
			if all[i].Span.Base < all[j].Span.Base {
				all[i], all[j] = all[j], all[i]
			}
		}
	}
	return all
}

// rule is numbers by a rule.
type rule struct{ x uint64 }

// below is the next number, which is below n.
func (r *rule) below(n uint64) uint64 {
	r.x = r.x*6364136223846793005 + 1442695040888963407
	return (r.x >> 20) % n
}

// span is a span in or near the room, most often one of pages, and often one that is reserved.
func (r *rule) span(m *model) api.Span {
	if len(m.regions) > 0 && r.below(3) > 0 {
		s := m.regions[r.below(uint64(len(m.regions)))].Span
		switch r.below(8) {
		case 0:
			s.Top += page
		case 1:
			s.Base += page
		case 2:
			s.Base -= page // that of 0 is among the greatest numbers
		}
		return s
	}
	count := (m.room.Top - m.room.Base) / page
	from := m.room.Base/page + r.below(count)
	s := pages(from, from+1+r.below(min(count, 9)))
	switch r.below(12) {
	case 0:
		s.Base += r.below(page)
	case 1:
		s.Top -= r.below(page)
	case 2:
		s = pages(r.below(count+4), r.below(count+4))
	}
	return s
}

// step does one call by the rule in both, and reports an error if they differ; it returns the map afterward.
func (r *rule) step(t *testing.T, m Map, want *model) Map {
	t.Helper()
	var err, wrong api.Errno
	var got Map
	s := r.span(want)
	switch r.below(7) {
	case 0, 1:
		got, err = m.Add(s)
		wrong = want.add(s)
	case 2, 3:
		got, err = m.Hold(s)
		wrong = want.hold(s)
	case 4:
		got, err = m.Drop(s)
		wrong = want.drop(s)
	default:
		n := r.below(min(want.room.Top-want.room.Base, 1<<r.below(28)+1)) + 1
		right(t, m, n)
		s, err = m.Find(n)
		found, fault := want.find(n)
		if s != found || err != fault {
			t.Errorf("room %v, reservations %v: Find(%d) = %v, %v, not %v, %v", want.room, want.sorted(), n, s, err, found, fault)
		}
		got = m
		if err == api.OK {
			got, err = m.Add(s)
			wrong = want.add(s)
		} else {
			wrong = fault
		}
	}
	if err != wrong {
		t.Errorf("room %v, reservations %v: error %v, not %v, of span %v", want.room, want.sorted(), err, wrong, s)
	}
	return got
}

// P21.2 to P21.6: many maps by a rule, each held against the model; those that were left behind stay as they were.
func TestModel(t *testing.T) {
	for seed, room := range []api.Span{
		pages(0, 1), pages(0, 2), pages(1, 4), pages(3, 11), pages(0, 24), pages(5, 64), pages(1, 200), pages(77, 1000),
		pages(0, 1<<14), pages(1, 1<<14), pages(3, 1<<16+1), span(full-20*page, full), span(full-1<<26-page, full), span(1<<37+page, 1<<37+1<<27),
	} {
		r := &rule{x: uint64(seed) + 9}
		want := &model{room: room}
		m := made(t, room)
		var old []Map
		var had [][]Region
		for range 250 {
			old, had = append(old, m), append(had, want.sorted())
			m = r.step(t, m, want)
			has(t, m, room, want.sorted()...)
			apart(t, m)
			if t.Failed() {
				t.Fatalf("room %v", room)
			}
		}
		for i, o := range old {
			has(t, o, room, had[i]...)
		}
	}
}

// P21.2, P21.3: what Find returns is reserved until nothing is left, of lengths with several steps; then each is held and dropped, and all is free again.
func TestFill(t *testing.T) {
	for _, room := range []api.Span{pages(1, 50), pages(1, 1<<14+3), span(page, 1<<27+3*page), span(1<<30+page, 1<<31)} {
		want := &model{room: room}
		m := made(t, room)
		for _, n := range []uint64{1 << 29, 1<<26 + 1, 1 << 25, 1<<25 - 4096, 1 << 20, 5 * page, 3 * page, page} {
			for range 9 {
				s, err := m.Find(n)
				found, fault := want.find(n)
				if s != found || err != fault {
					t.Fatalf("room %v, reservations %v: Find(%d) = %v, %v, not %v, %v", room, m.All(), n, s, err, found, fault)
				}
				right(t, m, n)
				if err != api.OK {
					break
				}
				m = adds(t, m, s)
				want.add(s)
				has(t, m, room, want.sorted()...)
			}
		}
		for _, r := range m.All() {
			m = holds(t, m, r.Span)
		}
		for _, r := range m.All() {
			m = drops(t, m, r.Span)
		}
		has(t, m, room)
	}
}
