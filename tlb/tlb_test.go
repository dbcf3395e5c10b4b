package tlb

import (
	"math"
	"slices"
	"testing"

	"mintmark/pte"
	"mintmark/walk"
)

// line is a line of that page; mark distinguishes it from other ones for the same page.
func line(asid, number, mark uint64) Line {
	e := pte.Entry{Valid: true, Read: true, User: mark%2 == 0, Frame: mark}
	return Line{Asid: asid, Number: number, Found: walk.Found{Entry: e, At: 8 * mark}}
}

// filled is a Tlb in which these lines were put, one after the other.
func filled(l ...Line) *Tlb {
	t := &Tlb{}
	for _, x := range l {
		t.Put(x)
	}
	return t
}

// pages are lines of one Asid for pages with these numbers, each with a mark of its own.
func pages(asid uint64, numbers ...uint64) []Line {
	var l []Line
	for i, number := range numbers {
		l = append(l, line(asid, number, asid*100+uint64(i)))
	}
	return l
}

// holds reports an error if the Tlb does not have exactly these lines, in this order, or if one of them is not found.
func holds(t *testing.T, b *Tlb, what string, want ...Line) {
	t.Helper()
	if got := b.Lines(); !slices.Equal(got, want) {
		t.Errorf("%s: the lines are %v, want %v", what, got, want)
	}
	for _, l := range want {
		finds(t, b, l)
	}
}

func finds(t *testing.T, b *Tlb, want Line) {
	t.Helper()
	if got, ok := b.Look(want.Asid, want.Number); got != want || !ok {
		t.Errorf("Look(%x, %x) = %v, %v, want %v, true", want.Asid, want.Number, got, ok, want)
	}
}

func lacks(t *testing.T, b *Tlb, asid, number uint64) {
	t.Helper()
	if got, ok := b.Look(asid, number); got != (Line{}) || ok {
		t.Errorf("Look(%x, %x) = %v, %v, want nothing, false", asid, number, got, ok)
	}
}

// edges are numbers, and Asids, at the ends of what there is, and some that differ in the upper bits alone.
func edges() []uint64 {
	return []uint64{0, 1, 2, 3, 4, 7, 8, 1 << 8, 1 << 16, 1<<26 - 1, 1 << 26, 1 << 31, 1 << 32, 1<<32 + 1, 1 << 62, 1<<63 - 1, 1 << 63, 1<<63 + 1, math.MaxUint64 - 4, math.MaxUint64 - 1, math.MaxUint64}
}

// The type is a value: what is done with a copy is not done with the Tlb.
func TestCopy(t *testing.T) {
	want := pages(1, 0, 1)
	b := filled(want...)
	c := *b
	c.Clear()
	c.Put(line(2, 2, 2))
	holds(t, b, "the Tlb", want...)
	holds(t, &c, "the copy", line(2, 2, 2))
	if l := (Line{1, 2, walk.Found{At: 3}}); l != (Line{Asid: 1, Number: 2, Found: walk.Found{At: 3}}) {
		t.Error(l)
	}
}

// P11.1: a plain Tlb is empty.
func TestPlain(t *testing.T) {
	var b Tlb
	for _, asid := range edges() {
		for _, number := range edges() {
			lacks(t, &b, asid, number)
		}
	}
	holds(t, &b, "a plain Tlb")
}

// P11.1 to P11.3: with a nil Tlb nothing happens.
func TestNil(t *testing.T) {
	var b *Tlb
	for _, x := range edges() {
		b.Put(line(x, x, 1))
		lacks(t, b, x, x)
		lacks(t, b, 0, x)
		b.Drop(x, x)
		b.Flush(x)
	}
	b.Clear()
	for _, place := range []int{0, 1, -1, math.MinInt, math.MaxInt} {
		b.Evict(place)
	}
	if got := b.Lines(); len(got) != 0 {
		t.Errorf("there are the lines %v", got)
	}
}

// P11.1: the line of a page is found by its Asid and its number together, whatever they are.
func TestLookEdges(t *testing.T) {
	for _, asid := range edges() {
		for _, number := range edges() {
			b := filled(line(asid, number, 9))
			holds(t, b, "one line", line(asid, number, 9))
			for _, other := range edges() {
				if other != asid {
					lacks(t, b, other, number)
				}
				if other != number {
					lacks(t, b, asid, other)
				}
				if other != asid && other != number {
					lacks(t, b, other, other)
				}
			}
			for bit := range 64 {
				lacks(t, b, asid^1<<bit, number)
				lacks(t, b, asid, number^1<<bit)
			}
		}
	}
}

// P11.1: with the first and with the second line of a set.
func TestLookTwo(t *testing.T) {
	l := []Line{line(1, 6, 1), line(2, 10, 2)}
	b := filled(l...)
	holds(t, b, "two lines", l...)
	for asid := range uint64(4) {
		for number := range uint64(16) {
			if asid == 1 && number == 6 || asid == 2 && number == 10 {
				continue
			}
			lacks(t, b, asid, number)
		}
	}
	// The same number for two Asids, the same Asid for two numbers, and an Asid that is the other one's number.
	for _, l := range [][]Line{{line(1, 6, 1), line(2, 6, 2)}, {line(1, 6, 1), line(1, 2, 2)}, {line(2, 6, 1), line(6, 2, 2)}} {
		holds(t, filled(l...), "two lines", l...)
		holds(t, filled(l[1], l[0]), "two lines", l[1], l[0])
	}
}

// P11.1: a line of zeros is a line.
func TestZeroLine(t *testing.T) {
	b := filled(Line{})
	holds(t, b, "a line of zeros", Line{})
	b.Drop(0, 0)
	holds(t, b, "after Drop")
	lacks(t, b, 0, 0)
}

// P11.1, and the chapter's example: a third line of a set removes the first one.
func TestPutThird(t *testing.T) {
	for _, asid := range []uint64{0, 5, math.MaxUint64} {
		b := &Tlb{}
		l := pages(asid, 0, 4, 8, 12, 16, 4)
		for i, x := range l {
			b.Put(x)
			holds(t, b, "the last two", l[max(0, i-1):i+1]...)
			if i == 2 {
				lacks(t, b, asid, 0)
			}
		}
	}
	// Lines of several Asids are in one another's way, too, even for the same number.
	l := []Line{line(1, 7, 1), line(2, 7, 2), line(3, 7, 3)}
	b := filled(l...)
	lacks(t, b, 1, 7)
	holds(t, b, "of three Asids", l[1:]...)
}

// P11.1: the set of a page is its number modulo 4, and nothing else is.
func TestSets(t *testing.T) {
	for _, a := range edges() {
		for _, c := range edges() {
			for _, d := range edges() {
				if a == c || a == d || c == d {
					continue
				}
				b := filled(line(1, a, 1), line(1, c, 2), line(1, d, 3))
				finds(t, b, line(1, c, 2))
				finds(t, b, line(1, d, 3))
				if a%4 == c%4 && a%4 == d%4 {
					lacks(t, b, 1, a)
				} else {
					finds(t, b, line(1, a, 1))
				}
			}
		}
	}
}

// P11.1, P11.3: none of eight lines, two of each set, is in another one's way; they are told in the order of the sets.
func TestFull(t *testing.T) {
	l := pages(3, 3, 6, 5, 0, 4, 1, 2, 7)
	b := filled(l...)
	full := []Line{l[3], l[4], l[2], l[5], l[1], l[6], l[0], l[7]}
	holds(t, b, "a full Tlb", full...)
	// A ninth one removes the first one of its own set alone.
	for set := range 4 {
		c := *b
		ninth := line(4, uint64(8+set), 77)
		c.Put(ninth)
		want := slices.Clone(full)
		want[2*set], want[2*set+1] = want[2*set+1], ninth
		holds(t, &c, "after a ninth line", want...)
		lacks(t, &c, full[2*set].Asid, full[2*set].Number)
	}
}

// P11.1, P11.4: a page that is there is put as the last line of its set, and removes no other line.
func TestPutAgain(t *testing.T) {
	first, second, again := line(1, 5, 1), line(2, 9, 2), line(1, 1, 3)
	beside := []Line{line(1, 4, 4), line(1, 6, 5)}
	for _, c := range []struct {
		before []Line
		put    Line
		want   []Line
	}{
		{[]Line{first}, line(1, 5, 9), []Line{line(1, 5, 9)}},
		{[]Line{first}, first, []Line{first}},
		{[]Line{first, second}, line(1, 5, 9), []Line{second, line(1, 5, 9)}},
		{[]Line{first, second}, first, []Line{second, first}},
		{[]Line{first, second}, line(2, 9, 9), []Line{first, line(2, 9, 9)}},
		{[]Line{first, second}, second, []Line{first, second}},
		{[]Line{first, second, again}, line(2, 9, 9), []Line{again, line(2, 9, 9)}},
		{[]Line{first, second, again}, first, []Line{again, first}},
	} {
		b := filled(append(slices.Clone(beside), c.before...)...)
		b.Put(c.put)
		holds(t, b, "put again", append(append(slices.Clone(beside[:1]), c.want...), beside[1])...)
	}
	// It is the last one then: the next one removes the other one.
	b := filled(first, second, first, again)
	lacks(t, b, 2, 9)
	holds(t, b, "first, again", first, again)
}

// P11.2
func TestDrop(t *testing.T) {
	l := pages(1, 0, 4, 1, 5, 2, 3)
	for i, gone := range l {
		b := filled(l...)
		for _, no := range []Line{line(2, gone.Number, 0), line(1, gone.Number+8, 0), line(1, gone.Number+1<<63, 0), line(0, 0, 0), line(1<<63+1, gone.Number, 0), line(gone.Number, 1, 0)} {
			if slices.ContainsFunc(l, func(x Line) bool { return x.Asid == no.Asid && x.Number == no.Number }) {
				continue
			}
			b.Drop(no.Asid, no.Number)
			holds(t, b, "Drop of a page that is not there", l...)
		}
		b.Drop(gone.Asid, gone.Number)
		lacks(t, b, gone.Asid, gone.Number)
		want := slices.Delete(slices.Clone(l), i, i+1)
		holds(t, b, "Drop", want...)
		b.Drop(gone.Asid, gone.Number)
		holds(t, b, "Drop, twice", want...)
	}
}

// P11.2: a line that was dropped makes room for one, behind the one that stayed.
func TestPutAfterDrop(t *testing.T) {
	for gone := range uint64(2) {
		l := pages(1, 3, 7)
		b := filled(l...)
		b.Drop(1, 3+4*gone)
		b.Put(line(1, 11, 9))
		holds(t, b, "a line in the place of a dropped one", l[1-gone], line(1, 11, 9))
		b.Put(line(1, 15, 10))
		holds(t, b, "and one more", line(1, 11, 9), line(1, 15, 10))
	}
}

// P11.2
func TestFlush(t *testing.T) {
	l := []Line{
		line(1, 0, 1), line(1, 4, 2), // both of the Asid
		line(2, 1, 3), line(1, 1, 4), // the second one
		line(1, 2, 5), line(1<<63+1, 2, 6), // the first one
		line(0, 3, 7), line(math.MaxUint64, 1<<63+3, 8), // none
	}
	for _, c := range []struct {
		asid uint64
		want []Line
	}{
		{1, []Line{l[2], l[5], l[6], l[7]}},
		{2, []Line{l[0], l[1], l[3], l[4], l[5], l[6], l[7]}},
		{1<<63 + 1, []Line{l[0], l[1], l[2], l[3], l[4], l[6], l[7]}},
		{0, []Line{l[0], l[1], l[2], l[3], l[4], l[5], l[7]}},
		{math.MaxUint64, l[:7]},
		{3, l},
		{4, l},
		{1 << 63, l},
		{1<<32 + 1, l},
		{math.MaxUint64 - 1, l},
	} {
		b := filled(l...)
		b.Flush(c.asid)
		holds(t, b, "Flush", c.want...)
		for _, x := range l {
			if x.Asid == c.asid {
				lacks(t, b, x.Asid, x.Number)
			}
		}
		b.Flush(c.asid)
		holds(t, b, "Flush, twice", c.want...)
	}
	b := filled(l...)
	b.Flush(1)
	b.Put(line(9, 5, 9))
	b.Put(line(9, 9, 10))
	holds(t, b, "two lines after Flush", line(9, 5, 9), line(9, 9, 10), l[5], l[6], l[7])
}

// P11.2
func TestClear(t *testing.T) {
	for n := range 9 {
		l := pages(1, 0, 1, 2, 3, 4, 5, 6, 7)[:n]
		b := filled(l...)
		b.Clear()
		holds(t, b, "Clear")
		for _, x := range l {
			lacks(t, b, x.Asid, x.Number)
		}
		b.Put(line(1, 7, 9))
		holds(t, b, "a line after Clear", line(1, 7, 9))
	}
}

// P11.2: what was removed is not kept anywhere.
func TestNothingKept(t *testing.T) {
	l := pages(1, 0, 1, 2, 3, 4, 5, 6, 7)
	for name, empty := range map[string]func(b *Tlb){
		"Clear": func(b *Tlb) { b.Clear() },
		"Flush": func(b *Tlb) { b.Flush(1) },
		"Drop": func(b *Tlb) {
			for _, x := range l {
				b.Drop(x.Asid, x.Number)
			}
		},
		"Evict": func(b *Tlb) {
			for i := range l {
				b.Evict(i)
			}
		},
	} {
		b := filled(l...)
		if empty(b); *b != (Tlb{}) {
			t.Errorf("%s leaves %v", name, *b)
		}
	}
	b := filled(l...)
	b.Evict(0)
	if *b != *filled(l[1:]...) {
		t.Error("what was removed from a set makes a difference")
	}
}

// modulo is a place modulo n, from 0 on, without any number that could be no int.
func modulo(place, n int) int {
	if place >= 0 {
		return place % n
	}
	return n - 1 - (-1-place)%n
}

// P11.2
func TestEvict(t *testing.T) {
	all := pages(1, 2, 1, 0, 7, 5, 4, 6, 3)
	for n := 1; n <= len(all); n++ {
		full := filled(all[:n]...)
		l := full.Lines()
		if len(l) != n {
			t.Fatalf("%d lines are %v", n, l)
		}
		places := []int{math.MinInt, math.MinInt + 1, math.MinInt + 7, math.MaxInt, math.MaxInt - 1, math.MaxInt - 7, 1 << 31, 1 << 32, -1 << 31, -1 << 32}
		for place := -3*n - 1; place <= 3*n+1; place++ {
			places = append(places, place)
		}
		for _, place := range places {
			b := *full
			b.Evict(place)
			i := modulo(place, n)
			lacks(t, &b, l[i].Asid, l[i].Number)
			holds(t, &b, "Evict", slices.Delete(slices.Clone(l), i, i+1)...)
		}
	}
}

// P11.2: the places that the document names, written out.
func TestEvictKnown(t *testing.T) {
	l := pages(1, 0, 4, 1)
	for place, gone := range map[int]int{0: 0, 1: 1, 2: 2, 3: 0, 4: 1, 5: 2, 300: 0, -1: 2, -2: 1, -3: 0, -4: 2, math.MaxInt: 1, math.MinInt: 1} {
		b := filled(l...)
		b.Evict(place)
		holds(t, b, "Evict", slices.Delete(slices.Clone(l), gone, gone+1)...)
	}
}

// P11.2: without lines, nothing is evicted.
func TestEvictNothing(t *testing.T) {
	for _, b := range []*Tlb{{}, filled(line(1, 1, 1))} {
		b.Drop(1, 1)
		for _, place := range []int{0, 1, -1, 8, math.MinInt, math.MaxInt} {
			b.Evict(place)
			holds(t, b, "Evict of nothing")
		}
	}
}

// P11.3: for each number of lines that each set can have; what is put first is neither in the first set, nor does it have the lowest number.
func TestLines(t *testing.T) {
	for counts := range 3 * 3 * 3 * 3 {
		var sets [4][]Line
		for set := range sets {
			sets[set] = pages(1, uint64(set+8), uint64(set+4))[:counts%3]
			counts /= 3
		}
		b := &Tlb{}
		for i := range 2 {
			for _, l := range slices.Backward(sets[:]) {
				if i < len(l) {
					b.Put(l[i])
				}
			}
		}
		holds(t, b, "Lines", slices.Concat(sets[:]...)...)
		if got := b.Lines(); cap(got) != len(got) {
			t.Errorf("%d lines have the capacity %d", len(got), cap(got))
		}
	}
}

// P11.3: what Lines returned is the caller's.
func TestLinesAreNew(t *testing.T) {
	for n := range 9 {
		want := pages(1, 0, 1, 2, 3, 4, 5, 6, 7)[:n]
		b := filled(want...)
		want = b.Lines()
		got := b.Lines()
		if cap(got) != n {
			t.Errorf("%d lines have the capacity %d", n, cap(got))
		}
		more := append(got, line(7, 7, 7), line(8, 8, 8))
		for i := range got {
			got[i] = line(9, 9, 9)
		}
		for i := range more {
			more[i].Number = 99
		}
		holds(t, b, "after changes of what was returned", want...)
		// Nor does the Tlb change what it returned.
		b.Clear()
		b.Put(line(5, 5, 5))
		for i, l := range got {
			if l != line(9, 9, 9) {
				t.Errorf("the line %d of what was returned is %v", i, l)
			}
		}
	}
}

// model is the lines in the order in which they were put.
type model []Line

func (m *model) remove(gone func(l Line) bool) {
	*m = slices.DeleteFunc(*m, gone)
}

func (m *model) drop(asid, number uint64) {
	m.remove(func(l Line) bool { return l.Asid == asid && l.Number == number })
}

func (m *model) put(l Line) {
	m.drop(l.Asid, l.Number)
	*m = append(*m, l)
	var same []Line
	for _, x := range *m {
		if x.Number&3 == l.Number&3 {
			same = append(same, x)
		}
	}
	if len(same) > 2 {
		m.drop(same[0].Asid, same[0].Number)
	}
}

func (m *model) lines() []Line {
	var l []Line
	for set := range uint64(4) {
		for _, x := range *m {
			if x.Number&3 == set {
				l = append(l, x)
			}
		}
	}
	return l
}

// P11.1 to P11.4: many steps in a row, after each of which the lines are those of a model, and each page's is the one that was put last.
func TestModel(t *testing.T) {
	var b Tlb
	var m model
	seed := uint64(4711)
	next := func(below uint64) uint64 {
		seed = seed*6364136223846793005 + 1442695040888963407
		return (seed >> 33) % below
	}
	asids := []uint64{0, 1, 1 << 63, math.MaxUint64}
	numbers := []uint64{0, 1, 2, 3, 4, 5, 8, 12, 1 << 40, 1<<40 + 1, math.MaxUint64, math.MaxUint64 - 1}
	last := map[[2]uint64]Line{}
	counts := map[int]int{}
	for step := range uint64(30000) {
		asid, number := asids[next(4)], numbers[next(12)]
		switch next(40) {
		default:
			l := line(asid, number, step)
			last[[2]uint64{asid, number}] = l
			b.Put(l)
			m.put(l)
		case 0, 1, 2, 3, 4, 5:
			b.Drop(asid, number)
			m.drop(asid, number)
		case 6, 7, 8:
			b.Flush(asid)
			m.remove(func(l Line) bool { return l.Asid == asid })
		case 9:
			b.Clear()
			m = nil
		case 10, 11, 12, 13:
			place := int(next(1<<31)<<33 ^ next(1<<31)<<2 ^ next(4)) // a half of them are negative
			b.Evict(place)
			if l := m.lines(); len(l) > 0 {
				gone := l[modulo(place, len(l))]
				m.drop(gone.Asid, gone.Number)
			}
		}
		got := b.Lines()
		counts[len(got)]++
		if !slices.Equal(got, m.lines()) {
			t.Fatalf("step %d: the lines are %v, want %v", step, got, m.lines())
		}
		if looks(t, &b, got, last, asids, numbers); t.Failed() {
			t.Fatalf("step %d", step)
		}
	}
	for n := range 9 {
		if counts[n] < 10 {
			t.Errorf("%d lines were there %d times", n, counts[n])
		}
	}
}

// looks reports an error if a page has two lines, or not the one that was put last, or if Look tells something else than Lines.
func looks(t *testing.T, b *Tlb, lines []Line, last map[[2]uint64]Line, asids, numbers []uint64) {
	t.Helper()
	for _, asid := range asids {
		for _, number := range numbers {
			n := 0
			for _, l := range lines {
				if l.Asid == asid && l.Number == number {
					n++
				}
			}
			switch n {
			case 0:
				lacks(t, b, asid, number)
			case 1:
				finds(t, b, last[[2]uint64{asid, number}])
			default:
				t.Errorf("%d lines for the page %x of %x", n, number, asid)
			}
		}
	}
}
