package disk

import (
	"fmt"
	"math"
	"math/rand"
	"slices"
	"strings"
	"testing"

	"turnstile/api"
)

// crash is what a crash leaves of a model, byte by byte.
func (m *model) crash(keep []int) {
	for i := range m.files {
		f := &m.files[i]
		stays := f.text[:f.sure]
		for n, b := range []byte(f.text[f.sure:]) {
			if i < len(keep) && n < keep[i] {
				stays += string([]byte{b})
			}
		}
		*f = held{text: stays, sure: len(stays)}
	}
}

// crashes lets a disk crash, and holds it against its model.
func crashes(t *testing.T, name string, d *Disk, m *model, keep []int) {
	t.Helper()
	d.Crash(keep)
	m.crash(keep)
	tells(t, fmt.Sprintf("%s: Crash(%v)", name, keep), d, m)
}

// P13.3

func TestCrash(t *testing.T) {
	for _, x := range []struct {
		keep []int
		want [3]string
		free int
	}{
		{nil, [3]string{"abcd", "123", ""}, 13},
		{[]int{}, [3]string{"abcd", "123", ""}, 13},
		{[]int{0}, [3]string{"abcd", "123", ""}, 13},
		{[]int{1}, [3]string{"abcde", "123", ""}, 12},
		{[]int{2}, [3]string{"abcdef", "123", ""}, 11},
		{[]int{3}, [3]string{"abcdefg", "123", ""}, 10},
		{[]int{4}, [3]string{"abcdefg", "123", ""}, 10},
		{[]int{7}, [3]string{"abcdefg", "123", ""}, 10},
		{[]int{math.MaxInt}, [3]string{"abcdefg", "123", ""}, 10},
		{[]int{-1, -1, -1}, [3]string{"abcd", "123", ""}, 13},
		{[]int{math.MinInt, math.MinInt, math.MinInt}, [3]string{"abcd", "123", ""}, 13},
		{[]int{-5, 9, 1}, [3]string{"abcd", "123", "x"}, 12},
		{[]int{0, 0, 0}, [3]string{"abcd", "123", ""}, 13},
		{[]int{1, 1, 1}, [3]string{"abcde", "123", "x"}, 11},
		{[]int{1, 1}, [3]string{"abcde", "123", ""}, 12},
		{[]int{3, 0, 3}, [3]string{"abcdefg", "123", "xyz"}, 7},
		{[]int{math.MaxInt, math.MaxInt, math.MaxInt}, [3]string{"abcdefg", "123", "xyz"}, 7},
		{[]int{2, 0, 2, 9, 9, -1}, [3]string{"abcdef", "123", "xy"}, 9},
		{[]int{0, 0, 0, 9}, [3]string{"abcd", "123", ""}, 13},
		{make([]int, 1000), [3]string{"abcd", "123", ""}, 13},
	} {
		d, m := three(t)
		for i, s := range x.want {
			m.files[i] = held{text: s, sure: len(s)}
		}
		name := fmt.Sprintf("Crash(%v)", x.keep)
		d.Crash(x.keep)
		tells(t, name, d, m)
		if d.Free() != x.free {
			t.Errorf("%s: Free = %d; want %d", name, d.Free(), x.free)
		}
		// All is sure: nothing more is lost.
		d.Crash(nil)
		tells(t, name+", and another one", d, m)
		answers(t, name+", then Swap", d, m, d.Swap(1, 1), api.OK)
	}
}

func TestCrashOfAllNumbersOfTwoFiles(t *testing.T) {
	for a := -2; a < 6; a++ {
		for b := -2; b < 6; b++ {
			d, m := holding(t, 0, part{"ab", "cde"}, part{"", "1234"})
			crashes(t, "two files", d, m, []int{a, b})
			m.files[0].text += "XY"
			want := api.OK
			if m.free() < 0 {
				m.files[0].text = strings.TrimSuffix(m.files[0].text, "XY")
				want = api.ErrFull
			}
			answers(t, "Append behind it", d, m, d.Append(0, "XY"), want)
		}
	}
}

func TestCrashOfANewDisk(t *testing.T) {
	for _, keep := range [][]int{nil, {0}, {5, 5}, {-1, 5, 5, 5}} {
		d, m := made(t, 2, 10)
		crashes(t, "new", d, m, keep)
	}
}

// keeps are the first so many of a longer slice, that a crash must leave as it is.
func keeps() (all, keep []int) {
	all = []int{2, -3, 99, 5, 6}
	return all, all[:2]
}

func TestCrashLeavesItsSliceAlone(t *testing.T) {
	d, m := three(t)
	all, keep := keeps()
	m.crash([]int{2, -3})
	d.Crash(keep)
	tells(t, "Crash", d, m)
	if want, _ := keeps(); !slices.Equal(all, want) {
		t.Errorf("the slice is %v; want %v", all, want)
	}
	for i := range all {
		all[i] = 1000
	}
	tells(t, "the slice changed", d, m)
	m.files[0].text += "hi"
	answers(t, "Append, the slice changed", d, m, d.Append(0, "hi"), api.OK)
	// The slice that was handed in first has no say in another crash.
	crashes(t, "another", d, m, []int{1})
}

// change is a call that changes a disk, and what it changes in a model.
type change struct {
	name string
	do   func(d *Disk) api.Errno
	on   func(m *model)
}

// changes are all kinds of calls that change three.
func changes() []change {
	crash := func(keep ...int) change {
		return change{fmt.Sprintf("Crash(%v)", keep), func(d *Disk) api.Errno { d.Crash(keep); return api.OK }, func(m *model) { m.crash(keep) }}
	}
	return []change{
		{"Append", func(d *Disk) api.Errno { return d.Append(0, "new") }, func(m *model) { m.files[0].text += "new" }},
		{"Append to what is sure", func(d *Disk) api.Errno { return d.Append(1, "NEWER") }, func(m *model) { m.files[1].text += "NEWER" }},
		{"Sync", func(d *Disk) api.Errno { return d.Sync(2) }, func(m *model) { m.files[2].sure = len(m.files[2].text) }},
		{"Cut", func(d *Disk) api.Errno { return d.Cut(0, 2) }, func(m *model) { m.files[0] = held{"ab", 2} }},
		{"Cut between", func(d *Disk) api.Errno { return d.Cut(0, 5) }, func(m *model) { m.files[0] = held{"abcde", 5} }},
		{"Swap", func(d *Disk) api.Errno { d.Sync(0); return d.Swap(0, 1) }, func(m *model) {
			m.files[0].sure = len(m.files[0].text)
			m.files[0], m.files[1] = m.files[1], m.files[0]
		}},
		crash(), crash(1, 0, 2), crash(9, 9, 9),
	}
}

// Each change on the copy, and each on the original, one ahead of the other and behind it.
func TestCopyGoesItsOwnWay(t *testing.T) {
	for _, x := range changes() {
		for _, y := range changes() {
			d, m := three(t)
			c, n := d.Copy(), m.copy()
			name := fmt.Sprintf("%s on the copy, %s on the original", x.name, y.name)
			tells(t, "a copy", c, n)
			x.on(n)
			answers(t, name, c, n, x.do(c), api.OK)
			tells(t, name+": the original, ahead of its change", d, m)
			y.on(m)
			answers(t, name, d, m, y.do(d), api.OK)
			tells(t, name+": the copy, at the end", c, n)

			d, m = three(t)
			c, n = d.Copy(), m.copy()
			name = fmt.Sprintf("%s on the original, %s on the copy", y.name, x.name)
			y.on(m)
			answers(t, name, d, m, y.do(d), api.OK)
			tells(t, name+": the copy, ahead of its change", c, n)
			x.on(n)
			answers(t, name, c, n, x.do(c), api.OK)
			tells(t, name+": the original, at the end", d, m)
		}
	}
}

// Behind a cut and a crash there may be spare room, that no copy may share.
func TestCopiesShareNoSpareRoom(t *testing.T) {
	for _, x := range changes() {
		d, m := holding(t, 30, part{"abcd", "efg"}, part{"123", ""}, part{"", "xyz"})
		x.on(m)
		answers(t, x.name, d, m, x.do(d), api.OK)
		c, n := d.Copy(), m.copy()
		b, k := c.Copy(), n.copy()
		for i, s := range []string{"!", "?", "."} {
			m.files[i].text += s
			answers(t, x.name+", Append to the original", d, m, d.Append(i, s), api.OK)
			tells(t, x.name+", the copy", c, n)
			n.files[i].text += s + s
			answers(t, x.name+", Append to the copy", c, n, c.Append(i, s+s), api.OK)
			tells(t, x.name+", the original", d, m)
			tells(t, x.name+", the copy's copy", b, k)
			k.files[i].text += "b"
			answers(t, x.name+", Append to the copy's copy", b, k, b.Append(i, "b"), api.OK)
			m.files[i] = held{}
			answers(t, x.name+", Cut of the original", d, m, d.Cut(i, 0), api.OK)
		}
		tells(t, x.name+", the copy, at the end", c, n)
		tells(t, x.name+", the copy's copy, at the end", b, k)
	}
}

func TestCopyOfADiskOfAllSizes(t *testing.T) {
	for n := 1; n <= 8; n++ {
		for _, room := range []int{0, 9, 1 << 24} {
			d, m := made(t, n, room)
			c := d.Copy()
			tells(t, "a copy", c, m)
			answers(t, "one too many", c, m, c.Append(n-1, strings.Repeat("a", room+1)), api.ErrFull)
			answers(t, "Append to no file", c, m, c.Append(n, ""), api.ErrArg)
		}
	}
}

// P13.4

// What is sure stays, and of the rest the first part: by what Read told ahead of the crash.
func TestWhatStaysBehindACrash(t *testing.T) {
	r := rand.New(rand.NewSource(4))
	for range 2000 {
		d, _ := three(t)
		for range r.Intn(12) {
			byChance(r, d)
		}
		before := d.Copy()
		keep := keepByChance(r)
		d.Crash(keep)
		for i := range 3 {
			now, then, sure := d.Read(i), before.Read(i), before.Sure(i)
			if !strings.HasPrefix(now, then[:sure]) || !strings.HasPrefix(then, now) || d.Sure(i) != len(now) {
				t.Fatalf("of %q, of which %d are sure, Crash(%v) leaves %q, of which %d are", then, sure, keep, now, d.Sure(i))
			}
		}
	}
}

// keepByChance are up to five numbers.
func keepByChance(r *rand.Rand) []int {
	var keep []int
	for range r.Intn(6) {
		keep = append(keep, r.Intn(9)-2)
	}
	return keep
}

// byChance does one thing to a disk.
func byChance(r *rand.Rand, d *Disk) {
	switch r.Intn(5) {
	case 0, 1:
		d.Append(r.Intn(5)-1, text(60)[r.Intn(30):][:r.Intn(5)])
	case 2:
		d.Sync(r.Intn(5) - 1)
	case 3:
		d.Cut(r.Intn(5)-1, r.Intn(14)-1)
	default:
		d.Swap(r.Intn(5)-1, r.Intn(5)-1)
	}
}

// walker goes ways by chance, on disks and their models.
type walker struct {
	r      *rand.Rand
	disks  []*Disk
	models []*model
	told   map[string]int // how often which call told what
}

// has tells whether a model has such a file.
func (m *model) has(f int) bool { return f >= 0 && f < len(m.files) }

// isSure tells whether all bytes of a model's file are.
func (m *model) isSure(f int) bool { return m.files[f].sure == len(m.files[f].text) }

// append, sync, cut and swap do to a model what a disk's calls must.
func (m *model) append(f int, s string) api.Errno {
	switch {
	case !m.has(f):
		return api.ErrArg
	case len(s) > m.free():
		return api.ErrFull
	}
	m.files[f].text += s
	return api.OK
}

func (m *model) sync(f int) api.Errno {
	if !m.has(f) {
		return api.ErrArg
	}
	m.files[f].sure = len(m.files[f].text)
	return api.OK
}

func (m *model) cut(f, n int) api.Errno {
	if !m.has(f) || n < 0 || n > len(m.files[f].text) {
		return api.ErrArg
	}
	m.files[f] = held{text: m.files[f].text[:n], sure: n}
	return api.OK
}

func (m *model) swap(a, b int) api.Errno {
	switch {
	case !m.has(a) || !m.has(b):
		return api.ErrArg
	case !m.isSure(a) || !m.isSure(b):
		return api.ErrState
	}
	m.files[a], m.files[b] = m.files[b], m.files[a]
	return api.OK
}

// step does one thing, to the i-th disk.
func (w *walker) step(t *testing.T, i int) {
	d, m := w.disks[i], w.models[i]
	f, n := w.r.Intn(len(m.files)+2)-1, w.r.Intn(30)-1
	call, got, want := "", api.OK, api.OK
	switch w.r.Intn(16) {
	case 0, 1, 2, 3, 4:
		s := text(60)[w.r.Intn(30):][:w.r.Intn(30)]
		call, got, want = "Append", d.Append(f, s), m.append(f, s)
	case 5, 6, 7:
		call, got, want = "Sync", d.Sync(f), m.sync(f)
	case 8, 9, 10:
		call, got, want = "Cut", d.Cut(f, n), m.cut(f, n)
	case 11, 12, 13:
		g := w.r.Intn(len(m.files)+2) - 1
		call, got, want = "Swap", d.Swap(f, g), m.swap(f, g)
	case 14:
		keep := keepByChance(w.r)
		call = "Crash"
		d.Crash(keep)
		m.crash(keep)
	default:
		other := w.r.Intn(len(w.disks))
		call = "Copy"
		w.disks[other], w.models[other] = d.Copy(), m.copy()
	}
	w.told[fmt.Sprintf("%s %d", call, int(got))]++
	answers(t, call+", by chance", d, m, got, want)
}

func TestWaysByChance(t *testing.T) {
	told := map[string]int{}
	for round := range 40 {
		w := &walker{r: rand.New(rand.NewSource(int64(round))), told: told}
		for range 3 {
			d, m := made(t, 1+round%8, 20+round*7)
			w.disks, w.models = append(w.disks, d), append(w.models, m)
		}
		for range 200 {
			w.step(t, w.r.Intn(3))
			if t.Failed() {
				t.FailNow()
			}
		}
		for i := range w.disks {
			tells(t, "at the end", w.disks[i], w.models[i])
		}
	}
	for _, x := range []string{"Append 0", "Append 1", "Append 9", "Sync 0", "Sync 1", "Cut 0", "Cut 1", "Swap 0", "Swap 1", "Swap 8", "Crash 0", "Copy 0"} {
		if told[x] < 50 {
			t.Errorf("%s is told %d times", x, told[x])
		}
	}
}

func TestAnswersAreTheSameEachTime(t *testing.T) {
	for seed := range 50 {
		first, _ := three(t)
		second, _ := three(t)
		for _, d := range []*Disk{first, second} {
			r := rand.New(rand.NewSource(int64(seed)))
			for range 20 {
				byChance(r, d)
			}
			d.Crash(keepByChance(r))
		}
		for i := range 3 {
			if first.Read(i) != second.Read(i) || first.Read(i) != first.Read(i) || first.Sure(i) != second.Sure(i) || first.Free() != second.Free() {
				t.Errorf("the same calls lead to other disks")
			}
		}
	}
}

// The chapter's example.

func TestExample(t *testing.T) {
	d, e := New(1, 10)
	if e != api.OK || d.Append(0, "ab") != api.OK || d.Sync(0) != api.OK || d.Append(0, "cd") != api.OK {
		t.Fatal("the disk does not take four bytes")
	}
	d.Crash([]int{1})
	if d.Read(0) != "abc" || d.Sure(0) != 3 || d.Free() != 7 {
		t.Errorf("Read(0), Sure(0), Free = %q, %d, %d; want abc, 3, 7", d.Read(0), d.Sure(0), d.Free())
	}
}
