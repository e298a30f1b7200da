package wal

import (
	"fmt"
	"math"
	"math/rand"
	"slices"
	"testing"

	"turnstile/api"
	"turnstile/disk"
)

// crash is what a crash leaves of a model's files.
func (m *model) crash(keep ...int) {
	for i, f := range m.files {
		kept := 0
		if i < len(keep) {
			kept = min(max(keep[i], 0), len(f.text)-f.sure)
		}
		m.files[i] = stays(f.text[:f.sure+kept])
	}
}

// found are the records whose whole frames stand at the beginning of s, told by hand.
func found(s string) []string {
	var records []string
	for {
		if len(s) < 11 {
			return records
		}
		n := int(s[0])*256 + int(s[1])
		if n < 1 || n > 4096 || len(s) < n+10 || s[:n+10] != frame(s[2:n+2]) {
			return records
		}
		records = append(records, s[2:n+2])
		s = s[n+10:]
	}
}

// P14.4

// The chapter's example.
func TestExample(t *testing.T) {
	d, _ := disk.New(2, 1000)
	l, _ := Open(d)
	for i, e := range []api.Errno{l.Append("a"), l.Sync(), l.Append("b")} {
		if e != api.OK {
			t.Errorf("call %d: %d", i, int(e))
		}
	}
	d.Crash([]int{3})
	opens(t, "behind the crash", d, 1000, []string{"a"})
}

// What was sure is told, and of what is behind just those whose frames stay whole.
func TestACrashBehindAppends(t *testing.T) {
	all := []string{"one", "\x00", text(40), "last"}
	for sure := range len(all) + 1 {
		l, d, m := logOf(t, 1000)
		for i, s := range all {
			if i == sure {
				l.Sync()
			}
			l.Append(s)
		}
		if sure == len(all) {
			l.Sync()
		}
		m.records, m.sure = all, sure
		m.files[0] = held{framed(all...), len(framed(all[:sure]...))}
		tells(t, fmt.Sprintf("%d are sure", sure), l, d, m)
		for _, k := range append(upTo(len(framed(all[sure:]...))+2), -1, math.MinInt, math.MaxInt) {
			records := all[:sure]
			for len(records) < len(all) && k >= len(framed(all[sure:len(records)+1]...)) {
				records = all[:len(records)+1]
			}
			behind := d.Copy()
			behind.Crash([]int{k, 9})
			name := fmt.Sprintf("%d are sure, of the rest %d bytes stay", sure, k)
			opens(t, name, behind, 1000, records)
			behind.Crash(nil)
			opens(t, name+", and another crash", behind, 1000, records)
		}
		tells(t, "what a copy's crash leaves alone", l, d, m)
	}
}

// upTo are the numbers from 0 on, below n.
func upTo(n int) []int {
	all := make([]int, n)
	for i := range all {
		all[i] = i
	}
	return all
}

// Behind fewer than three steps the old records are told, behind others the new ones, whatever stays.
func TestACrashBehindEachStep(t *testing.T) {
	for _, old := range [][]string{nil, {"a"}, {"old", "\x00"}} {
		for _, recs := range [][]string{nil, {"a"}, {"new", "\x00\x00", text(20)}} {
			for steps := range 6 {
				l, d, m := logOf(t, 1000, old...)
				answers(t, "Rewrite", l, d, m, l.Rewrite(recs, steps), m.rewritten(recs, steps))
				records := old
				if steps >= 3 {
					records = recs
				}
				for _, k := range append(upTo(len(framed(recs...))+2), -1, math.MaxInt) {
					for _, first := range []int{0, k} {
						behind := d.Copy()
						behind.Crash([]int{first, k})
						name := fmt.Sprintf("%s as %s in %d steps, then a crash that keeps %d, %d", brief(old...), brief(recs...), steps, first, k)
						opens(t, name, behind, m.room, records)
					}
				}
				behind := d.Copy()
				behind.Crash(nil)
				opens(t, "a crash that keeps nothing", behind, m.room, records)
			}
		}
	}
}

// What is written behind Rewrite is lost or kept as behind Open.
func TestACrashBehindAppendsToWhatWasWrittenAnew(t *testing.T) {
	for k := range 30 {
		l, d, m := logOf(t, 1000, "a", "b")
		l.Rewrite([]string{"c"}, 4)
		l.Append("d")
		l.Append("e")
		records := []string{"c", "d", "e"}[:1+min(k/11, 2)]
		d.Crash([]int{k})
		opens(t, fmt.Sprintf("%d bytes stay", k), d, m.room, records)
	}
}

// The open log does not change what a crash, and an Open, told of a copy.
func TestACopyOfTheDiskGoesItsOwnWay(t *testing.T) {
	l, d, m := logOf(t, 1000, "a")
	behind := d.Copy()
	other, n := opens(t, "a copy", behind, m.room, []string{"a"})
	m.records, m.files[0].text = []string{"a", "b"}, framed("a", "b")
	answers(t, "Append", l, d, m, l.Append("b"), api.OK)
	tells(t, "the copy's log", other, behind, n)
	answers(t, "Rewrite of the copy's", other, behind, n, other.Rewrite([]string{"c"}, 4), n.rewritten([]string{"c"}, 4))
	tells(t, "the original's log", l, d, m)
}

// walk is a log, its disk and its model on their way.
type walk struct {
	log  *Log
	disk *disk.Disk
	m    *model
}

// anyText is a record by chance, and seldom none.
func anyText(r *rand.Rand) string {
	switch r.Intn(20) {
	case 0:
		return ""
	case 1:
		return text(4097)
	case 2:
		return text(4096)
	case 3:
		return string(make([]byte, r.Intn(5)))
	}
	return text(1 + r.Intn(60))
}

// isOne tells whether s may be a record.
func isOne(s string) bool { return s != "" && len(s) <= 4096 }

// append does Append on both.
func (w *walk) append(t *testing.T, name, s string) {
	want := api.OK
	switch {
	case w.m.halted:
		want = api.ErrState
	case !isOne(s):
		want = api.ErrArg
	case len(s)+10 > w.m.free():
		want = api.ErrFull
	default:
		w.m.records = append(slices.Clone(w.m.records), s)
		w.m.files[0].text += frame(s)
	}
	answers(t, name+" Append of "+brief(s), w.log, w.disk, w.m, w.log.Append(s), want)
}

// sync does Sync on both.
func (w *walk) sync(t *testing.T, name string) {
	want := api.ErrState
	if !w.m.halted {
		want = api.OK
		w.m.sure, w.m.files[0].sure = len(w.m.records), len(w.m.files[0].text)
	}
	answers(t, name+" Sync", w.log, w.disk, w.m, w.log.Sync(), want)
}

// rewrite does Rewrite on both.
func (w *walk) rewrite(t *testing.T, name string, recs []string, steps int) {
	var want api.Errno
	switch {
	case w.m.halted || w.m.sure < len(w.m.records):
		want = api.ErrState
	case steps < 0 || slices.ContainsFunc(recs, func(s string) bool { return !isOne(s) }):
		want = api.ErrArg
	case steps > 0 && len(framed(recs...)) > w.m.free():
		want = api.ErrFull
	default:
		want = w.m.rewritten(recs, steps)
	}
	answers(t, fmt.Sprintf("%s Rewrite as %s in %d steps", name, brief(recs...), steps), w.log, w.disk, w.m, w.log.Rewrite(recs, steps), want)
}

// crash lets the disk crash, and opens the log again.
func (w *walk) crash(t *testing.T, name string, keep ...int) {
	w.disk.Crash(keep)
	w.m.crash(keep...)
	records := found(w.m.files[0].text)
	w.log, w.m = opens(t, fmt.Sprintf("%s Crash(%v)", name, keep), w.disk, w.m.room, records)
}

// anyRecords are up to four records by chance.
func anyRecords(r *rand.Rand) []string {
	var recs []string
	for range r.Intn(5) {
		recs = append(recs, text(1+r.Intn(40)))
	}
	if r.Intn(10) == 0 {
		recs = append(recs, anyText(r))
	}
	return recs
}

func TestWaysByChance(t *testing.T) {
	for seed := range int64(60) {
		r := rand.New(rand.NewSource(seed))
		room := []int{0, 10, 11, 100, 400, 1000, 5000, 20000}[r.Intn(8)]
		d := diskOf(t, room, held{}, held{})
		l, m := opens(t, "new", d, room, nil)
		w := &walk{l, d, m}
		for i := range 80 {
			name := fmt.Sprintf("seed %d, call %d:", seed, i)
			switch n := r.Intn(20); {
			case n < 9:
				w.append(t, name, anyText(r))
			case n < 13:
				w.sync(t, name)
			case n < 16:
				w.rewrite(t, name, anyRecords(r), 4+r.Intn(2))
			case n < 17:
				w.rewrite(t, name, anyRecords(r), r.Intn(6)-1)
			default:
				w.crash(t, name, r.Intn(40)-2, r.Intn(80)-2)
			}
			if t.Failed() {
				return
			}
		}
	}
}

// Behind each crash there is what was sure, and the first ones of those behind it, or what was laid instead.
func TestWhatOpenTellsByChance(t *testing.T) {
	for seed := range int64(40) {
		r := rand.New(rand.NewSource(seed))
		d := diskOf(t, 3000, held{}, held{})
		l, _ := Open(d)
		for i := range 60 {
			old, sure, laid := l.Records(), l.Sure(), []string(nil)
			halted := false
			switch r.Intn(4) {
			case 0, 1:
				l.Append(text(1 + r.Intn(30)))
				old = l.Records()
			case 2:
				l.Sync()
				sure = l.Sure()
			default:
				laid = anyRecords(r)
				halted = l.Rewrite(laid, r.Intn(5)) == api.ErrState && l.Halted()
				if !halted {
					old, sure = l.Records(), l.Sure()
				}
			}
			if !halted && r.Intn(3) > 0 {
				continue
			}
			d.Crash([]int{r.Intn(100), r.Intn(100)})
			l, _ = Open(d)
			got := l.Records()
			isOld := len(got) >= sure && len(got) <= len(old) && slices.Equal(got, old[:len(got)])
			isLaid := halted && slices.Equal(got, laid)
			if !isOld && !isLaid || l.Sure() != len(got) || l.Halted() {
				t.Fatalf("seed %d, call %d: %s; of %s the first %d were sure, laid were %s", seed, i, brief(got...), brief(old...), sure, brief(laid...))
			}
		}
	}
}

func TestAnswersAreTheSameEachTime(t *testing.T) {
	told := func() string {
		d, _ := disk.New(2, 200)
		l, _ := Open(d)
		all := ""
		for i := range 30 {
			all += fmt.Sprint(int(l.Append(text(i))), int(l.Sync()), l.Records(), l.Sure())
			all += fmt.Sprint(int(l.Rewrite(l.Records()[:l.Sure()/2], 4)), l.Records(), l.Halted(), d.Read(0), Frame(text(i)))
		}
		return all
	}
	first := told()
	for range 3 {
		if told() != first {
			t.Error("what was told is not the same")
		}
	}
}
