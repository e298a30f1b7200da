package wal

import (
	"fmt"
	"math"
	"slices"
	"testing"

	"turnstile/api"
	"turnstile/disk"
)

// rewritten is what must be told behind so many steps of Rewrite, which there is room for.
func (m *model) rewritten(recs []string, steps int) api.Errno {
	old, anew := m.files[0], stays(framed(recs...))
	switch steps {
	case 0:
	case 1:
		m.files[1] = held{anew.text, 0}
	case 2:
		m.files[1] = anew
	case 3:
		m.files[0], m.files[1] = anew, old
	default:
		m.files[0], m.files[1] = anew, held{}
		m.records, m.sure = recs, len(recs)
		return api.OK
	}
	m.halted = true
	return api.ErrState
}

// stepsOfAllKinds are numbers of steps, below all and above all too.
func stepsOfAllKinds() []int { return []int{0, 1, 2, 3, 4, 5, 6, 100, math.MaxInt} }

// lists are records to begin with, and to lay instead.
func lists() [][]string {
	return [][]string{nil, {}, {"a"}, {"b", "c"}, {"a", "a", "\x00"}, {text(4096)}, {text(4095), "b", text(300), frame("ab")}}
}

// refuses holds that a halted log answers ErrState to all, and that nothing changes; ErrState comes ahead of all other errors.
func refuses(t *testing.T, name string, l *Log, d *disk.Disk, m *model) {
	t.Helper()
	for range 2 {
		for _, s := range []string{"a", "", text(4096), text(4097), text(1 << 16)} {
			answers(t, fmt.Sprintf("%s, then Append of %d bytes", name, len(s)), l, d, m, l.Append(s), api.ErrState)
		}
		answers(t, name+", then Sync", l, d, m, l.Sync(), api.ErrState)
		for _, steps := range append(stepsOfAllKinds(), -1, math.MinInt) {
			for _, recs := range [][]string{nil, {"a"}, {""}, {"a", text(4097)}, m.records} {
				answers(t, fmt.Sprintf("%s, then Rewrite of %s in %d steps", name, brief(recs...), steps), l, d, m, l.Rewrite(recs, steps), api.ErrState)
			}
		}
	}
}

// P14.3

func TestRewrite(t *testing.T) {
	for _, old := range lists() {
		for _, recs := range lists() {
			for _, steps := range stepsOfAllKinds() {
				name := fmt.Sprintf("Rewrite of %s as %s in %d steps", brief(old...), brief(recs...), steps)
				l, d, m := logOf(t, 20000, old...)
				want := m.rewritten(recs, steps)
				answers(t, name, l, d, m, l.Rewrite(recs, steps), want)
				if m.halted {
					refuses(t, name, l, d, m)
				}
				records := old
				if steps >= 3 {
					records = recs
				}
				opens(t, name+", opened", d, m.room, records)
			}
		}
	}
}

// The steps one by one, with what stands in both files behind them.
func TestWhatStandsBehindEachStep(t *testing.T) {
	old, anew := "\x00\x01a\x45\xfc\xf0\xe9\x83\x6d\x3d\x3d", "\x00\x02ab\xa4\x1f\xa8\x8c\xb9\xce\x89\xc5"
	for steps, x := range []struct {
		e       api.Errno
		files   [2]held
		records []string
		halted  bool
	}{
		{api.ErrState, [2]held{{old, 11}, {"", 0}}, []string{"a"}, true},
		{api.ErrState, [2]held{{old, 11}, {anew, 0}}, []string{"a"}, true},
		{api.ErrState, [2]held{{old, 11}, {anew, 12}}, []string{"a"}, true},
		{api.ErrState, [2]held{{anew, 12}, {old, 11}}, []string{"a"}, true},
		{api.OK, [2]held{{anew, 12}, {"", 0}}, []string{"ab"}, false},
		{api.OK, [2]held{{anew, 12}, {"", 0}}, []string{"ab"}, false},
	} {
		l, d, _ := logOf(t, 12, "a")
		m := &model{records: x.records, sure: 1, halted: x.halted, files: x.files[:], room: 23}
		answers(t, fmt.Sprintf("%d steps", steps), l, d, m, l.Rewrite([]string{"ab"}, steps), x.e)
	}
}

// A log that was written anew goes on, and can be written anew again.
func TestALogGoesOnBehindRewrite(t *testing.T) {
	l, d, m := logOf(t, 20000, "a")
	for i, recs := range append(lists(), lists()...) {
		name := fmt.Sprintf("the one numbered %d", i)
		answers(t, name, l, d, m, l.Rewrite(recs, 4), m.rewritten(recs, 4))
		s := text(i + 1)
		m.records = append(slices.Clone(recs), s)
		m.files[0].text += frame(s)
		answers(t, name+", then Append", l, d, m, l.Append(s), api.OK)
		answers(t, name+", then Rewrite of what is not sure", l, d, m, l.Rewrite(recs, 4), api.ErrState)
		m.sure, m.files[0].sure = len(m.records), len(m.files[0].text)
		answers(t, name+", then Sync", l, d, m, l.Sync(), api.OK)
	}
	opens(t, "opened", d, m.room, m.records)
}

func TestRewriteOfTheSameRecords(t *testing.T) {
	for _, steps := range stepsOfAllKinds() {
		l, d, m := logOf(t, 100, "a", "bc")
		answers(t, fmt.Sprintf("%d steps", steps), l, d, m, l.Rewrite(l.Records(), steps), m.rewritten([]string{"a", "bc"}, steps))
	}
}

// Nothing changes, also in what comes behind: the log is not halted.
func TestRewriteOfStepsBelow0(t *testing.T) {
	for _, recs := range [][]string{nil, {"b"}, {""}, {text(200)}} {
		for _, steps := range []int{-1, -2, -4, -5, math.MinInt} {
			l, d, m := logOf(t, 50, "a")
			name := fmt.Sprintf("%s in %d steps", brief(recs...), steps)
			answers(t, name, l, d, m, l.Rewrite(recs, steps), api.ErrArg)
			answers(t, name+", then another", l, d, m, l.Rewrite([]string{"b"}, 4), m.rewritten([]string{"b"}, 4))
		}
	}
}

func TestRewriteAsNoRecords(t *testing.T) {
	for _, none := range notRecords() {
		for _, recs := range [][]string{{none}, {none, "b"}, {"b", none}, {"b", none, "c"}, {none, none}, {text(60), none}} {
			// With no step at all too, and where the others would find no room.
			for _, steps := range []int{0, 1, 3, 4, 5, -1} {
				l, d, m := logOf(t, 50, "a")
				name := fmt.Sprintf("%s in %d steps", brief(recs...), steps)
				answers(t, name, l, d, m, l.Rewrite(recs, steps), api.ErrArg)
				m.records, m.files[0].text = []string{"a", "d"}, framed("a", "d")
				answers(t, name+", then Append", l, d, m, l.Append("d"), api.OK)
			}
		}
	}
}

// ErrState is told ahead of ErrArg, and of ErrFull.
func TestRewriteOfWhatIsNotSure(t *testing.T) {
	for _, old := range [][]string{nil, {"a"}, {"a", "bc"}} {
		for _, steps := range append(stepsOfAllKinds(), -1, math.MinInt) {
			for _, recs := range [][]string{nil, {"b"}, {""}, {text(4097)}, {text(4096)}} {
				l, d, m := logOf(t, 50, old...)
				name := fmt.Sprintf("%s as %s in %d steps", brief(old...), brief(recs...), steps)
				m.records = append(slices.Clone(old), "new")
				m.files[0].text += frame("new")
				answers(t, name+", Append", l, d, m, l.Append("new"), api.OK)
				answers(t, name, l, d, m, l.Rewrite(recs, steps), api.ErrState)
				answers(t, name+", again", l, d, m, l.Rewrite(recs, steps), api.ErrState)
				m.sure, m.files[0].sure = len(m.records), len(m.files[0].text)
				answers(t, name+", then Sync", l, d, m, l.Sync(), api.OK)
				answers(t, name+", then Rewrite", l, d, m, l.Rewrite([]string{"b"}, 4), m.rewritten([]string{"b"}, 4))
			}
		}
	}
}

// An Append that had an error leaves nothing that is not sure.
func TestRewriteBehindAnAppendThatWasRefused(t *testing.T) {
	l, d, m := logOf(t, 12, "a")
	answers(t, "Append of no record", l, d, m, l.Append(""), api.ErrArg)
	answers(t, "Append without room", l, d, m, l.Append("abc"), api.ErrFull)
	answers(t, "Rewrite", l, d, m, l.Rewrite([]string{"ab"}, 4), m.rewritten([]string{"ab"}, 4))
}

// All frames find room together, or none of them is written.
func TestRewriteFindsRoomOrDoesNot(t *testing.T) {
	for _, recs := range [][]string{{"a"}, {"b", "c"}, {"b", text(30), "c"}, {text(4096)}, {"a", text(4096)}} {
		need := len(framed(recs...))
		for _, old := range [][]string{nil, {"a"}, {text(200), "b"}} {
			for _, free := range []int{0, 1, 10, 11, 12, need / 2, need - 11, need - 1} {
				if free >= need || free < 0 {
					continue
				}
				for _, steps := range stepsOfAllKinds()[1:] {
					l, d, m := logOf(t, free, old...)
					name := fmt.Sprintf("%s as %s in %d steps with room for %d", brief(old...), brief(recs...), steps, free)
					answers(t, name, l, d, m, l.Rewrite(recs, steps), api.ErrFull)
					answers(t, name+", again", l, d, m, l.Rewrite(recs, steps), api.ErrFull)
					answers(t, name+", then Sync", l, d, m, l.Sync(), api.OK)
					answers(t, name+", then of none", l, d, m, l.Rewrite(nil, 4), m.rewritten(nil, 4))
				}
				// Where no step is done, there is none that finds no room.
				l, d, m := logOf(t, free, old...)
				answers(t, "no step", l, d, m, l.Rewrite(recs, 0), m.rewritten(recs, 0))
			}
			for _, steps := range stepsOfAllKinds() {
				l, d, m := logOf(t, need, old...)
				name := fmt.Sprintf("%s as %s in %d steps with just enough room", brief(old...), brief(recs...), steps)
				answers(t, name, l, d, m, l.Rewrite(recs, steps), m.rewritten(recs, steps))
			}
		}
	}
}

// What stood in file 0 gives room only when all is done.
func TestRewriteNeedsRoomForBoth(t *testing.T) {
	l, d, m := logOf(t, 0, text(1000))
	answers(t, "a short one", l, d, m, l.Rewrite([]string{"a"}, 4), api.ErrFull)
	answers(t, "none", l, d, m, l.Rewrite(nil, 4), m.rewritten(nil, 4))
	answers(t, "all the room", l, d, m, l.Rewrite([]string{text(1000)}, 4), m.rewritten([]string{text(1000)}, 4))
}

func TestRewriteBesideOtherFiles(t *testing.T) {
	for _, steps := range stepsOfAllKinds() {
		more := []held{{"xyz", 1}, stays("12")}
		d := diskOf(t, 50, append([]held{stays(frame("a")), {}}, more...)...)
		l, m := opens(t, "four files", d, 66, []string{"a"}, more...)
		answers(t, fmt.Sprintf("%d steps", steps), l, d, m, l.Rewrite([]string{"b", "c"}, steps), m.rewritten([]string{"b", "c"}, steps))
	}
}

// The disk is its owner's, who can write to it: what can't be swapped is not, and the log is halted.
func TestRewriteOfAFileWithBytesOfAnother(t *testing.T) {
	l, d, m := logOf(t, 50, "a")
	d.Append(0, "not sure")
	m.files[0].text += "not sure"
	m.files[1] = stays(frame("b"))
	m.halted = true
	answers(t, "Rewrite", l, d, m, l.Rewrite([]string{"b"}, 4), api.ErrState)
	refuses(t, "what could not be swapped", l, d, m)
	opens(t, "opened", d, m.room, []string{"a"})
}

// A halted log stays so; the one that is opened behind it is another one.
func TestOpenBehindAHaltedLog(t *testing.T) {
	for _, steps := range []int{0, 1, 2, 3} {
		l, d, m := logOf(t, 100, "a")
		answers(t, "Rewrite", l, d, m, l.Rewrite([]string{"b", "c"}, steps), m.rewritten([]string{"b", "c"}, steps))
		records := []string{"a"}
		if steps == 3 {
			records = []string{"b", "c"}
		}
		other, n := opens(t, "opened", d, m.room, records)
		n.records = append(slices.Clone(records), "d")
		n.files[0].text += frame("d")
		answers(t, "Append", other, d, n, other.Append("d"), api.OK)
		m.files = n.files
		tells(t, "the halted one", l, d, m)
		refuses(t, "the halted one", l, d, m)
	}
}

// What is told, and what is handed in, can be changed later, the room behind it too.
func TestListsAreTheirOwners(t *testing.T) {
	l, d, m := logOf(t, 1000, "a", "b", "c")
	got := l.Records()
	again := l.Records()
	spoil(got)
	tells(t, "behind a change of Records", l, d, m)
	if !slices.Equal(again, []string{"a", "b", "c"}) {
		t.Errorf("two answers share: %q", again)
	}
	m.records, m.files[0].text = []string{"a", "b", "c", "d"}, framed("a", "b", "c", "d")
	answers(t, "Append", l, d, m, l.Append("d"), api.OK)
	spoil(again)
	spoil(l.Records())
	tells(t, "behind a change of older Records", l, d, m)
	l.Sync()
	m.sure, m.files[0].sure = 4, len(m.files[0].text)

	all := []string{"x", "y", "z", "not this", "nor this"}
	recs := all[:3]
	answers(t, "Rewrite", l, d, m, l.Rewrite(recs, 4), m.rewritten([]string{"x", "y", "z"}, 4))
	m.records, m.files[0].text = []string{"x", "y", "z", "d"}, framed("x", "y", "z", "d")
	answers(t, "Append", l, d, m, l.Append("d"), api.OK)
	if !slices.Equal(all, []string{"x", "y", "z", "not this", "nor this"}) {
		t.Errorf("what was handed in is %q", all)
	}
	spoil(all)
	tells(t, "behind a change of what was handed in", l, d, m)
	opens(t, "opened", d, m.room, m.records)
}

// The list is not changed where it is refused or cut off, nor what is told then.
func TestListsOfARewriteThatIsNotDone(t *testing.T) {
	for _, x := range []struct{ steps, free int }{{-1, 100}, {0, 100}, {1, 100}, {3, 100}, {4, 5}} {
		l, d, m := logOf(t, x.free, "a")
		all := []string{"x", "y", "z"}
		l.Rewrite(all[:2], x.steps)
		if !slices.Equal(all, []string{"x", "y", "z"}) {
			t.Errorf("%d steps: what was handed in is %q", x.steps, all)
		}
		files := []held{{d.Read(0), d.Sure(0)}, {d.Read(1), d.Sure(1)}}
		spoil(all)
		m.files, m.halted = files, x.steps >= 0 && x.steps < 4
		tells(t, fmt.Sprintf("%d steps", x.steps), l, d, m)
	}
}

// spoil changes all of a list, and the room behind it.
func spoil(list []string) {
	list = list[:cap(list)]
	for i := range list {
		list[i] = "spoilt"
	}
}
