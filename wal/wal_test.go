package wal

import (
	"crypto/sha256"
	"fmt"
	"slices"
	"strings"
	"testing"

	"turnstile/api"
	"turnstile/disk"
)

// held is what a file of a model has.
type held struct {
	text string
	sure int
}

// stays is a file of which all is sure.
func stays(text string) held { return held{text: text, sure: len(text)} }

// model is a log and the disk on which it stands, told by hand.
type model struct {
	records []string
	sure    int
	halted  bool
	files   []held
	room    int
}

// copy is another model in the same state.
func (m *model) copy() *model {
	other := *m
	other.records, other.files = slices.Clone(m.records), slices.Clone(m.files)
	return &other
}

// free is for how many more bytes there is room.
func (m *model) free() int {
	used := 0
	for _, f := range m.files {
		used += len(f.text)
	}
	return m.room - used
}

// frame is a record's frame, told by the library's SHA-256.
func frame(s string) string {
	long := string([]byte{byte(len(s) / 256), byte(len(s) % 256)})
	sum := sha256.Sum256([]byte("\x03wal" + long + s))
	return long + s + string(sum[:8])
}

// framed are the frames of many records, one behind the other.
func framed(records ...string) string {
	var all strings.Builder
	for _, s := range records {
		all.WriteString(frame(s))
	}
	return all.String()
}

// text is n bytes of all kinds, no two neighbours alike.
func text(n int) string {
	b := make([]byte, n)
	for i := range b {
		b[i] = byte(i*31 + i>>8*7 + 0xf9)
	}
	return string(b)
}

// brief is a name for records that may be long.
func brief(records ...string) string {
	names := make([]string, len(records))
	for i, s := range records {
		names[i] = fmt.Sprintf("%q", s)
		if len(s) > 30 {
			names[i] = fmt.Sprintf("%q.. of %d bytes", s[:10], len(s))
		}
	}
	return "[" + strings.Join(names, " ") + "]"
}

// notRecords are texts that are none.
func notRecords() []string {
	return []string{"", text(4097), text(4098), text(8192), text(65535), text(65536), text(65537), text(65536 + 4096), text(1 << 20)}
}

// diskOf is a disk of these files, with so much room left.
func diskOf(t *testing.T, free int, files ...held) *disk.Disk {
	t.Helper()
	room := free
	for _, f := range files {
		room += len(f.text)
	}
	d, e := disk.New(len(files), room)
	if e != api.OK {
		t.Fatalf("disk.New: %d", int(e))
	}
	for i, f := range files {
		if d.Append(i, f.text[:f.sure]) != api.OK || d.Sync(i) != api.OK || d.Append(i, f.text[f.sure:]) != api.OK {
			t.Fatalf("the disk takes no %s", brief(f.text))
		}
	}
	return d
}

// holds holds what a disk has against what it must have.
func holds(t *testing.T, name string, d *disk.Disk, files ...held) {
	t.Helper()
	for i, f := range files {
		if d.Read(i) != f.text {
			t.Errorf("%s: file %d is %s; want %s", name, i, brief(d.Read(i)), brief(f.text))
		}
		if d.Sure(i) != f.sure {
			t.Errorf("%s: of file %d are sure %d; want %d", name, i, d.Sure(i), f.sure)
		}
	}
}

// tells holds all that a log and its disk tell against the model.
func tells(t *testing.T, name string, l *Log, d *disk.Disk, m *model) {
	t.Helper()
	if got := l.Records(); !slices.Equal(got, m.records) {
		t.Errorf("%s: Records = %s; want %s", name, brief(got...), brief(m.records...))
	}
	if l.Sure() != m.sure {
		t.Errorf("%s: Sure = %d; want %d", name, l.Sure(), m.sure)
	}
	if l.Halted() != m.halted {
		t.Errorf("%s: Halted = %t; want %t", name, l.Halted(), m.halted)
	}
	holds(t, name, d, m.files...)
	if d.Free() != m.free() {
		t.Errorf("%s: there is room for %d; want %d", name, d.Free(), m.free())
	}
}

// answers holds what a call answered against what it must, and all that is told behind it against the model.
func answers(t *testing.T, name string, l *Log, d *disk.Disk, m *model, got, want api.Errno) {
	t.Helper()
	if got != want {
		t.Errorf("%s: %d; want %d", name, int(got), int(want))
	}
	tells(t, name, l, d, m)
}

// opens opens the log of a disk, which must have just these records; the files behind the first two stay as they are.
func opens(t *testing.T, name string, d *disk.Disk, room int, records []string, more ...held) (*Log, *model) {
	t.Helper()
	l, e := Open(d)
	if e != api.OK || l == nil {
		t.Fatalf("%s: Open: %d", name, int(e))
	}
	m := &model{records: records, sure: len(records), room: room}
	m.files = append([]held{stays(framed(records...)), {}}, more...)
	tells(t, name, l, d, m)
	return l, m
}

// logOf is a log of records that are sure, with so much room left.
func logOf(t *testing.T, free int, records ...string) (*Log, *disk.Disk, *model) {
	t.Helper()
	all := framed(records...)
	d := diskOf(t, free, stays(all), held{})
	l, m := opens(t, "a log of "+brief(records...), d, free+len(all), records)
	return l, d, m
}

// P14.1

func TestFrameOfKnownRecords(t *testing.T) {
	for s, want := range map[string]string{
		"ab":   "\x00\x02ab\xa4\x1f\xa8\x8c\xb9\xce\x89\xc5",
		"a":    "\x00\x01a\x45\xfc\xf0\xe9\x83\x6d\x3d\x3d",
		"\x00": "\x00\x01\x00\x74\xb4\x6e\xec\x3e\x0d\xb7\x6b",
	} {
		if Frame(s) != want {
			t.Errorf("Frame(%q) = %q; want %q", s, Frame(s), want)
		}
	}
}

func TestFrame(t *testing.T) {
	records := []string{"a", "\x00", "\x00\x00", "\x00\x00\x00\x00\x00\x00\x00\x00\x00", "a\x00b", "\x00a", "a\x00", "\xff", "ä€", "wal", strings.Repeat("\x00", 4096), frame("ab")}
	for _, n := range []int{1, 2, 3, 7, 8, 9, 16, 254, 255, 256, 257, 511, 512, 4094, 4095, 4096} {
		records = append(records, text(n), strings.Repeat("\x00", n))
	}
	for _, s := range records {
		if got := Frame(s); got != frame(s) || len(got) != len(s)+10 {
			t.Errorf("Frame of %s = %s", brief(s), brief(got))
		}
	}
}

func TestFrameOfNoRecord(t *testing.T) {
	for _, s := range notRecords() {
		if Frame(s) != "" {
			t.Errorf("Frame of %d bytes = %s; want nothing", len(s), brief(Frame(s)))
		}
	}
}

func TestOpenOfANewDisk(t *testing.T) {
	for _, room := range []int{0, 1, 1000, 1 << 24} {
		for files := 2; files <= 8; files++ {
			d, _ := disk.New(files, room)
			opens(t, fmt.Sprintf("%d files with room for %d", files, room), d, room, nil, make([]held, files-2)...)
		}
	}
}

// What a disk without a file 1 has stays as it is, what can be lost too.
func TestOpenWithoutFile1(t *testing.T) {
	none := &disk.Disk{}
	if l, e := Open(none); l != nil || e != api.ErrArg {
		t.Errorf("Open of no file: %v, %d; want ErrArg", l, int(e))
	}
	for _, f := range []held{
		{},
		stays(frame("ab")),
		{frame("ab"), 0},
		{frame("ab") + "\x00\x02c", 5},
		stays("broken"),
		{frame("ab") + frame("c")[1:], 12},
	} {
		for _, free := range []int{0, 50} {
			d := diskOf(t, free, f)
			if l, e := Open(d); l != nil || e != api.ErrArg {
				t.Errorf("Open of one file: %v, %d; want ErrArg", l, int(e))
			}
			holds(t, "one file", d, f)
		}
	}
}

func TestOpenOfRecords(t *testing.T) {
	for _, records := range [][]string{
		{"a"},
		{"a", "b"},
		{"a", "a", "a"},
		{"\x00", "\x00\x00", "a\x00"},
		{text(4096)},
		{text(4096), "a", text(4095), text(256)},
		{frame("ab"), "b"},
		slices.Repeat([]string{"one", "two"}, 200),
	} {
		all := framed(records...)
		for _, sure := range []int{0, 1, len(all) / 2, len(all) - 1, len(all)} {
			name := fmt.Sprintf("%s, of which %d bytes are sure", brief(records...), sure)
			d := diskOf(t, 0, held{all, sure}, held{})
			l, m := opens(t, name, d, len(all), records)
			opens(t, name+", again", d, len(all), records)
			d.Crash(nil)
			tells(t, name+", then a crash", l, d, m)
			opens(t, name+", then a crash, again", d, len(all), records)
		}
	}
}

func TestOpenEmptiesFile1(t *testing.T) {
	for _, f := range []held{
		stays("a"), {"a", 0}, {"abcdef", 3},
		stays(frame("new")), {frame("new"), 0}, {framed("new", "newer"), 15},
		stays(text(5000)), stays(frame("new")[:5]),
	} {
		d := diskOf(t, 20, stays(frame("old")), f)
		name := fmt.Sprintf("with %s in file 1", brief(f.text))
		room := 20 + len(frame("old")) + len(f.text)
		l, m := opens(t, name, d, room, []string{"old"})
		// What was there is free again.
		if more := text(m.free() - 10); len(more) <= 4096 {
			m.files[0].text += frame(more)
			m.records = append(m.records, more)
			answers(t, name+", all the room", l, d, m, l.Append(more), api.OK)
		}
		d.Crash([]int{99999, 99999})
		holds(t, name+", then a crash", d, stays(d.Read(0)), held{})
	}
}

// Files behind the first two are not touched: what is not sure there stays so.
func TestOpenWithMoreFiles(t *testing.T) {
	more := []held{{frame("x") + "y", 4}, {"", 0}, stays("123"), {frame("z"), 0}, stays("\x00"), {"56", 1}}
	for n := range len(more) + 1 {
		files := append([]held{{framed("a", "b") + "\x00", 3}, {frame("c"), 2}}, more[:n]...)
		d := diskOf(t, 4, files...)
		room := 4
		for _, f := range files {
			room += len(f.text)
		}
		name := fmt.Sprintf("%d more files", n)
		l, m := opens(t, name, d, room, []string{"a", "b"}, more[:n]...)
		m.halted = true
		answers(t, name+", Rewrite", l, d, m, l.Rewrite(nil, 0), api.ErrState)
	}
}

// broken are texts that do not begin with a whole frame, by what is wrong with them.
func broken() map[string]string {
	all := map[string]string{
		"a length of 0":               "\x00\x00",
		"a length of 0, and its sum":  frame(""),
		"zero bytes":                  strings.Repeat("\x00", 40),
		"a length of 4097":            frame(text(4097)),
		"a length of 4352":            frame(text(4352)),
		"a length of 32768":           frame(text(32768)),
		"a length of 65535":           frame(text(65535)),
		"a length of 4097, cut off":   "\x10\x01abc",
		"the lower byte first":        "\x02\x00ab" + frame("ab")[4:],
		"a length that is too small":  "\x00\x01ab" + frame("ab")[4:],
		"a length that is too large":  "\x00\x03ab" + frame("ab")[4:],
		"another record":              "\x00\x02aB" + frame("ab")[4:],
		"another record's sum":        "\x00\x02ab" + frame("aB")[4:],
		"the sum's other bytes":       "\x00\x02ab" + other("ab"),
		"the sum of the bytes alone":  "\x00\x02ab" + sumOf("ab"),
		"the sum without a word":      "\x00\x02ab" + sumOf("\x00\x02ab"),
		"the sum of another word":     "\x00\x02ab" + sumOf("\x03log\x00\x02ab"),
		"a record that is not framed": "ab",
	}
	for i := range 8 {
		for _, bit := range []byte{1, 0x80} {
			b := []byte(frame("ab"))
			b[4+i] ^= bit
			all[fmt.Sprintf("byte %d of the sum, changed by %d", i, bit)] = string(b)
		}
	}
	return all
}

// other are the bytes of a record's sum that are not in its frame.
func other(s string) string {
	sum := sha256.Sum256([]byte("\x03wal\x00" + string(rune(len(s))) + s))
	return string(sum[8:16])
}

// sumOf is how the sum of s begins.
func sumOf(s string) string {
	sum := sha256.Sum256([]byte(s))
	return string(sum[:8])
}

// ahead are records that stand ahead of what is broken.
func ahead() [][]string {
	return [][]string{nil, {"a"}, {"\x00\x00", "ab"}, {text(4096), "b", "c"}}
}

// What is broken is taken away, with all behind it, also what would be a whole frame there.
func TestOpenOfABrokenFrame(t *testing.T) {
	for _, records := range ahead() {
		whole := framed(records...)
		for what, s := range broken() {
			for i, rest := range []string{"", frame("behind"), frame("behind") + frame("and behind"), "\x00"} {
				all := whole + s + rest
				for _, sure := range []int{0, len(whole), len(whole) + 1, len(all)} {
					name := fmt.Sprintf("%s, then %s, then rest %d, of which %d bytes are sure", brief(records...), what, i, sure)
					d := diskOf(t, 3, held{all, sure}, held{})
					opens(t, name, d, len(all)+3, records)
					l, m := opens(t, name+", again", d, len(all)+3, records)
					m.files[0] = held{whole + frame("c"), len(whole)}
					m.records = append(slices.Clone(records), "c")
					if m.free() >= 0 {
						answers(t, name+", then Append", l, d, m, l.Append("c"), api.OK)
					}
				}
			}
		}
	}
}

func TestOpenOfAFrameCutOff(t *testing.T) {
	for _, records := range ahead() {
		whole := framed(records...)
		for _, last := range []string{"a", "\x00", "\x00\x00\x00", "last one", text(300)} {
			for n := range len(frame(last)) {
				all := whole + frame(last)[:n]
				for _, sure := range []int{0, len(whole), len(all)} {
					name := fmt.Sprintf("%s, then %d bytes of %s, of which %d bytes are sure", brief(records...), n, brief(last), sure)
					d := diskOf(t, 0, held{all, sure}, held{})
					opens(t, name, d, len(all), records)
					opens(t, name+", again", d, len(all), records)
				}
			}
			all := whole + frame(last)
			opens(t, "not cut off", diskOf(t, 0, held{all, 0}, held{}), len(all), append(slices.Clone(records), last))
		}
	}
}

func TestOpenOfALongFrameCutOff(t *testing.T) {
	long := frame(text(4096))
	for n := range len(long) {
		all := frame("a") + long[:n]
		d := diskOf(t, 0, held{all, n / 2}, held{})
		opens(t, fmt.Sprintf("%d bytes of a long one", n), d, len(all), []string{"a"})
	}
}

// A whole frame that is there, but not at the beginning, is none of the log's.
func TestOpenBehindOtherBytes(t *testing.T) {
	for _, s := range []string{"\x00", "x", "\x00\x00", frame("ab")[1:], frame("ab")[:11]} {
		all := s + framed("ab", "c")
		opens(t, fmt.Sprintf("behind %q", s), diskOf(t, 0, stays(all), held{}), len(all), nil)
	}
}

func TestOpenOfAWholeDisk(t *testing.T) {
	long := strings.Repeat(text(1<<10), 4)
	count := 1 << 24 / len(frame(long))
	records := slices.Repeat([]string{long}, count)
	rest := 1<<24 - count*len(frame(long))
	d, _ := disk.New(2, 1<<24)
	d.Append(0, strings.Repeat(frame(long), count)+strings.Repeat("\x00", rest))
	l, e := Open(d)
	if e != api.OK || !slices.Equal(l.Records(), records) || l.Sure() != count || d.Free() != rest || d.Sure(0) != 1<<24-rest {
		t.Errorf("Open of all the room: %d, %d records, room for %d", int(e), l.Sure(), d.Free())
	}
}

// P14.2

func TestAppendAndSync(t *testing.T) {
	for _, old := range ahead() {
		l, d, m := logOf(t, 1<<20, old...)
		for i, s := range []string{"a", "bc", "\x00", "\x00\x00\x00", text(4096), text(4095), "a", strings.Repeat("\x00", 4096), frame("ab"), text(256)} {
			name := fmt.Sprintf("Append of %s behind %s", brief(s), brief(old...))
			m.records = append(m.records[:len(m.records):len(m.records)], s)
			m.files[0].text += frame(s)
			answers(t, name, l, d, m, l.Append(s), api.OK)
			if i%3 == 1 {
				m.sure, m.files[0].sure = len(m.records), len(m.files[0].text)
				answers(t, name+", then Sync", l, d, m, l.Sync(), api.OK)
			}
		}
		for range 2 {
			m.sure, m.files[0].sure = len(m.records), len(m.files[0].text)
			answers(t, "Sync of all", l, d, m, l.Sync(), api.OK)
		}
	}
}

func TestSyncOfNoRecords(t *testing.T) {
	for _, free := range []int{0, 100} {
		l, d, m := logOf(t, free)
		answers(t, "Sync", l, d, m, l.Sync(), api.OK)
		answers(t, "Sync, again", l, d, m, l.Sync(), api.OK)
	}
}

// Sync has no say in other files.
func TestSyncOfOneFileAlone(t *testing.T) {
	d := diskOf(t, 100, held{}, held{}, held{"xyz", 1})
	l, m := opens(t, "three files", d, 103, nil, held{"xyz", 1})
	m.records, m.files[0].text = []string{"a"}, frame("a")
	answers(t, "Append", l, d, m, l.Append("a"), api.OK)
	d.Append(1, "not sure")
	m.files[1].text = "not sure"
	m.sure, m.files[0].sure = 1, len(frame("a"))
	answers(t, "Sync", l, d, m, l.Sync(), api.OK)
}

func TestAppendOfNoRecord(t *testing.T) {
	for _, free := range []int{0, 5, 1 << 21} {
		l, d, m := logOf(t, free, "a")
		for _, s := range notRecords() {
			// On a full disk too, as ErrArg is told ahead of ErrFull.
			answers(t, fmt.Sprintf("Append of %d bytes, with room for %d", len(s), free), l, d, m, l.Append(s), api.ErrArg)
		}
	}
}

func TestAppendFindsRoomOrDoesNot(t *testing.T) {
	for _, n := range []int{1, 2, 100, 4095, 4096} {
		for _, old := range ahead() {
			s := text(n)
			for _, free := range []int{0, 1, 9, 10, n, n + 8, n + 9} {
				if free >= n+10 {
					continue
				}
				l, d, m := logOf(t, free, old...)
				name := fmt.Sprintf("Append of %d bytes behind %s, with room for %d", n, brief(old...), free)
				answers(t, name, l, d, m, l.Append(s), api.ErrFull)
				answers(t, name+", again", l, d, m, l.Append(s), api.ErrFull)
				answers(t, name+", then Sync", l, d, m, l.Sync(), api.OK)
			}
			l, d, m := logOf(t, n+10, old...)
			name := fmt.Sprintf("Append of %d bytes behind %s, with just enough room", n, brief(old...))
			m.records = append(slices.Clone(old), s)
			m.files[0].text += frame(s)
			answers(t, name, l, d, m, l.Append(s), api.OK)
			answers(t, name+", and one more", l, d, m, l.Append("a"), api.ErrFull)
			m.sure, m.files[0].sure = len(m.records), len(m.files[0].text)
			answers(t, name+", then Sync", l, d, m, l.Sync(), api.OK)
			answers(t, name+", then one more", l, d, m, l.Append("a"), api.ErrFull)
		}
	}
}

// A shorter one finds room where a longer one did not.
func TestAppendBehindOneWithoutRoom(t *testing.T) {
	l, d, m := logOf(t, 12, "a")
	answers(t, "three bytes", l, d, m, l.Append("abc"), api.ErrFull)
	m.records = []string{"a", "ab"}
	m.files[0].text += frame("ab")
	answers(t, "two bytes", l, d, m, l.Append("ab"), api.OK)
}

// The room is one for all files, and its owner can take of it, and make more of it.
func TestAppendBesideOtherFiles(t *testing.T) {
	d := diskOf(t, 11, held{}, held{}, stays("xyz"))
	l, m := opens(t, "three files", d, 14, nil, stays("xyz"))
	d.Append(2, "1")
	m.files[2].text = "xyz1"
	answers(t, "Append, with one byte less", l, d, m, l.Append("a"), api.ErrFull)
	d.Cut(2, 3)
	m.files[2] = stays("xyz")
	m.records, m.files[0].text = []string{"a"}, frame("a")
	answers(t, "Append, with just enough", l, d, m, l.Append("a"), api.OK)
}

func TestLogsGoTheirOwnWays(t *testing.T) {
	l, d, m := logOf(t, 100, "a")
	other, e, n := logOf(t, 100, "a")
	m.records, m.files[0].text = []string{"a", "b"}, framed("a", "b")
	answers(t, "Append", l, d, m, l.Append("b"), api.OK)
	tells(t, "the other one", other, e, n)
	n.halted = true
	answers(t, "Rewrite", other, e, n, other.Rewrite(nil, 0), api.ErrState)
	tells(t, "the first one", l, d, m)
}

func TestAppendOfMany(t *testing.T) {
	const many = 1 << 15
	l, d, m := logOf(t, many*12)
	all := text(many * 2)
	var file strings.Builder
	for i := range many {
		s := all[i*2 : i*2+2]
		if e := l.Append(s); e != api.OK {
			t.Fatalf("record %d: %d", i, int(e))
		}
		m.records = append(m.records, s)
		file.WriteString(frame(s))
	}
	m.files[0].text = file.String()
	answers(t, "one more", l, d, m, l.Append("a"), api.ErrFull)
	m.sure, m.files[0].sure = many, len(m.files[0].text)
	answers(t, "Sync", l, d, m, l.Sync(), api.OK)
	opens(t, "opened again", d, many*12, m.records)
}
