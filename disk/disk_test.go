package disk

import (
	"fmt"
	"math"
	"slices"
	"strings"
	"testing"

	"turnstile/api"
)

// held is what a file of a model has.
type held struct {
	text string
	sure int
}

// model is a disk that is told by hand.
type model struct {
	files []held
	room  int
}

// copy is another model in the same state.
func (m *model) copy() *model { return &model{files: slices.Clone(m.files), room: m.room} }

// free is for how many more bytes there is room.
func (m *model) free() int {
	used := 0
	for _, f := range m.files {
		used += len(f.text)
	}
	return m.room - used
}

// nowhere are numbers of which a disk of so many files has none.
func nowhere(files int) []int {
	return []int{files, files + 1, 8, 9, 255, 256, math.MaxInt, -1, -2, -files, math.MinInt}
}

// text is n bytes of all kinds, no two neighbours alike.
func text(n int) string {
	b := make([]byte, n)
	for i := range b {
		b[i] = byte(i*31 + i>>8*7 + 0xf9)
	}
	return string(b)
}

// made is a disk, and its model.
func made(t *testing.T, files, room int) (*Disk, *model) {
	t.Helper()
	d, e := New(files, room)
	if e != api.OK || d == nil {
		t.Fatalf("New(%d, %d): %d", files, room, int(e))
	}
	m := &model{files: make([]held, files), room: room}
	tells(t, "new", d, m)
	return d, m
}

// part is what a file begins with: bytes that are sure, and others behind them.
type part struct{ sure, rest string }

// holding is a disk of files that have so much, with so much room left.
func holding(t *testing.T, free int, parts ...part) (*Disk, *model) {
	t.Helper()
	room := free
	for _, p := range parts {
		room += len(p.sure) + len(p.rest)
	}
	d, m := made(t, len(parts), room)
	for i, p := range parts {
		if d.Append(i, p.sure) != api.OK || d.Sync(i) != api.OK || d.Append(i, p.rest) != api.OK {
			t.Fatalf("the disk takes no %q and %q", p.sure, p.rest)
		}
		m.files[i] = held{text: p.sure + p.rest, sure: len(p.sure)}
	}
	tells(t, "what the disk holds", d, m)
	return d, m
}

// three is a disk of three files: with both kinds of bytes, with sure ones alone, with none that are sure.
func three(t *testing.T) (*Disk, *model) {
	t.Helper()
	return holding(t, 7, part{"abcd", "efg"}, part{"123", ""}, part{"", "xyz"})
}

// tells holds all that a disk tells against its model.
func tells(t *testing.T, name string, d *Disk, m *model) {
	t.Helper()
	for i, f := range m.files {
		if d.Read(i) != f.text {
			t.Errorf("%s: Read(%d) = %q; want %q", name, i, d.Read(i), f.text)
		}
		if d.Sure(i) != f.sure {
			t.Errorf("%s: Sure(%d) = %d; want %d", name, i, d.Sure(i), f.sure)
		}
	}
	if d.Free() != m.free() {
		t.Errorf("%s: Free = %d; want %d", name, d.Free(), m.free())
	}
	for _, i := range nowhere(len(m.files)) {
		if i >= 0 && i < len(m.files) {
			continue
		}
		if d.Read(i) != "" || d.Sure(i) != 0 {
			t.Errorf("%s: Read(%d), Sure(%d) = %q, %d, of no file", name, i, i, d.Read(i), d.Sure(i))
		}
	}
}

// answers holds what a call answered against what it must, and the disk behind it against the model.
func answers(t *testing.T, name string, d *Disk, m *model, got, want api.Errno) {
	t.Helper()
	if got != want {
		t.Errorf("%s: %d; want %d", name, int(got), int(want))
	}
	tells(t, name, d, m)
}

// P13.1

func TestNewOfSoManyFilesAndSuchARoom(t *testing.T) {
	files := map[int]bool{math.MinInt: false, -8: false, -1: false, 0: false, 1: true, 2: true, 7: true, 8: true, 9: false, 255: false, 256: false, 257: false, math.MaxInt: false}
	rooms := map[int]bool{math.MinInt: false, -1 << 24: false, -1: false, 0: true, 1: true, 1000: true, 1<<24 - 1: true, 1 << 24: true, 1<<24 + 1: false, 1 << 32: false, math.MaxInt: false}
	for n, isCount := range files {
		for room, isRoom := range rooms {
			if isCount && isRoom {
				made(t, n, room)
			} else if d, e := New(n, room); e != api.ErrArg || d != nil {
				t.Errorf("New(%d, %d): %v, %d; want ErrArg", n, room, d, int(e))
			}
		}
	}
}

// As many files are there as were asked for, and no more.
func TestAllFilesOfANewDiskAreThere(t *testing.T) {
	for n := 1; n <= 8; n++ {
		d, m := made(t, n, 100)
		for i := range n {
			answers(t, fmt.Sprintf("Sync(%d) of %d new ones", i, n), d, m, d.Sync(i), api.OK)
			answers(t, fmt.Sprintf("Cut(%d, 0) of %d new ones", i, n), d, m, d.Cut(i, 0), api.OK)
			m.files[i].text = text(i + 1)
			answers(t, fmt.Sprintf("Append to %d of %d", i, n), d, m, d.Append(i, text(i+1)), api.OK)
		}
		for _, i := range []int{n, -1} {
			answers(t, fmt.Sprintf("Append to %d of %d", i, n), d, m, d.Append(i, "a"), api.ErrArg)
		}
	}
}

func TestDisksGoTheirOwnWays(t *testing.T) {
	d, m := made(t, 2, 9)
	other, n := made(t, 2, 9)
	m.files[1].text = "abc"
	answers(t, "Append", d, m, d.Append(1, "abc"), api.OK)
	tells(t, "another new one", other, n)
}

// P13.2

func TestAppendOfOrdinaryBytes(t *testing.T) {
	d, m := made(t, 3, 1000)
	for i, s := range []string{"a", "bc", "", "\x00\xff\n", text(256), "ä€", "b"} {
		m.files[i%3].text += s
		answers(t, fmt.Sprintf("Append of %q", s), d, m, d.Append(i%3, s), api.OK)
	}
	m.files[0].sure = len(m.files[0].text)
	answers(t, "Sync", d, m, d.Sync(0), api.OK)
	m.files[0].text += "more"
	answers(t, "Append behind what is sure", d, m, d.Append(0, "more"), api.OK)
}

func TestAppendFindsRoomOrDoesNot(t *testing.T) {
	for _, free := range []int{0, 1, 2, 7, 100} {
		for f := range 3 {
			d, m := holding(t, free, part{"abcd", "efg"}, part{"", ""}, part{"", "xyz"})
			name := fmt.Sprintf("to %d, with room for %d", f, free)
			answers(t, "one too many "+name, d, m, d.Append(f, text(free+1)), api.ErrFull)
			answers(t, "far too many "+name, d, m, d.Append(f, text(free+5000)), api.ErrFull)
			answers(t, "nothing "+name, d, m, d.Append(f, ""), api.OK)
			m.files[f].text += text(free)
			answers(t, "just as many "+name, d, m, d.Append(f, text(free)), api.OK)
			answers(t, "nothing, behind all, "+name, d, m, d.Append(f, ""), api.OK)
			for g := range 3 {
				answers(t, fmt.Sprintf("one more to %d, behind all %s", g, name), d, m, d.Append(g, "a"), api.ErrFull)
			}
		}
	}
}

// The room is one for all files together.
func TestAppendOfAllTheRoomThereCanBe(t *testing.T) {
	d, m := made(t, 8, 1<<24)
	piece := strings.Repeat(text(1<<11), 1<<10)
	for i := range 8 {
		m.files[i].text = piece
		answers(t, "an eighth of the room", d, m, d.Append(i, piece), api.OK)
	}
	answers(t, "one more", d, m, d.Append(7, "a"), api.ErrFull)
	m.files[3] = held{}
	answers(t, "Cut", d, m, d.Cut(3, 0), api.OK)
	answers(t, "an eighth and one more", d, m, d.Append(3, piece+"a"), api.ErrFull)
	m.files[6].text += piece
	answers(t, "an eighth to another one", d, m, d.Append(6, piece), api.OK)
}

func TestAppendOfManyPieces(t *testing.T) {
	const pieces = 1 << 20
	d, m := made(t, 2, pieces)
	all := text(pieces)
	for i := range pieces {
		if e := d.Append(i%2, all[i:i+1]); e != api.OK {
			t.Fatalf("piece %d: %d", i, int(e))
		}
	}
	var each [2]strings.Builder
	for i := range pieces {
		each[i%2].WriteByte(all[i])
	}
	m.files[0].text, m.files[1].text = each[0].String(), each[1].String()
	answers(t, "one more", d, m, d.Append(0, "a"), api.ErrFull)
}

// ErrArg is told ahead of ErrFull.
func TestAppendToAFileThatIsNotThere(t *testing.T) {
	for _, free := range []int{0, 5} {
		d, m := holding(t, free, part{"abcd", "efg"}, part{"123", ""}, part{"", "xyz"})
		for _, f := range nowhere(3) {
			for _, s := range []string{"", "a", text(free), text(free + 1), text(1000)} {
				answers(t, fmt.Sprintf("Append of %d bytes to %d, with room for %d", len(s), f, free), d, m, d.Append(f, s), api.ErrArg)
			}
		}
	}
}

func TestSync(t *testing.T) {
	d, m := three(t)
	for f := range 3 {
		for range 2 {
			m.files[f].sure = len(m.files[f].text)
			answers(t, fmt.Sprintf("Sync(%d)", f), d, m, d.Sync(f), api.OK)
		}
	}
	m.files[1].text += "4"
	answers(t, "Append", d, m, d.Append(1, "4"), api.OK)
	m.files[2].text += "5"
	answers(t, "Append", d, m, d.Append(2, "5"), api.OK)
	m.files[1].sure++
	answers(t, "Sync of the one", d, m, d.Sync(1), api.OK)
}

func TestSyncOfAFileThatIsNotThere(t *testing.T) {
	d, m := three(t)
	for _, f := range nowhere(3) {
		answers(t, fmt.Sprintf("Sync(%d)", f), d, m, d.Sync(f), api.ErrArg)
	}
}

func TestCutToSoMany(t *testing.T) {
	for f := range 3 {
		_, m := three(t)
		whole := m.files[f].text
		// 0, below what is sure, just that, between, and all.
		for n := range len(whole) + 1 {
			d, m := three(t)
			m.files[f] = held{text: whole[:n], sure: n}
			name := fmt.Sprintf("Cut(%d, %d)", f, n)
			answers(t, name, d, m, d.Cut(f, n), api.OK)
			answers(t, name+", again", d, m, d.Cut(f, n), api.OK)
			answers(t, name+", then one more", d, m, d.Cut(f, n+1), api.ErrArg)
			d.Crash(nil)
			for i := range m.files {
				m.files[i].text = m.files[i].text[:m.files[i].sure]
			}
			tells(t, name+", then a crash", d, m)
		}
	}
}

func TestCutToWhatCanNotBe(t *testing.T) {
	d, m := three(t)
	for f := range 3 {
		has := len(m.files[f].text)
		for _, n := range []int{has + 1, has + 2, has + 100, 1 << 24, math.MaxInt, -1, -2, -has - 1, math.MinInt} {
			answers(t, fmt.Sprintf("Cut(%d, %d)", f, n), d, m, d.Cut(f, n), api.ErrArg)
		}
	}
	empty, m := made(t, 1, 5)
	answers(t, "Cut(0, 1) of no bytes", empty, m, empty.Cut(0, 1), api.ErrArg)
	answers(t, "Cut(0, -1) of no bytes", empty, m, empty.Cut(0, -1), api.ErrArg)
}

func TestCutOfAFileThatIsNotThere(t *testing.T) {
	d, m := three(t)
	for _, f := range nowhere(3) {
		for _, n := range []int{0, 1, 3, 100, -1} {
			answers(t, fmt.Sprintf("Cut(%d, %d)", f, n), d, m, d.Cut(f, n), api.ErrArg)
		}
	}
}

// What was cut off is free again, and does not come back.
func TestWhatIsCutOffIsFree(t *testing.T) {
	d, m := holding(t, 0, part{"abcd", "efg"}, part{"123", ""})
	answers(t, "ahead", d, m, d.Append(1, "4"), api.ErrFull)
	m.files[0] = held{text: "ab", sure: 2}
	answers(t, "Cut(0, 2)", d, m, d.Cut(0, 2), api.OK)
	answers(t, "one too many", d, m, d.Append(1, "456789"), api.ErrFull)
	m.files[1].text += "456"
	answers(t, "Append to the other one", d, m, d.Append(1, "456"), api.OK)
	m.files[0].text += "XY"
	answers(t, "Append behind what was cut", d, m, d.Append(0, "XY"), api.OK)
	answers(t, "one more", d, m, d.Append(0, "Z"), api.ErrFull)
}

func TestSwap(t *testing.T) {
	for a := range 3 {
		for b := range 3 {
			d, m := holding(t, 5, part{"abcd", ""}, part{"12", ""}, part{"", ""})
			m.files[a], m.files[b] = m.files[b], m.files[a]
			name := fmt.Sprintf("Swap(%d, %d)", a, b)
			answers(t, name, d, m, d.Swap(a, b), api.OK)
			for f := range 3 {
				m.files[f].text += text(f + 1)[f:]
				answers(t, name+", then Append", d, m, d.Append(f, text(f + 1)[f:]), api.OK)
			}
			m.files[a].sure = len(m.files[a].text)
			answers(t, name+", then Sync", d, m, d.Sync(a), api.OK)
		}
	}
}

func TestSwapTwiceIsNone(t *testing.T) {
	d, m := holding(t, 5, part{"abcd", ""}, part{"12", ""})
	if e := d.Swap(0, 1); e != api.OK {
		t.Fatal(int(e))
	}
	answers(t, "Swap, twice", d, m, d.Swap(1, 0), api.OK)
}

func TestSwapOfBytesThatAreNotSure(t *testing.T) {
	parts := []part{{"abcd", ""}, {"", ""}, {"12", "3"}, {"", "xyz"}, {"56", "7"}}
	for a, first := range parts {
		for b, second := range parts {
			d, m := holding(t, 5, parts...)
			want := api.ErrState
			if first.rest == "" && second.rest == "" {
				want = api.OK
				m.files[a], m.files[b] = m.files[b], m.files[a]
			}
			answers(t, fmt.Sprintf("Swap(%d, %d)", a, b), d, m, d.Swap(a, b), want)
		}
	}
}

// A file that is none of the two does not matter.
func TestSwapBesideBytesThatAreNotSure(t *testing.T) {
	d, m := holding(t, 5, part{"ab", ""}, part{"", "xyz"}, part{"1", ""})
	m.files[0], m.files[2] = m.files[2], m.files[0]
	answers(t, "Swap(0, 2)", d, m, d.Swap(0, 2), api.OK)
}

// ErrArg is told ahead of ErrState.
func TestSwapOfFilesThatAreNotThere(t *testing.T) {
	for _, rest := range []string{"", "efg"} {
		d, m := holding(t, 5, part{"abcd", rest}, part{"12", rest}, part{"", rest})
		for _, f := range nowhere(3) {
			for g := range 3 {
				answers(t, fmt.Sprintf("Swap(%d, %d)", f, g), d, m, d.Swap(f, g), api.ErrArg)
				answers(t, fmt.Sprintf("Swap(%d, %d)", g, f), d, m, d.Swap(g, f), api.ErrArg)
			}
			for _, g := range nowhere(3) {
				answers(t, fmt.Sprintf("Swap(%d, %d)", f, g), d, m, d.Swap(f, g), api.ErrArg)
			}
		}
	}
}

// What is refused changes nothing, also in what comes behind.
func TestWhatIsRefusedChangesNothing(t *testing.T) {
	d, m := three(t)
	for f := -2; f < 6; f++ {
		isThere := f >= 0 && f < 3
		wanted := func(e api.Errno) api.Errno {
			if isThere {
				return e
			}
			return api.ErrArg
		}
		answers(t, fmt.Sprintf("Append to %d", f), d, m, d.Append(f, text(8)), wanted(api.ErrFull))
		answers(t, fmt.Sprintf("Cut(%d, 8)", f), d, m, d.Cut(f, 8), api.ErrArg)
		answers(t, fmt.Sprintf("Cut(%d, -1)", f), d, m, d.Cut(f, -1), api.ErrArg)
		answers(t, fmt.Sprintf("Swap(%d, 0)", f), d, m, d.Swap(f, 0), wanted(api.ErrState))
		if !isThere {
			answers(t, fmt.Sprintf("Sync(%d)", f), d, m, d.Sync(f), api.ErrArg)
		}
	}
	m.files[2].text += text(7)
	answers(t, "all the room, behind it", d, m, d.Append(2, text(7)), api.OK)
	d.Crash(nil)
	m.files = []held{{"abcd", 4}, {"123", 3}, {"", 0}}
	tells(t, "a crash, behind it", d, m)
}
