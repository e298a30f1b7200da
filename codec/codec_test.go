package codec

import (
	"math"
	"strings"
	"testing"

	"turnstile/api"
	"turnstile/num"
)

// text is n bytes of all kinds, no two neighbours alike.
func text(n int) string {
	b := make([]byte, n)
	for i := range b {
		b[i] = byte(i*31 + i>>8*7 + 0xf9)
	}
	return string(b)
}

// part is a part of a message: how it is written, the bytes it comes to, and whether it is read as it was.
type part struct {
	name  string
	write func(w *Writer)
	bytes string
	back  func(r *Reader) bool
}

func bytePart(n int) part {
	return part{
		"Byte", func(w *Writer) { w.Byte(n) }, string([]byte{byte(n)}),
		func(r *Reader) bool { return r.Byte() == n },
	}
}

func numPart(n uint64) part {
	return part{
		"Num", func(w *Writer) { w.Num(n) }, num.Put(n),
		func(r *Reader) bool { return r.Num() == n },
	}
}

func blobPart(s string) part {
	return part{
		"Blob", func(w *Writer) { w.Blob(s) }, string([]byte{byte(len(s) / 256), byte(len(s) % 256)}) + s,
		func(r *Reader) bool { return r.Blob(len(s)) == s },
	}
}

func hashPart(s string) part {
	return part{
		"Hash", func(w *Writer) { w.Hash(s) }, s,
		func(r *Reader) bool { return r.Hash() == s },
	}
}

// parts are parts of all kinds, at the ends of their ranges and between.
func parts() []part {
	return []part{
		bytePart(0), bytePart(1), bytePart(127), bytePart(128), bytePart(255),
		numPart(0), numPart(1), numPart(0x0123456789abcdef), numPart(1 << 63), numPart(math.MaxUint64),
		blobPart(""), blobPart("a"), blobPart("ab"), blobPart("\x00"), blobPart("é\xff\x80"),
		blobPart(text(255)), blobPart(text(256)), blobPart(text(257)), blobPart(text(4095)), blobPart(text(4096)),
		hashPart(text(16)), hashPart(strings.Repeat("\x00", 16)), hashPart(strings.Repeat("\xff", 16)),
	}
}

// wrongs are parts that can't be written, and the error of each.
func wrongs() []struct {
	name  string
	write func(w *Writer)
	e     api.Errno
} {
	return []struct {
		name  string
		write func(w *Writer)
		e     api.Errno
	}{
		{"Byte(-1)", func(w *Writer) { w.Byte(-1) }, api.ErrArg},
		{"Byte(256)", func(w *Writer) { w.Byte(256) }, api.ErrArg},
		{"Byte(257)", func(w *Writer) { w.Byte(257) }, api.ErrArg},
		{"Byte(-256)", func(w *Writer) { w.Byte(-256) }, api.ErrArg},
		{"Byte of the highest int", func(w *Writer) { w.Byte(math.MaxInt) }, api.ErrArg},
		{"Byte of the lowest int", func(w *Writer) { w.Byte(math.MinInt) }, api.ErrArg},
		{"Blob of 4097", func(w *Writer) { w.Blob(text(4097)) }, api.ErrBig},
		{"Blob of 65535", func(w *Writer) { w.Blob(text(65535)) }, api.ErrBig},
		{"Blob of 65536", func(w *Writer) { w.Blob(text(65536)) }, api.ErrBig},
		{"Blob of 65538", func(w *Writer) { w.Blob(text(65538)) }, api.ErrBig},
		{"Hash of 0", func(w *Writer) { w.Hash("") }, api.ErrArg},
		{"Hash of 15", func(w *Writer) { w.Hash(text(15)) }, api.ErrArg},
		{"Hash of 17", func(w *Writer) { w.Hash(text(17)) }, api.ErrArg},
		{"Hash of 32", func(w *Writer) { w.Hash(text(32)) }, api.ErrArg},
		{"Hash of 4097", func(w *Writer) { w.Hash(text(4097)) }, api.ErrArg},
	}
}

// wrote checks what a Writer tells.
func wrote(t *testing.T, name string, w *Writer, want string, e api.Errno) {
	t.Helper()
	if got := w.Text(); got != want {
		t.Errorf("%s: Text() has %d bytes, %.40q; want %d, %.40q", name, len(got), got, len(want), want)
	}
	if w.Err() != e {
		t.Errorf("%s: Err() = %d; want %d", name, int(w.Err()), int(e))
	}
}

// stands checks what a Reader tells of where it is.
func stands(t *testing.T, name string, r *Reader, left int, e api.Errno) {
	t.Helper()
	if r.Left() != left || r.End() != e {
		t.Errorf("%s: Left() = %d, End() = %d; want %d, %d", name, r.Left(), int(r.End()), left, int(e))
	}
}

// readsNothing checks that a Reader with an error noted tells 0 and empty, and stays where it is.
func readsNothing(t *testing.T, name string, r *Reader, left int, e api.Errno) {
	t.Helper()
	stands(t, name, r, left, e)
	for range 2 {
		if n := r.Byte(); n != 0 {
			t.Errorf("%s: Byte() = %d behind an error", name, n)
		}
		if n := r.Num(); n != 0 {
			t.Errorf("%s: Num() = %d behind an error", name, n)
		}
		if s := r.Hash(); s != "" {
			t.Errorf("%s: Hash() = %q behind an error", name, s)
		}
		for _, most := range []int{-1, 0, 1, 4096, 4097} {
			if s := r.Blob(most); s != "" {
				t.Errorf("%s: Blob(%d) = %q behind an error", name, most, s)
			}
		}
		stands(t, name, r, left, e)
	}
}

// The chapter's example.

func TestExample(t *testing.T) {
	var w Writer
	w.Byte(5)
	w.Blob("ab")
	wrote(t, "Byte(5), Blob(ab)", &w, "\x05\x00\x02\x61\x62", api.OK)
	r := Read("\x05\x00\x02\x61\x62")
	if n, s := r.Byte(), r.Blob(2); n != 5 || s != "ab" {
		t.Errorf("Byte(), Blob(2) = %d, %q", n, s)
	}
	stands(t, "the example", r, 0, api.OK)
}

// P3.1

func TestNothingWritten(t *testing.T) {
	var w Writer
	wrote(t, "the zero value", &w, "", api.OK)
	wrote(t, "a new one", new(Writer), "", api.OK)
}

func TestEachPartIsItsBytes(t *testing.T) {
	for _, x := range []struct {
		name  string
		write func(w *Writer)
		want  string
	}{
		{"Byte(0)", func(w *Writer) { w.Byte(0) }, "\x00"},
		{"Byte(7)", func(w *Writer) { w.Byte(7) }, "\x07"},
		{"Byte(128)", func(w *Writer) { w.Byte(128) }, "\x80"},
		{"Byte(255)", func(w *Writer) { w.Byte(255) }, "\xff"},
		{"Num(0)", func(w *Writer) { w.Num(0) }, "\x00\x00\x00\x00\x00\x00\x00\x00"},
		{"Num", func(w *Writer) { w.Num(0x0102030405060708) }, "\x01\x02\x03\x04\x05\x06\x07\x08"},
		{"Num(2^64 - 1)", func(w *Writer) { w.Num(math.MaxUint64) }, "\xff\xff\xff\xff\xff\xff\xff\xff"},
		{"Blob of 0", func(w *Writer) { w.Blob("") }, "\x00\x00"},
		{"Blob of 3", func(w *Writer) { w.Blob("x\x00\xff") }, "\x00\x03x\x00\xff"},
		{"Blob of 255", func(w *Writer) { w.Blob(text(255)) }, "\x00\xff" + text(255)},
		{"Blob of 256", func(w *Writer) { w.Blob(text(256)) }, "\x01\x00" + text(256)},
		{"Blob of 4095", func(w *Writer) { w.Blob(text(4095)) }, "\x0f\xff" + text(4095)},
		{"Blob of 4096", func(w *Writer) { w.Blob(text(4096)) }, "\x10\x00" + text(4096)},
		{"Hash of 16", func(w *Writer) { w.Hash("0123456789abcdef") }, "0123456789abcdef"},
	} {
		var w Writer
		x.write(&w)
		wrote(t, x.name, &w, x.want, api.OK)
	}
}

func TestPartsStandBehindEachOther(t *testing.T) {
	var w Writer
	want := ""
	for _, p := range parts() {
		p.write(&w)
		want += p.bytes
		// Told in between, and twice: telling takes nothing away.
		wrote(t, p.name, &w, want, api.OK)
		wrote(t, p.name, &w, want, api.OK)
	}
}

func TestManyParts(t *testing.T) {
	const many = 200000
	var w Writer
	for i := range many {
		w.Byte(i % 256)
	}
	want := make([]byte, many)
	for i := range want {
		want[i] = byte(i)
	}
	wrote(t, "many bytes", &w, string(want), api.OK)
}

func TestWhatHasAnErrorWritesNothing(t *testing.T) {
	for _, x := range wrongs() {
		var w Writer
		x.write(&w)
		wrote(t, x.name, &w, "", x.e)
		for _, p := range parts() {
			var w Writer
			p.write(&w)
			x.write(&w)
			wrote(t, x.name+" behind "+p.name, &w, "", x.e)
			p.write(&w)
			wrote(t, x.name+" ahead of "+p.name, &w, "", x.e)
		}
	}
}

func TestErrIsTheFirstError(t *testing.T) {
	for _, x := range wrongs() {
		for _, y := range wrongs() {
			var w Writer
			w.Byte(1)
			x.write(&w)
			y.write(&w)
			wrote(t, x.name+", "+y.name, &w, "", x.e)
			w.Num(2)
			y.write(&w)
			wrote(t, x.name+", "+y.name+" twice", &w, "", x.e)
		}
	}
}

func TestCopiesOfAWriterGoTheirOwnWay(t *testing.T) {
	var w Writer
	w.Blob("ab")
	w.Byte(1)
	first := w
	first.Byte(2)
	second := w
	second.Byte(3)
	w.Byte(4)
	third := first
	third.Byte(256)
	first.Hash(text(16))
	second.Num(5)
	wrote(t, "the original", &w, "\x00\x02ab\x01\x04", api.OK)
	wrote(t, "the first copy", &first, "\x00\x02ab\x01\x02"+text(16), api.OK)
	wrote(t, "the second copy", &second, "\x00\x02ab\x01\x03"+num.Put(5), api.OK)
	wrote(t, "the third copy", &third, "", api.ErrArg)
}

// P3.2

func TestEachPartTakesItsBytes(t *testing.T) {
	for _, p := range parts() {
		for _, behind := range []string{"", "x", text(20)} {
			r := Read(p.bytes + behind)
			if !p.back(r) {
				t.Errorf("%s of %.40q is not read as it was", p.name, p.bytes)
			}
			e := api.ErrForm
			if behind == "" {
				e = api.OK
			}
			stands(t, p.name, r, len(behind), e)
		}
	}
}

func TestPartsThatEndTooEarly(t *testing.T) {
	for _, p := range parts() {
		for _, short := range []int{0, 1, 2, 7, 15, len(p.bytes) - 2, len(p.bytes) - 1} {
			if short < 0 || short >= len(p.bytes) {
				continue
			}
			r := Read(p.bytes[:short])
			switch p.name {
			case "Byte":
				r.Byte()
			case "Num":
				r.Num()
			case "Hash":
				r.Hash()
			case "Blob":
				r.Blob(4096)
			}
			readsNothing(t, p.name+" cut short", r, short, api.ErrShort)
		}
	}
}

func TestWithTooFewBytesNothingIsTold(t *testing.T) {
	if n := Read("").Byte(); n != 0 {
		t.Errorf("Byte() of none = %d", n)
	}
	if n := Read(text(7)).Num(); n != 0 {
		t.Errorf("Num() of 7 bytes = %d", n)
	}
	if s := Read(text(15)).Hash(); s != "" {
		t.Errorf("Hash() of 15 bytes = %q", s)
	}
	if s := Read("\x00\x03ab").Blob(3); s != "" {
		t.Errorf("Blob(3) of 2 bytes of 3 = %q", s)
	}
}

func TestBlobsAndTheirBounds(t *testing.T) {
	for _, x := range []struct {
		name string
		s    string
		most int
		want string
		left int
		e    api.Errno
	}{
		{"none", "", 9, "", 0, api.ErrShort},
		{"half a length", "\x00", 9, "", 1, api.ErrShort},
		{"half a length that is high", "\xff", 9, "", 1, api.ErrShort},
		{"half a length, most below 0", "\x00", -1, "", 1, api.ErrShort},
		{"empty", "\x00\x00", 0, "", 0, api.OK},
		{"empty, most 5", "\x00\x00", 5, "", 0, api.OK},
		{"empty, most -1", "\x00\x00", -1, "", 2, api.ErrBig},
		{"empty, the lowest most", "\x00\x00", math.MinInt, "", 2, api.ErrBig},
		{"most", "\x00\x02ab", 2, "ab", 0, api.OK},
		{"below most", "\x00\x02ab", 3, "ab", 0, api.OK},
		{"the highest most", "\x00\x02ab", math.MaxInt, "ab", 0, api.OK},
		{"bytes behind", "\x00\x02abc", 2, "ab", 1, api.ErrForm},
		{"above most", "\x00\x02ab", 1, "", 4, api.ErrBig},
		{"above most of 0", "\x00\x01a", 0, "", 3, api.ErrBig},
		{"above most, and too few bytes", "\x00\x02a", 1, "", 3, api.ErrBig},
		{"above most, and no bytes", "\x00\x02", -1, "", 2, api.ErrBig},
		{"one byte too few", "\x00\x02a", 2, "", 3, api.ErrShort},
		{"no byte", "\x00\x01", 1, "", 2, api.ErrShort},
		{"the high byte counts", "\x01\x02" + text(258), 258, text(258), 0, api.OK},
		{"the high byte counts, above most", "\x01\x02" + text(258), 257, "", 260, api.ErrBig},
		{"the high byte counts, one too few", "\x01\x02" + text(257), 258, "", 259, api.ErrShort},
		{"4096", "\x10\x00" + text(4096), 4096, text(4096), 0, api.OK},
		{"4096, most above", "\x10\x00" + text(4096), 9999, text(4096), 0, api.OK},
		{"4096, most below", "\x10\x00" + text(4096), 4095, "", 4098, api.ErrBig},
		{"4096, one too few", "\x10\x00" + text(4095), 4096, "", 4097, api.ErrShort},
		{"4097", "\x10\x01" + text(4097), 4097, "", 4099, api.ErrBig},
		{"4097, most above", "\x10\x01" + text(4097), 9999, "", 4099, api.ErrBig},
		{"4097, most below", "\x10\x01" + text(4097), 4096, "", 4099, api.ErrBig},
		{"4097, too few bytes", "\x10\x01", math.MaxInt, "", 2, api.ErrBig},
		{"65535", "\xff\xff" + text(65535), 65535, "", 65537, api.ErrBig},
	} {
		r := Read(x.s)
		if got := r.Blob(x.most); got != x.want {
			t.Errorf("%s: Blob(%d) = %.40q; want %.40q", x.name, x.most, got, x.want)
		}
		stands(t, x.name, r, x.left, x.e)
		if x.e == api.ErrShort || x.e == api.ErrBig {
			readsNothing(t, x.name, r, x.left, x.e)
		}
	}
}

func TestBehindAnErrorNothingIsRead(t *testing.T) {
	// There would be enough for each kind, but for the first error.
	s := "\x00\x05" + text(30)
	r := Read(s)
	r.Blob(4)
	readsNothing(t, "a text above most", r, len(s), api.ErrBig)

	r = Read("\x01\x02\x03\x04\x05\x06\x07\x08\x09")
	if r.Byte() != 1 || r.Hash() != "" {
		t.Error("Byte(), Hash() of 9 bytes")
	}
	readsNothing(t, "a hash behind a byte", r, 8, api.ErrShort)
}

func TestFail(t *testing.T) {
	s := "\x00\x01" + text(30)
	r := Read(s)
	r.Fail(api.OK)
	stands(t, "Fail(OK)", r, len(s), api.ErrForm)
	if got := r.Blob(1); got != text(1) {
		t.Errorf("Blob(1) behind Fail(OK) = %q", got)
	}
	for e := api.ErrArg; e <= api.ErrScript; e++ {
		r := Read(s)
		r.Byte()
		r.Fail(api.OK)
		r.Fail(e)
		readsNothing(t, "Fail", r, len(s)-1, e)
		r.Fail(api.OK)
		readsNothing(t, "Fail, Fail(OK)", r, len(s)-1, e)
		r.Fail(api.ErrTwice)
		r.Fail(api.ErrSig)
		readsNothing(t, "Fail, Fail of others", r, len(s)-1, e)
	}
}

func TestFailBehindAnErrorThatWasFound(t *testing.T) {
	r := Read("\x00\x02ab")
	r.Blob(1)
	r.Fail(api.ErrForm)
	readsNothing(t, "Fail behind ErrBig", r, 4, api.ErrBig)
	r = Read("ab")
	r.Num()
	r.Fail(api.ErrRule)
	r.Fail(api.OK)
	readsNothing(t, "Fail behind ErrShort", r, 2, api.ErrShort)
	r = Read("ab")
	r.Fail(api.ErrRule)
	r.Num()
	readsNothing(t, "Fail ahead of what would be short", r, 2, api.ErrRule)
}

func TestReadersGoTheirOwnWay(t *testing.T) {
	s := "\x01\x02\x03"
	a, b := Read(s), Read(s)
	a.Byte()
	other := *a
	other.Byte()
	other.Num()
	stands(t, "the copy", &other, 1, api.ErrShort)
	if n := a.Byte(); n != 2 {
		t.Errorf("the original's Byte() = %d", n)
	}
	stands(t, "the original", a, 1, api.ErrForm)
	stands(t, "the other one", b, 3, api.ErrForm)
}

// P3.3

func TestLeftAndEnd(t *testing.T) {
	stands(t, "none", Read(""), 0, api.OK)
	stands(t, "one byte", Read("\x00"), 1, api.ErrForm)
	stands(t, "many bytes", Read(text(100000)), 100000, api.ErrForm)

	r := Read(text(27))
	r.Byte()
	stands(t, "behind a byte", r, 26, api.ErrForm)
	r.Num()
	stands(t, "behind a number", r, 18, api.ErrForm)
	r.Hash()
	stands(t, "behind a hash", r, 2, api.ErrForm)
	r.Byte()
	// That bytes were left is told, not noted: reading goes on.
	if n := r.Byte(); n != int(text(27)[26]) {
		t.Errorf("the last Byte() = %d", n)
	}
	stands(t, "at the end", r, 0, api.OK)
	r.Byte()
	stands(t, "behind the end", r, 0, api.ErrShort)

	r = Read("")
	r.Fail(api.ErrLate)
	stands(t, "none, but an error", r, 0, api.ErrLate)
	r = Read("ab")
	r.Fail(api.ErrLate)
	stands(t, "bytes left, and an error", r, 2, api.ErrLate)
}

// P3.4

// shuffled are n of the parts, in an order that hangs on seed alone.
func shuffled(seed uint32, n int) []part {
	all := parts()
	l := make([]part, n)
	for i := range l {
		seed = seed*1664525 + 1013904223
		l[i] = all[int(seed>>16)%len(all)]
	}
	return l
}

func written(l []part) string {
	var w Writer
	for _, p := range l {
		p.write(&w)
	}
	return w.Text()
}

func TestWhatIsWrittenIsRead(t *testing.T) {
	for seed := range uint32(60) {
		l := shuffled(seed, int(seed)%12)
		for _, behind := range []string{"", "\x00", text(300)} {
			r := Read(written(l) + behind)
			left := len(written(l)) + len(behind)
			for i, p := range l {
				stands(t, "ahead of a part", r, left, api.ErrForm)
				if !p.back(r) {
					t.Fatalf("seed %d: the part %d (%s) is not read as it was", seed, i, p.name)
				}
				left -= len(p.bytes)
			}
			e := api.ErrForm
			if behind == "" {
				e = api.OK
			}
			stands(t, "behind all parts", r, len(behind), e)
		}
	}
}

func TestWhatIsCutIsNotReadToItsEnd(t *testing.T) {
	l := []part{bytePart(9), blobPart("abc"), numPart(77), hashPart(text(16)), blobPart(""), bytePart(0)}
	s := written(l)
	for cut := range len(s) {
		r := Read(s[:cut])
		for _, p := range l {
			p.back(r)
		}
		if e := r.End(); e != api.ErrShort {
			t.Errorf("of %d bytes the first %d: End() = %d; want ErrShort", len(s), cut, int(e))
		}
	}
}

func TestAWriterWithAnErrorIsReadAsNothing(t *testing.T) {
	for _, x := range wrongs() {
		var w Writer
		w.Byte(1)
		x.write(&w)
		r := Read(w.Text())
		stands(t, x.name, r, 0, api.OK)
		r.Byte()
		stands(t, x.name, r, 0, api.ErrShort)
	}
}
