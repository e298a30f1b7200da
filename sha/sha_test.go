package sha

import (
	"crypto/sha256"
	"encoding/hex"
	"math/big"
	"strings"
	"testing"

	"turnstile/api"
)

// lengths are those round the ends of the padding and of the blocks, and some beyond.
var lengths = []int{0, 1, 2, 3, 54, 55, 56, 57, 62, 63, 64, 65, 66, 118, 119, 120, 121, 127, 128, 129, 183, 184, 191, 192, 193, 255, 256, 1000, 4096, 65535, 65536, 65537}

// text is n bytes, of which no two blocks are alike.
func text(n int) string {
	b := make([]byte, n)
	for i := range b {
		b[i] = byte(i*7 + i>>6*13 + i>>8)
	}
	return string(b)
}

// known is the sum by the library.
func known(s string) string {
	sum := sha256.Sum256([]byte(s))
	return string(sum[:])
}

func TestTablesAreRootsOfPrimes(t *testing.T) {
	one := new(big.Int).Lsh(big.NewInt(1), 32)
	word := func(root *big.Int) uint32 { return uint32(new(big.Int).Mod(root, one).Uint64()) }
	at := 0
	for prime := int64(2); at < len(roots); prime++ {
		if !big.NewInt(prime).ProbablyPrime(10) {
			continue
		}
		if at < len(start) {
			square := new(big.Int).Sqrt(new(big.Int).Lsh(big.NewInt(prime), 64))
			if start[at] != word(square) {
				t.Errorf("start[%d] = %08x; want %08x", at, start[at], word(square))
			}
		}
		cube := cubeRoot(new(big.Int).Lsh(big.NewInt(prime), 96))
		if roots[at] != word(cube) {
			t.Errorf("roots[%d] = %08x; want %08x", at, roots[at], word(cube))
		}
		at++
	}
}

// cubeRoot is the greatest number below 2^36 whose third power is not above n.
func cubeRoot(n *big.Int) *big.Int {
	root := new(big.Int)
	for bit := 35; bit >= 0; bit-- {
		root.SetBit(root, bit, 1)
		if new(big.Int).Exp(root, big.NewInt(3), nil).Cmp(n) > 0 {
			root.SetBit(root, bit, 0)
		}
	}
	return root
}

// P2.1

func TestSumOfKnownTexts(t *testing.T) {
	for s, want := range map[string]string{
		"":    "e3b0c44298fc1c149afbf4c8996fb92427ae41e4649b934ca495991b7852b855",
		"abc": "ba7816bf8f01cfea414140de5dae2223b00361a396177a9cb410ff61f20015ad",
		"abcdbcdecdefdefgefghfghighijhijkijkljklmklmnlmnomnopnopq":                                                         "248d6a61d20638b8e5c026930c3e6039a33ce45964ff2167f6ecedd419db06c1",
		"abcdefghbcdefghicdefghijdefghijkefghijklfghijklmghijklmnhijklmnoijklmnopjklmnopqklmnopqrlmnopqrsmnopqrstnopqrstu": "cf5b16a778af8380036ce59e7b0492370b249b11e8f07a51afac45037afee9d1",
		strings.Repeat("a", 1000000): "cdc76e5c9914fb9281a1c7e284d73e67f1809a48a497200e046d39ccc7112cd0",
	} {
		if got := Hex(Sum(s)); got != want {
			t.Errorf("Hex(Sum(%.20q)) = %s; want %s", s, got, want)
		}
	}
}

func TestSumRoundEveryBlockEnd(t *testing.T) {
	check := func(s string) {
		got, want := Sum(s), known(s)
		if got != want {
			t.Errorf("Sum of %d bytes = %x; want %x", len(s), got, want)
		}
		if Short(s) != want[:16] {
			t.Errorf("Short of %d bytes = %x; want %x", len(s), Short(s), want[:16])
		}
	}
	for n := range 400 {
		check(text(n))
		check(strings.Repeat("\x00", n))
		check(strings.Repeat("\xff", n))
	}
	for _, n := range lengths {
		check(text(n))
	}
}

func TestSumTellsBytesNotRunes(t *testing.T) {
	for _, s := range []string{"\xff\xfe", "é", "\x80", "\xed\xa0\x80", "日本"} {
		if Sum(s) != known(s) {
			t.Errorf("Sum(%q) = %x; want %x", s, Sum(s), known(s))
		}
	}
}

func TestPaddingTellsTheLengthInEightBytes(t *testing.T) {
	for took, want := range map[int]string{
		0:          "\x00\x00\x00\x00\x00\x00\x00\x00",
		3:          "\x00\x00\x00\x00\x00\x00\x00\x18",
		1 << 29:    "\x00\x00\x00\x01\x00\x00\x00\x00",
		1<<31 - 1:  "\x00\x00\x00\x03\xff\xff\xff\xf8",
		0x12345678: "\x00\x00\x00\x00\x91\xa2\xb3\xc0",
	} {
		got := padding(took)
		if (took+len(got))%size != 0 || len(got) > size+8 || got[0] != 128 || got[len(got)-8:] != want {
			t.Errorf("padding(%d) = %x; want its end %x", took, got, want)
		}
		if strings.Trim(got[1:len(got)-8], "\x00") != "" {
			t.Errorf("padding(%d) = %x: not zeros between", took, got)
		}
	}
}

// tagged is what Tag sums, written out.
func tagged(word string, parts ...string) string {
	s := string([]byte{byte(len(word) % 256)}) + word
	for _, p := range parts {
		s += string([]byte{byte(len(p) % 65536 / 256), byte(len(p) % 256)}) + p
	}
	return s
}

func TestTag(t *testing.T) {
	for _, x := range []struct {
		word  string
		parts []string
	}{
		{"", nil},
		{"w", nil},
		{"w", []string{}},
		{"", []string{""}},
		{"", []string{"", ""}},
		{"w", []string{"a", ""}},
		{"w", []string{"", "a"}},
		{"leaf", []string{"abc", text(55), text(64), "z"}},
		{text(255), []string{"a"}},
		{text(256), []string{"a"}},
		{text(257), []string{"a"}},
		{text(1000), nil},
		{"", []string{text(255), text(256), text(258)}},
		{"w", []string{text(65535)}},
		{"w", []string{text(65536)}},
		{"w", []string{text(65537), "b"}},
		{"w", []string{text(200000), text(70000)}},
	} {
		got, want := Tag(x.word, x.parts...), known(tagged(x.word, x.parts...))[:api.Wide]
		if got != want {
			t.Errorf("Tag(%.9q.., %d parts) = %x; want %x", x.word, len(x.parts), got, want)
		}
	}
}

func TestTagByExactBytes(t *testing.T) {
	for _, x := range []struct{ got, sum string }{
		{Tag("w"), "\x01w"},
		{Tag("w", "a", ""), "\x01w\x00\x01a\x00\x00"},
		{Tag("", text(258)), "\x00\x01\x02" + text(258)},
		{Tag(text(256)), "\x00" + text(256)},
		{Tag(text(257)), "\x01" + text(257)},
		{Tag("w", text(65536)), "\x01w\x00\x00" + text(65536)},
		{Tag("w", text(65537+256)), "\x01w\x01\x01" + text(65537+256)},
	} {
		if x.got != Short(x.sum) {
			t.Errorf("Tag = %x; want the short sum of %.12x..", x.got, x.sum)
		}
	}
}

func TestTagTellsPartsApart(t *testing.T) {
	seen := map[string]string{}
	for name, tag := range map[string]string{
		"ab|c": Tag("w", "ab", "c"),
		"a|bc": Tag("w", "a", "bc"),
		"abc|": Tag("w", "abc", ""),
		"|abc": Tag("w", "", "abc"),
		"abc":  Tag("w", "abc"),
		"wa":   Tag("wa", "bc"),
	} {
		if other, ok := seen[tag]; ok {
			t.Errorf("%s and %s have one tag", name, other)
		}
		seen[tag] = name
	}
}

func TestTagLeavesItsParts(t *testing.T) {
	room := []string{"a", "b", "kept"}
	Tag("w", room[:2]...)
	if room[0] != "a" || room[1] != "b" || room[2] != "kept" {
		t.Error("parts were changed:", room)
	}
}

// P2.2

func TestNewTookNothing(t *testing.T) {
	h := New()
	if h.Len() != 0 || h.Sum() != known("") {
		t.Errorf("New: Len %d, Sum %x", h.Len(), h.Sum())
	}
	h.Write("")
	if h.Len() != 0 || h.Sum() != known("") {
		t.Errorf("Write of nothing: Len %d, Sum %x", h.Len(), h.Sum())
	}
	h.Write("abc")
	if other := New(); other.Len() != 0 || other.Sum() != known("") {
		t.Error("a new one took what an older one took")
	}
}

func TestSumLetsMoreBeTaken(t *testing.T) {
	s := text(300)
	h := New()
	for n := range s {
		if h.Len() != n || h.Sum() != known(s[:n]) || h.Sum() != known(s[:n]) {
			t.Fatalf("behind %d bytes: Len %d, Sum %x", n, h.Len(), h.Sum())
		}
		h.Write(s[n : n+1])
	}
	if h.Sum() != known(s) {
		t.Errorf("Sum = %x; want %x", h.Sum(), known(s))
	}
}

func TestCopyGoesItsOwnWay(t *testing.T) {
	for _, n := range lengths {
		s := text(n)
		h := New()
		h.Write(s)
		c := h.Copy()
		if c.Len() != n || c.Sum() != known(s) {
			t.Errorf("copy behind %d bytes: Len %d, Sum %x", n, c.Len(), c.Sum())
		}
		h.Write("original" + text(70))
		if c.Len() != n || c.Sum() != known(s) {
			t.Errorf("copy behind %d bytes followed its original", n)
		}
		c.Write("copy")
		d := c.Copy()
		d.Write("of a copy")
		if h.Len() != n+78 || h.Sum() != known(s+"original"+text(70)) {
			t.Errorf("original behind %d bytes followed its copy", n)
		}
		if c.Sum() != known(s+"copy") || d.Sum() != known(s+"copyof a copy") {
			t.Errorf("copies behind %d bytes: %x, %x", n, c.Sum(), d.Sum())
		}
	}
}

// P2.3

func TestHex(t *testing.T) {
	for s, want := range map[string]string{
		"":             "",
		"\x00":         "00",
		"\x0a":         "0a",
		"\xa0":         "a0",
		"\x00\x7f\xff": "007fff",
		"abc":          "616263",
		"é":            "c3a9",
	} {
		if got := Hex(s); got != want {
			t.Errorf("Hex(%q) = %q; want %q", s, got, want)
		}
	}
	var all []byte
	for i := range 256 {
		all = append(all, byte(i))
		if got, want := Hex(string(all[i:])), hex.EncodeToString(all[i:]); got != want {
			t.Errorf("Hex of the byte %d = %q; want %q", i, got, want)
		}
	}
	if got, want := Hex(string(all)), hex.EncodeToString(all); got != want {
		t.Errorf("Hex of all bytes = %q; want %q", got, want)
	}
}

// P2.4

func TestPartsMakeNoDifference(t *testing.T) {
	for _, n := range []int{0, 1, 55, 56, 63, 64, 65, 119, 120, 128, 129, 200, 513} {
		s := text(n)
		for step := 1; step <= 131; step++ {
			h := New()
			for at := 0; at < n; at += step {
				h.Write(s[at:min(n, at+step)])
				if at%3 == 0 {
					h.Sum()
				}
			}
			if h.Len() != n || h.Sum() != known(s) {
				t.Fatalf("%d bytes by %d: Len %d, Sum %x; want %x", n, step, h.Len(), h.Sum(), known(s))
			}
		}
	}
}

func TestEveryCutInThreeMakesNoDifference(t *testing.T) {
	s := text(193)
	want := known(s)
	for i := range len(s) + 1 {
		for _, j := range []int{i, min(i+1, len(s)), min(i+63, len(s)), min(i+64, len(s)), min(i+65, len(s)), len(s)} {
			h := New()
			h.Write(s[:i])
			h.Write(s[i:j])
			h.Write("")
			h.Write(s[j:])
			if h.Len() != len(s) || h.Sum() != want {
				t.Fatalf("cut at %d and %d: Len %d, Sum %x", i, j, h.Len(), h.Sum())
			}
		}
	}
}

func FuzzParts(f *testing.F) {
	f.Add("", "")
	f.Add("abc", text(61))
	f.Add(text(64), text(120))
	f.Fuzz(func(t *testing.T, a, b string) {
		h := New()
		h.Write(a)
		h.Write(b)
		if h.Sum() != known(a+b) || Sum(a+b) != known(a+b) || h.Len() != len(a+b) {
			t.Errorf("%q, %q: %x; want %x", a, b, h.Sum(), known(a+b))
		}
		if Tag(a, b) != known(tagged(a, b))[:16] || Hex(a) != hex.EncodeToString([]byte(a)) {
			t.Errorf("Tag or Hex of %q, %q", a, b)
		}
	})
}

func BenchmarkSum(b *testing.B) {
	s := text(1 << 16)
	b.SetBytes(int64(len(s)))
	for b.Loop() {
		Sum(s)
	}
}

func BenchmarkTag(b *testing.B) {
	part := text(16)
	for b.Loop() {
		Tag("leaf", part, part)
	}
}
