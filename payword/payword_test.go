package payword

import (
	"crypto/sha256"
	"encoding/hex"
	"math"
	"strings"
	"testing"
	"unsafe"

	"turnstile/api"
)

// text is n bytes of all kinds, no two neighbours alike.
func text(n int) string {
	b := make([]byte, n)
	for i := range b {
		b[i] = byte(i*31 + i>>8*7 + 0xf9)
	}
	return string(b)
}

// tagged is a tag of one part, by the library's sum and with the lengths written out.
func tagged(word, part string) string {
	lengths := []byte{byte(len(part) >> 8), byte(len(part))}
	sum := sha256.Sum256([]byte(string([]byte{byte(len(word))}) + word + string(lengths) + part))
	return string(sum[:16])
}

// path is token, and the n that follow from it, one behind the other.
func path(token string, n int) []string {
	l := []string{token}
	for i := range n {
		l = append(l, tagged("payword", l[i]))
	}
	return l
}

// chain is a chain that must be there.
func chain(t *testing.T, seed string, n int) *Chain {
	t.Helper()
	c, e := New(seed, n)
	if c == nil || e != api.OK {
		t.Fatalf("New(%.20q, %d) = %v, %d; want a chain", seed, n, c, int(e))
	}
	return c
}

// token is a token that must be there.
func token(t *testing.T, c *Chain, i int) string {
	t.Helper()
	s, e := c.Token(i)
	if len(s) != api.Wide || e != api.OK {
		t.Fatalf("Token(%d) of %d = %x, %d; want 16 bytes", i, c.Len(), s, int(e))
	}
	return s
}

// counts checks what Count tells.
func counts(t *testing.T, anchor, token string, most, want int, e api.Errno) {
	t.Helper()
	if n, f := Count(anchor, token, most); n != want || f != e {
		t.Errorf("Count(%x, %x, %d) = %d, %d; want %d, %d", anchor, token, most, n, int(f), want, int(e))
	}
}

// The examples of the chapter and of the whole.

func TestExamples(t *testing.T) {
	c := chain(t, "any", 3)
	counts(t, c.Anchor(), token(t, c, 2), 3, 2, api.OK)

	c = chain(t, "other", 9)
	n, e := Count(c.Anchor(), token(t, c, 4), 9)
	if v, f := Value(n, 5); v != 20 || e != api.OK || f != api.OK {
		t.Errorf("four steps, each worth 5: %d, %d, %d", v, int(e), int(f))
	}
}

// P4.1

func TestNextIsATag(t *testing.T) {
	for _, n := range []int{0, 1, 15, 16, 17, 32, 255, 256, 4096, 65535, 65536, 65537} {
		if got, want := Next(text(n)), tagged("payword", text(n)); got != want {
			t.Errorf("Next of %d bytes = %x; want %x", n, got, want)
		}
	}
}

func TestNextByExactBytes(t *testing.T) {
	sum := sha256.Sum256([]byte("\x07payword\x00\x10aaaaaaaaaaaaaaaa"))
	if got, want := hex.EncodeToString([]byte(Next("aaaaaaaaaaaaaaaa"))), hex.EncodeToString(sum[:16]); got != want {
		t.Errorf("Next = %s; want %s", got, want)
	}
}

func TestFarIsNextSoManyTimes(t *testing.T) {
	for _, from := range []string{text(16), strings.Repeat("\x00", 16), strings.Repeat("\xff", 16), "éééééééé"} {
		for n, want := range path(from, 4096) {
			if n > 70 && n%411 != 0 && n < 4095 {
				continue
			}
			if got := Far(from, n); got != want {
				t.Errorf("Far(%x, %d) = %x; want %x", from, n, got, want)
			}
		}
	}
}

func TestFarOfWhatIsNone(t *testing.T) {
	for _, size := range []int{0, 1, 15, 17, 32, 4096, 65552} {
		for _, n := range []int{-1, 0, 1, 2, 4096, 4097} {
			if got := Far(text(size), n); got != "" {
				t.Errorf("Far of %d bytes, %d = %x; want nothing", size, n, got)
			}
		}
	}
	for _, n := range []int{-1, -2, -4096, 4097, 4098, 8192, 1 << 32, 1<<32 + 1, math.MinInt, math.MaxInt} {
		if got := Far(text(16), n); got != "" {
			t.Errorf("Far of 16 bytes, %d = %x; want nothing", n, got)
		}
	}
}

func TestFarGoesOnWhereItEnded(t *testing.T) {
	for _, a := range []int{0, 1, 2, 100, 2048, 4095, 4096} {
		for _, b := range []int{0, 1, 2, 100, 2048, 4096} {
			if a+b > 4096 {
				continue
			}
			if got, want := Far(Far(text(16), a), b), Far(text(16), a+b); got != want {
				t.Errorf("Far of %d and %d steps = %x; want %x", a, b, got, want)
			}
		}
	}
}

func TestFarIsNewMemory(t *testing.T) {
	from := text(17)[:16]
	if got := Far(from, 0); got != from || unsafe.StringData(got) == unsafe.StringData(from) {
		t.Errorf("Far(%x, 0) = %x: not the same bytes in new memory", from, got)
	}
}

// P4.2

func TestNewOfHowMany(t *testing.T) {
	for _, n := range []int{0, -1, -2, -4096, 4097, 4098, 8192, 1 << 32, 1<<32 + 1, math.MinInt, math.MaxInt} {
		if c, e := New("seed", n); c != nil || e != api.ErrArg {
			t.Errorf("New(seed, %d) = %v, %d; want nil, ErrArg", n, c, int(e))
		}
	}
	for _, n := range []int{1, 2, 3, 4095, 4096} {
		if c := chain(t, "seed", n); c.Len() != n {
			t.Errorf("New(seed, %d) has %d tokens", n, c.Len())
		}
	}
}

func TestEachTokenLeadsToTheOneAhead(t *testing.T) {
	for _, n := range []int{1, 2, 3, 7, 64, 4095, 4096} {
		for _, seed := range []string{"", "a", text(16), text(4096), text(65536), text(65537)} {
			c := chain(t, seed, n)
			want := path(tagged("seed", seed), n)
			for i := range n + 1 {
				if got := token(t, c, i); got != want[n-i] {
					t.Fatalf("token %d of %d = %x; want %x", i, n, got, want[n-i])
				}
				if i > 0 && Next(token(t, c, i)) != token(t, c, i-1) {
					t.Fatalf("token %d of %d does not lead to the one ahead", i, n)
				}
			}
			if c.Anchor() != want[n] || c.Len() != n {
				t.Errorf("a chain of %d: Anchor %x, Len %d; want %x", n, c.Anchor(), c.Len(), want[n])
			}
		}
	}
}

func TestLastTokenByExactBytes(t *testing.T) {
	sum := sha256.Sum256([]byte("\x04seed\x00\x02ab"))
	for _, n := range []int{1, 2, 4096} {
		if got, want := token(t, chain(t, "ab", n), n), string(sum[:16]); got != want {
			t.Errorf("the last of %d tokens = %x; want %x", n, got, want)
		}
	}
}

func TestTokenOfWhatIsNone(t *testing.T) {
	for _, n := range []int{1, 2, 5, 4096} {
		c := chain(t, "seed", n)
		for _, i := range []int{-1, -2, -n, -n - 1, n + 1, n + 2, 4097, 1 << 32, 1<<32 + 1, math.MinInt, math.MaxInt} {
			if s, e := c.Token(i); s != "" || e != api.ErrArg {
				t.Errorf("Token(%d) of %d = %x, %d; want nothing, ErrArg", i, n, s, int(e))
			}
		}
		if token(t, c, 0) != c.Anchor() || token(t, c, n) != tagged("seed", "seed") || c.Len() != n {
			t.Errorf("a chain of %d is another one behind calls with errors", n)
		}
	}
}

func TestChainsHangOnTheirSeedsAlone(t *testing.T) {
	a, b, other := chain(t, "a", 5), chain(t, "a", 5), chain(t, "b", 5)
	longer := chain(t, "a", 8)
	for i := range 6 {
		if token(t, a, i) != token(t, b, i) {
			t.Errorf("token %d differs between two chains of one seed", i)
		}
		if token(t, a, i) == token(t, other, i) {
			t.Errorf("token %d is the same for two seeds", i)
		}
		if token(t, a, i) != token(t, longer, i+3) {
			t.Errorf("token %d is not token %d of the chain that is 3 longer", i, i+3)
		}
	}
}

func TestCopyTellsTheSame(t *testing.T) {
	c := chain(t, "seed", 4)
	d := *c
	*c = *chain(t, "other", 2)
	want := path(tagged("seed", "seed"), 4)
	if d.Len() != 4 || d.Anchor() != want[4] {
		t.Errorf("the copy: Len %d, Anchor %x", d.Len(), d.Anchor())
	}
	for i := range 5 {
		if token(t, &d, i) != want[4-i] {
			t.Errorf("token %d of the copy = %x; want %x", i, token(t, &d, i), want[4-i])
		}
	}
	if c.Len() != 2 || c.Anchor() != path(tagged("seed", "other"), 2)[2] {
		t.Error("the original followed its copy")
	}
}

// P4.3

func TestCountOfWhatIsNone(t *testing.T) {
	x := text(16)
	for _, size := range []int{0, 1, 15, 17, 32, 65552} {
		for _, most := range []int{-1, 0, 1, 4096, 4097} {
			counts(t, text(size), x, most, 0, api.ErrArg)
			counts(t, x, text(size), most, 0, api.ErrArg)
			counts(t, text(size), text(size), most, 0, api.ErrArg)
			counts(t, Next(text(size)), text(size), most, 0, api.ErrArg)
		}
	}
	for _, most := range []int{-1, -2, -4096, 4097, 4098, 8192, 1 << 32, 1<<32 + 1, math.MinInt, math.MaxInt} {
		counts(t, x, x, most, 0, api.ErrArg)
		counts(t, Next(x), x, most, 0, api.ErrArg)
		counts(t, text(17)[1:], x, most, 0, api.ErrArg)
	}
}

func TestCountTellsTheLeastUpToMost(t *testing.T) {
	from := text(16)
	steps := path(from, 4096)
	for _, n := range []int{0, 1, 2, 3, 63, 64, 1000, 4094, 4095, 4096} {
		for _, most := range []int{0, 1, n - 2, n - 1, n, n + 1, n + 2, 2 * n, 4095, 4096} {
			switch {
			case most < 0 || most > 4096:
				counts(t, steps[n], from, most, 0, api.ErrArg)
			case most < n:
				counts(t, steps[n], from, most, 0, api.ErrForm)
			default:
				counts(t, steps[n], from, most, n, api.OK)
			}
		}
	}
}

func TestCountWhereNoStepLeads(t *testing.T) {
	from := text(16)
	near := []byte(Next(from))
	near[15] ^= 1
	for _, anchor := range []string{text(17)[1:], strings.Repeat("\x00", 16), string(near)} {
		for _, most := range []int{0, 1, 2, 4095, 4096} {
			counts(t, anchor, from, most, 0, api.ErrForm)
		}
	}
	// A token leads to its anchor, an anchor does not lead to its token.
	counts(t, from, Next(from), 4096, 0, api.ErrForm)
	// One step too many, even for the longest walk.
	counts(t, Next(Far(from, 4096)), from, 4096, 0, api.ErrForm)
}

func TestCountIsHowFar(t *testing.T) {
	from := text(16)
	for n := range 40 {
		counts(t, Far(from, n), from, 4096, n, api.OK)
		counts(t, Far(from, n), from, n, n, api.OK)
	}
}

func TestValue(t *testing.T) {
	const top = math.MaxUint64
	for _, x := range []struct {
		n    int
		unit uint64
		want uint64
		e    api.Errno
	}{
		{0, 0, 0, api.OK},
		{0, 9, 0, api.OK},
		{0, top, 0, api.OK},
		{1, 0, 0, api.OK},
		{math.MaxInt, 0, 0, api.OK},
		{1, top, top, api.OK},
		{4, 5, 20, api.OK},
		{4096, 1 << 51, 1 << 63, api.OK},
		{4096, 1<<52 - 1, top - 4095, api.OK},
		{4096, 1 << 52, 0, api.ErrOver},
		{4097, 3, 12291, api.OK},
		{2, 1<<63 - 1, top - 1, api.OK},
		{2, 1 << 63, 0, api.ErrOver},
		{3, top / 3, top, api.OK},
		{3, top/3 + 1, 0, api.ErrOver},
		{1 << 32, 1<<32 - 1, top - (1<<32 - 1), api.OK},
		{1 << 32, 1 << 32, 0, api.ErrOver},
		{math.MaxInt, 1, math.MaxInt, api.OK},
		{math.MaxInt, 2, top - 1, api.OK},
		{math.MaxInt, 3, 0, api.ErrOver},
		{math.MaxInt, top, 0, api.ErrOver},
		{-1, 0, 0, api.ErrOver},
		{-1, 1, 0, api.ErrOver},
		{-1, top, 0, api.ErrOver},
		{math.MinInt, 0, 0, api.ErrOver},
		{math.MinInt, 1, 0, api.ErrOver},
	} {
		if got, e := Value(x.n, x.unit); got != x.want || e != x.e {
			t.Errorf("Value(%d, %d) = %d, %d; want %d, %d", x.n, x.unit, got, int(e), x.want, int(x.e))
		}
	}
}

// P4.4

func TestNoTokenIsFartherThanItsNumber(t *testing.T) {
	for _, n := range []int{1, 2, 3, 50, 4096} {
		c := chain(t, "seed", n)
		for i := range n + 1 {
			if i > 60 && i%411 != 0 && i < n-1 {
				continue
			}
			if far, e := Count(c.Anchor(), token(t, c, i), i); far < 0 || far > i || e != api.OK {
				t.Errorf("from token %d of %d to its anchor: %d, %d", i, n, far, int(e))
			}
			if Far(token(t, c, i), i) != c.Anchor() {
				t.Errorf("%d steps from token %d of %d do not lead to its anchor", i, i, n)
			}
		}
	}
}

func FuzzChain(f *testing.F) {
	f.Add("", 1)
	f.Add("seed", 3)
	f.Add(text(16), 4097)
	f.Fuzz(func(t *testing.T, seed string, n int) {
		c, e := New(seed, n)
		if n < 1 || n > 4096 {
			if c != nil || e != api.ErrArg {
				t.Errorf("New(%q, %d) = %v, %d", seed, n, c, int(e))
			}
			return
		}
		if e != api.OK || c.Len() != n || c.Anchor() != Far(tagged("seed", seed), n) {
			t.Errorf("New(%q, %d): %d tokens, %d", seed, n, c.Len(), int(e))
		}
		counts(t, c.Anchor(), token(t, c, n), 4096, n, api.OK)
	})
}
