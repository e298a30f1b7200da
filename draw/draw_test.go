package draw

import (
	"crypto/sha256"
	"math"
	"math/big"
	"strings"
	"testing"

	"turnstile/api"
)

const top = math.MaxUint64

// text is n bytes of all kinds, no two neighbours alike.
func text(n int) string {
	b := make([]byte, n)
	for i := range b {
		b[i] = byte(i*31 + i>>8*7 + 0xf9)
	}
	return string(b)
}

// whole is n as a number without end.
func whole(n uint64) *big.Int { return new(big.Int).SetUint64(n) }

// manys are numbers of numbers: some go into 2^64, some do not.
func manys() []uint64 {
	return []uint64{1, 2, 3, 4, 5, 6, 7, 8, 9, 10, 11, 16, 100, 255, 256, 257, 641, 65535, 65536, 65537, 1 << 31, 1<<31 + 1, 1<<32 - 5, 1<<32 - 2, 1<<32 - 1, 1 << 32}
}

// noManys are numbers of which one cannot be drawn.
func noManys() []uint64 {
	return []uint64{0, 1<<32 + 1, 1<<32 + 2, 1 << 33, 1<<33 + 5, 1 << 63, top - 1, top}
}

// clients are a client's numbers, with the ends of the range.
func clients() []uint64 {
	return []uint64{0, 1, 2, 3, 4, 8, 9, 10, 11, 1<<32 - 1, 1 << 32, 1<<32 + 1, 1<<63 - 1, 1 << 63, top - 10, top - 7, top - 6, top - 1, top}
}

// tops checks what Top tells.
func tops(t *testing.T, many, want uint64, e api.Errno) {
	t.Helper()
	if n, f := Top(many); n != want || f != e {
		t.Errorf("Top(%d) = %d, %d; want %d, %d", many, n, int(f), want, int(e))
	}
}

// fair checks what Fair tells.
func fair(t *testing.T, raw, many, want uint64, e api.Errno) {
	t.Helper()
	if n, f := Fair(raw, many); n != want || f != e {
		t.Errorf("Fair(%d, %d) = %d, %d; want %d, %d", raw, many, n, int(f), want, int(e))
	}
}

// won checks what Wins tells.
func won(t *testing.T, drawn, client, wins, many uint64, want bool, e api.Errno) {
	t.Helper()
	if is, f := Wins(drawn, client, wins, many); is != want || f != e {
		t.Errorf("Wins(%d, %d, %d, %d) = %v, %d; want %v, %d", drawn, client, wins, many, is, int(f), want, int(e))
	}
}

// worth checks what Nominal tells.
func worth(t *testing.T, face, wins, many, want uint64, e api.Errno) {
	t.Helper()
	if n, f := Nominal(face, wins, many); n != want || f != e {
		t.Errorf("Nominal(%d, %d, %d) = %d, %d; want %d, %d", face, wins, many, n, int(f), want, int(e))
	}
}

// The examples of the chapter and of the whole.

func TestExamples(t *testing.T) {
	tops(t, 10, top-6, api.OK)
	won(t, 3, 8, 2, 10, true, api.OK)
	worth(t, 30, 2, 10, 6, api.OK)
	worth(t, 40, 2, 4, 20, api.OK)
}

// P5.1

func TestCommitByExactBytes(t *testing.T) {
	for _, x := range []struct {
		salt string
		n    uint64
		want string
	}{
		{"", 0, "\x04draw\x00\x00\x00\x08\x00\x00\x00\x00\x00\x00\x00\x00"},
		{"s", 7, "\x04draw\x00\x01s\x00\x08\x00\x00\x00\x00\x00\x00\x00\x07"},
		{"salt", 0x0102030405060708, "\x04draw\x00\x04salt\x00\x08\x01\x02\x03\x04\x05\x06\x07\x08"},
		{"\x00\xff", top, "\x04draw\x00\x02\x00\xff\x00\x08\xff\xff\xff\xff\xff\xff\xff\xff"},
		{text(16), 1 << 32, "\x04draw\x00\x10" + text(16) + "\x00\x08\x00\x00\x00\x01\x00\x00\x00\x00"},
		{text(4096), 1, "\x04draw\x10\x00" + text(4096) + "\x00\x08\x00\x00\x00\x00\x00\x00\x00\x01"},
	} {
		sum := sha256.Sum256([]byte(x.want))
		want := string(sum[:16])
		if got := Commit(x.salt, x.n); got != want {
			t.Errorf("Commit(%.20q, %d) = %x; want %x", x.salt, x.n, got, want)
		}
		if !Opens(want, x.salt, x.n) {
			t.Errorf("Opens does not tell what Commit(%.20q, %d) hides", x.salt, x.n)
		}
	}
}

func TestOpensTellsApart(t *testing.T) {
	salts := []string{"", "\x00", "s", "S", "ss", "s\x00", "\x00s", "t", text(16), text(17)}
	numbers := []uint64{0, 1, 7, 8, 256, 1 << 32, 1<<32 + 7, 7 << 56, 1 << 63, top - 1, top}
	for i, salt := range salts {
		for j, n := range numbers {
			c := Commit(salt, n)
			for k, other := range salts {
				for l, m := range numbers {
					if got, want := Opens(c, other, m), i == k && j == l; got != want {
						t.Errorf("Opens(Commit(%q, %d), %q, %d) = %v; want %v", salt, n, other, m, got, want)
					}
				}
			}
		}
	}
}

func TestOpensNoOtherText(t *testing.T) {
	c := Commit("s", 7)
	others := []string{"", "s", c[:15], c[1:], c + "\x00", "\x00" + c, c + c, strings.Repeat("\x00", 16), strings.ToUpper(c) + "!"}
	for i := range 16 * 8 {
		b := []byte(c)
		b[i/8] ^= 1 << (i % 8)
		others = append(others, string(b))
	}
	whole := sha256.Sum256([]byte("\x04draw\x00\x01s\x00\x08\x00\x00\x00\x00\x00\x00\x00\x07"))
	for _, s := range append(others, string(whole[:])) {
		if Opens(s, "s", 7) {
			t.Errorf("Opens(%x, s, 7), though %x is what is hidden", s, c)
		}
	}
}

// P5.2

func TestTopOfNoMany(t *testing.T) {
	for _, many := range noManys() {
		tops(t, many, 0, api.ErrArg)
	}
}

func TestTopByNumber(t *testing.T) {
	for _, x := range []struct{ many, want uint64 }{
		{1, top}, {2, top}, {3, top - 1}, {4, top}, {5, top - 1}, {6, top - 4}, {7, top - 2}, {9, top - 7}, {10, top - 6},
		{65536, top}, {65537, top - 1}, {1<<32 - 1, top - 1}, {1 << 32, top},
	} {
		tops(t, x.many, x.want, api.OK)
	}
}

func TestTopIsTheGreatest(t *testing.T) {
	for _, many := range manys() {
		n, e := Top(many)
		if e != api.OK {
			t.Errorf("Top(%d): %d", many, int(e))
			continue
		}
		next := new(big.Int).Add(whole(n), big.NewInt(1))
		if new(big.Int).Rem(next, whole(many)).Sign() != 0 {
			t.Errorf("Top(%d) = %d: it and 1 is no multiple", many, n)
		}
		if n <= top-many {
			t.Errorf("Top(%d) = %d: there is a greater one", many, n)
		}
	}
}

func TestFairOfNoMany(t *testing.T) {
	for _, many := range noManys() {
		for _, raw := range []uint64{0, 1, 5, 1 << 32, top - 1, top} {
			fair(t, raw, many, 0, api.ErrArg)
		}
	}
}

func TestFairUpToTop(t *testing.T) {
	for _, many := range manys() {
		last, _ := Top(many)
		for _, raw := range []uint64{0, 1, 2, 13, many - 1, many, many + 1, 2*many - 1, 2 * many, 1<<32 - 1, 1 << 32, 1<<32 + 1, 1 << 63, top - 2*many, last - many, last - 1, last, last + 1, top - 2, top - 1, top} {
			if raw > last {
				fair(t, raw, many, 0, api.ErrForm)
				continue
			}
			fair(t, raw, many, new(big.Int).Rem(whole(raw), whole(many)).Uint64(), api.OK)
		}
	}
}

func TestFairByNumber(t *testing.T) {
	for _, x := range []struct {
		raw, many, want uint64
		e               api.Errno
	}{
		{0, 1, 0, api.OK},
		{top, 1, 0, api.OK},
		{top, 2, 1, api.OK},
		{top - 1, 2, 0, api.OK},
		{13, 5, 3, api.OK},
		{9, 10, 9, api.OK},
		{10, 10, 0, api.OK},
		{top - 1, 3, 2, api.OK},
		{top, 3, 0, api.ErrForm},
		{top - 7, 10, 8, api.OK},
		{top - 6, 10, 9, api.OK},
		{top - 5, 10, 0, api.ErrForm},
		{top, 10, 0, api.ErrForm},
		{top, 1 << 32, 1<<32 - 1, api.OK},
		{1 << 32, 1 << 32, 0, api.OK},
		{1<<32 - 1, 1 << 32, 1<<32 - 1, api.OK},
	} {
		fair(t, x.raw, x.many, x.want, x.e)
	}
}

// P5.3

func TestWinsOfWhatIsNone(t *testing.T) {
	for _, many := range noManys() {
		for _, wins := range []uint64{0, 1, many, many + 1} {
			for _, drawn := range []uint64{0, 1, many - 1, many} {
				won(t, drawn, 0, wins, many, false, api.ErrArg)
				won(t, drawn, top, wins, many, false, api.ErrArg)
			}
		}
	}
	for _, many := range manys() {
		for _, client := range clients() {
			for _, wins := range []uint64{many + 1, many + 2, 2 * many, 1 << 63, top} {
				won(t, 0, client, wins, many, false, api.ErrArg)
			}
			for _, drawn := range []uint64{many, many + 1, 2 * many, 1 << 63, top} {
				won(t, drawn, client, 0, many, false, api.ErrArg)
				won(t, drawn, client, many, many, false, api.ErrArg)
			}
		}
	}
}

func TestWinsByWhatIsLeftWithoutEnd(t *testing.T) {
	for _, many := range manys() {
		for _, client := range clients() {
			for _, drawn := range []uint64{0, 1, many / 2, many - 2, many - 1} {
				if drawn >= many {
					continue
				}
				sum := new(big.Int).Add(whole(drawn), whole(client))
				rest := sum.Rem(sum, whole(many)).Uint64()
				for _, wins := range []uint64{0, 1, rest, rest + 1, many / 2, many - 1, many} {
					won(t, drawn, client, wins, many, rest < wins, api.OK)
				}
			}
		}
	}
}

func TestWinsByNumber(t *testing.T) {
	for _, x := range []struct {
		drawn, client, wins, many uint64
		want                      bool
	}{
		{0, 0, 0, 1, false},
		{0, 0, 1, 1, true},
		{0, top, 1, 1, true},
		{0, 9, 1, 10, false},
		{1, 9, 1, 10, true},
		{3, 8, 1, 10, false},
		{3, 8, 2, 10, true},
		{9, 0, 9, 10, false},
		{9, 0, 10, 10, true},
		{4, top, 5, 10, false}, // 2^64 + 3 leaves 9
		{4, top, 9, 10, false},
		{5, top, 1, 10, true}, // 2^64 + 4 leaves 0
		{9, top, 4, 10, false},
		{9, top, 5, 10, true},
		{1<<32 - 1, top, 1<<32 - 2, 1 << 32, false},
		{1<<32 - 1, top, 1<<32 - 1, 1 << 32, true},
		{1, top, 1, 1 << 32, true},
	} {
		won(t, x.drawn, x.client, x.wins, x.many, x.want, api.OK)
	}
}

func TestNominalOfWhatIsNone(t *testing.T) {
	for _, face := range []uint64{0, 1, 10, 1 << 32, top} {
		for _, many := range noManys() {
			for _, wins := range []uint64{0, 1, many, many + 1} {
				worth(t, face, wins, many, 0, api.ErrArg)
			}
		}
		for _, many := range manys() {
			for _, wins := range []uint64{many + 1, many + 2, 2 * many, 1 << 63, top} {
				worth(t, face, wins, many, 0, api.ErrArg)
			}
		}
	}
}

func TestNominalByNumbersWithoutEnd(t *testing.T) {
	for _, many := range manys() {
		for _, wins := range []uint64{0, 1, 2, 3, many / 2, many - 1, many} {
			if wins > many {
				continue
			}
			for _, face := range []uint64{0, 1, 2, 3, 30, many - 1, many, many + 1, 3 * many, 1<<32 - 1, 1 << 32, 1 << 63, top - top%many, top - top%many - 1, top - 1, top} {
				product := new(big.Int).Mul(whole(face), whole(wins))
				often, rest := product.QuoRem(product, whole(many), new(big.Int))
				if rest.Sign() != 0 {
					worth(t, face, wins, many, 0, api.ErrForm)
					continue
				}
				worth(t, face, wins, many, often.Uint64(), api.OK)
			}
		}
	}
}

func TestNominalByNumber(t *testing.T) {
	for _, x := range []struct {
		face, wins, many, want uint64
		e                      api.Errno
	}{
		{0, 0, 1, 0, api.OK},
		{0, 7, 10, 0, api.OK},
		{5, 0, 7, 0, api.OK},
		{top, 0, 1 << 32, 0, api.OK},
		{top, 1, 1, top, api.OK},
		{top, 1 << 32, 1 << 32, top, api.OK},
		{top, 3, 3, top, api.OK},
		{top, 1, 3, top / 3, api.OK},
		{top, 2, 3, top / 3 * 2, api.OK}, // top times 2 finds no room
		{top, 4, 6, top / 3 * 2, api.OK},
		{top, 3, 10, 0, api.ErrForm},
		{top - 5, 3, 10, (top - 5) / 10 * 3, api.OK},
		{top, 1, 2, 0, api.ErrForm},
		{top, 1<<32 - 1, 1 << 32, 0, api.ErrForm},
		{1 << 63, 6, 8, 3 << 61, api.OK},
		{1 << 63, 1 << 31, 1 << 32, 1 << 62, api.OK},
		{1 << 63, 5, 7, 0, api.ErrForm},
		{7, 2, 10, 0, api.ErrForm},
		{1, 1 << 32, 1 << 32, 1, api.OK},
		{1, 1<<32 - 1, 1 << 32, 0, api.ErrForm},
	} {
		worth(t, x.face, x.wins, x.many, x.want, x.e)
	}
}

// P5.4

func TestEachNumberIsToldByEquallyManyWords(t *testing.T) {
	for _, many := range []uint64{1, 2, 3, 5, 7, 8, 10, 100, 257} {
		last, _ := Top(many)
		// Words come in whole runs of many, each number once in each run.
		for _, first := range []uint64{0, many, last / many / 2 * many, last + 1 - many} {
			for i := range many {
				fair(t, first+i, many, i, api.OK)
			}
		}
		if last != top {
			fair(t, last+1, many, 0, api.ErrForm)
		}
	}
}

func TestJustWinsWinWhateverTheClient(t *testing.T) {
	for many := uint64(1); many <= 24; many++ {
		for wins := range many + 1 {
			for _, client := range append(clients(), many-1, many, many+1, top/many*many, top-many) {
				var count uint64
				for drawn := range many {
					is, e := Wins(drawn, client, wins, many)
					if e != api.OK {
						t.Fatalf("Wins(%d, %d, %d, %d): %d", drawn, client, wins, many, int(e))
					}
					if is {
						count++
					}
				}
				if count != wins {
					t.Errorf("client %d: %d of %d win; want %d", client, count, many, wins)
				}
			}
		}
	}
}

func TestFacesTogetherAreManyTimesTheNominal(t *testing.T) {
	for many := uint64(1); many <= 24; many++ {
		for wins := range many + 1 {
			for _, face := range []uint64{0, 1, 2, 12, 24, 30, 1 << 40, 1 << 63, top, top - 15} {
				n, e := Nominal(face, wins, many)
				faces := new(big.Int).Mul(whole(face), whole(wins))
				if e == api.ErrForm {
					if n != 0 || faces.Rem(faces, whole(many)).Sign() == 0 {
						t.Errorf("Nominal(%d, %d, %d) = %d, ErrForm", face, wins, many, n)
					}
					continue
				}
				if e != api.OK || faces.Cmp(new(big.Int).Mul(whole(n), whole(many))) != 0 {
					t.Errorf("Nominal(%d, %d, %d) = %d, %d: the faces together are %d", face, wins, many, n, int(e), faces)
				}
			}
		}
	}
}

func FuzzDraw(f *testing.F) {
	f.Add(uint64(0), uint64(0), uint64(1), uint64(1))
	f.Add(uint64(3), uint64(8), uint64(2), uint64(10))
	f.Add(uint64(1<<32-1), uint64(top), uint64(1<<32), uint64(1<<32))
	f.Fuzz(func(t *testing.T, drawn, client, wins, many uint64) {
		is, e := Wins(drawn, client, wins, many)
		if many < 1 || many > 1<<32 || wins > many || drawn >= many {
			if is || e != api.ErrArg {
				t.Errorf("Wins(%d, %d, %d, %d) = %v, %d", drawn, client, wins, many, is, int(e))
			}
			return
		}
		sum := new(big.Int).Add(whole(drawn), whole(client))
		if want := sum.Rem(sum, whole(many)).Uint64() < wins; is != want || e != api.OK {
			t.Errorf("Wins(%d, %d, %d, %d) = %v, %d; want %v", drawn, client, wins, many, is, int(e), want)
		}
		last := new(big.Int).Lsh(big.NewInt(1), 64)
		last.Sub(last, new(big.Int).Rem(last, whole(many)))
		if whole(client).Cmp(last) >= 0 {
			fair(t, client, many, 0, api.ErrForm)
		} else {
			fair(t, client, many, new(big.Int).Rem(whole(client), whole(many)).Uint64(), api.OK)
		}
	})
}
