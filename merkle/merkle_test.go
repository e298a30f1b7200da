package merkle

import (
	"crypto/sha256"
	"encoding/hex"
	"math"
	"slices"
	"strings"
	"testing"
	"unsafe"

	"turnstile/api"
	"turnstile/wots"
)

// text is n bytes of all kinds, no two neighbours alike.
func text(n int) string {
	b := make([]byte, n)
	for i := range b {
		b[i] = byte(i*31 + i>>8*7 + 0xf9)
	}
	return string(b)
}

// tagged is a tag by the library's sum, with the lengths written out.
func tagged(word string, parts ...string) string {
	s := string([]byte{byte(len(word))}) + word
	for _, part := range parts {
		s += string([]byte{byte(len(part) >> 8), byte(len(part))}) + part
	}
	sum := sha256.Sum256([]byte(s))
	return string(sum[:16])
}

// some are n texts of so many bytes, no two alike.
func some(n, size int) []string {
	l := make([]string, n)
	for i := range l {
		b := make([]byte, size)
		for j := range b {
			b[j] = byte(7*i + j)
		}
		l[i] = string(b)
	}
	return l
}

// topmost is the node above all of some leaves, half by half.
func topmost(leaves []string) string {
	if half := len(leaves) / 2; half > 0 {
		return tagged("node", topmost(leaves[:half]), topmost(leaves[half:]))
	}
	return leaves[0]
}

// tallOf is how tall n leaves are; -1, if so many are none.
func tallOf(n int) int { return slices.Index([]int{1, 2, 4, 8, 16}, n) }

// wantRoot is the root over leaves.
func wantRoot(leaves []string) string {
	return tagged("root", string([]byte{byte(tallOf(len(leaves)))}), topmost(leaves))
}

// wantPath is a leaf's path: of each row the node above those leaves that are
// beside the ones of its own half.
func wantPath(leaves []string, i int) []string {
	path := []string{}
	for size := 1; size < len(leaves); size *= 2 {
		from := i / size * size
		if from/size%2 == 0 {
			from += size
		} else {
			from -= size
		}
		path = append(path, topmost(leaves[from:from+size]))
	}
	return path
}

// counts are how many leaves are asked for: all that are leaves, and others.
func counts() []int {
	return []int{0, 1, 2, 3, 4, 5, 6, 7, 8, 9, 12, 15, 16, 17, 20, 24, 31, 32, 33, 48, 64, 128, 256, 257, 1 << 16, 1<<16 + 1}
}

// seedAt is the seed of a leaf.
func seedAt(seed string, leaf int) string {
	return tagged("leaf", seed, string([]byte{byte(leaf)}))
}

// publics are the leaves of a key.
func publics(seed string, tall int) []string {
	l := make([]string, 1<<tall)
	for i := range l {
		l[i] = wots.Public(seedAt(seed, i))
	}
	return l
}

// byHand is a signature, by its parts, of a tree with such leaves.
func byHand(leaves []string, leaf int, seed, msg string) string {
	i := string([]byte{byte(leaf)})
	return i + wots.Sign(seed, wantRoot(leaves)+i+msg) + strings.Join(wantPath(leaves, leaf), "")
}

// key is a key that must be there.
func key(t *testing.T, seed string, tall int) *Key {
	t.Helper()
	k, e := New(seed, tall)
	if k == nil || e != api.OK {
		t.Fatalf("New(%.20q, %d) = %p, %d; want a key", seed, tall, k, int(e))
	}
	return k
}

// sign is a signature that must be there.
func sign(t *testing.T, k *Key, msg string) string {
	t.Helper()
	sig, e := k.Sign(msg)
	if e != api.OK {
		t.Fatalf("Sign(%.20q) = %d bytes, %d; want a signature", msg, len(sig), int(e))
	}
	return sig
}

// burn is a Burn without an error.
func burn(t *testing.T, k *Key, leaf int) {
	t.Helper()
	if e := k.Burn(leaf); e != api.OK {
		t.Fatalf("Burn(%d) = %d", leaf, int(e))
	}
}

// stands checks which leaf is next, and how many are left.
func stands(t *testing.T, k *Key, next, left int) {
	t.Helper()
	if k.Next() != next || k.Left() != left {
		t.Errorf("Next %d, Left %d; want %d, %d", k.Next(), k.Left(), next, left)
	}
}

// roots checks what Root tells.
func roots(t *testing.T, leaves []string, want string, e api.Errno) {
	t.Helper()
	if got, f := Root(leaves); got != want || f != e {
		t.Errorf("Root of %d leaves = %x, %d; want %x, %d", len(leaves), got, int(f), want, int(e))
	}
}

// paths checks what Path tells.
func paths(t *testing.T, leaves []string, i int, want []string, e api.Errno) {
	t.Helper()
	if got, f := Path(leaves, i); !slices.Equal(got, want) || f != e {
		t.Errorf("Path of %d leaves, %d = %x, %d; want %x, %d", len(leaves), i, got, int(f), want, int(e))
	}
}

// ups checks what Up tells.
func ups(t *testing.T, leaf string, i int, path []string, want string, e api.Errno) {
	t.Helper()
	if got, f := Up(leaf, i, path); got != want || f != e {
		t.Errorf("Up(%x, %d, %d nodes) = %x, %d; want %x, %d", leaf, i, len(path), got, int(f), want, int(e))
	}
}

// leafOf checks what Leaf tells.
func leafOf(t *testing.T, sig string, want int, e api.Errno) {
	t.Helper()
	if got, f := Leaf(sig); got != want || f != e {
		t.Errorf("Leaf of %d bytes, %.1x first = %d, %d; want %d, %d", len(sig), sig, got, int(f), want, int(e))
	}
}

// verifies checks what Verify tells.
func verifies(t *testing.T, root, msg, sig string, want bool) {
	t.Helper()
	if Verify(root, msg, sig) != want {
		t.Errorf("Verify(%x, %.20q, %d bytes, %.1x first): %v; want %v", root, msg, len(sig), sig, !want, want)
	}
}

// The chapter's example.

func TestExample(t *testing.T) {
	k := key(t, "any", 1)
	first, second := sign(t, k, "a"), sign(t, k, "b")
	if sig, e := k.Sign("c"); sig != "" || e != api.ErrUsed {
		t.Errorf("the third Sign = %d bytes, %d; want nothing, ErrUsed", len(sig), int(e))
	}
	verifies(t, k.Root(), "a", first, true)
	verifies(t, k.Root(), "b", second, true)
}

// P7.1

func TestRootAndPathOfSoManyLeaves(t *testing.T) {
	for _, n := range counts() {
		leaves := some(n, 16)
		if tallOf(n) < 0 {
			roots(t, leaves, "", api.ErrArg)
			for _, i := range []int{-1, 0, 1, n - 1, n} {
				paths(t, leaves, i, nil, api.ErrArg)
			}
			continue
		}
		roots(t, leaves, wantRoot(leaves), api.OK)
		for i := range leaves {
			paths(t, leaves, i, wantPath(leaves, i), api.OK)
		}
		for _, i := range []int{-1, -2, -n, -n - 1, n, n + 1, 2 * n, 1 << 32, 1<<32 + 1, math.MinInt, math.MinInt + 1, math.MaxInt} {
			paths(t, leaves, i, nil, api.ErrArg)
		}
	}
	roots(t, nil, "", api.ErrArg)
	paths(t, nil, 0, nil, api.ErrArg)
}

func TestRootRowByRow(t *testing.T) {
	row := some(16, 16)
	for tall := 4; tall >= 0; tall-- {
		leaves, tops := row[:1<<tall], slices.Clone(row[:1<<tall])
		for len(tops) > 1 {
			var up []string
			for i := 0; i < len(tops); i += 2 {
				up = append(up, tagged("node", tops[i], tops[i+1]))
			}
			tops = up
		}
		roots(t, leaves, tagged("root", string([]byte{byte(tall)}), tops[0]), api.OK)
	}
}

func TestRootOfKnownLeaves(t *testing.T) {
	for n, want := range map[int]string{
		1:  "256decfdbe31a34ae464df63b4dd792a",
		2:  "7d079e716e3dd1978e602b288e8a4b64",
		4:  "1c69d4f46bb6fe0215376c2f6efbb612",
		8:  "3d3421c47fb0575ecef6504227d23597",
		16: "60416da5875307271e3e1ed2477ab2de",
	} {
		if got, e := Root(some(n, 16)); hex.EncodeToString([]byte(got)) != want || e != api.OK {
			t.Errorf("Root of %d leaves = %x, %d; want %s", n, got, int(e), want)
		}
	}
}

func TestRootByExactBytes(t *testing.T) {
	a, b := "aaaaaaaaaaaaaaaa", "bbbbbbbbbbbbbbbb"
	one := sha256.Sum256([]byte("\x04root\x00\x01\x00\x00\x10" + a))
	roots(t, []string{a}, string(one[:16]), api.OK)
	ups(t, a, 0, nil, string(one[:16]), api.OK)

	above := sha256.Sum256([]byte("\x04node\x00\x10" + a + "\x00\x10" + b))
	two := sha256.Sum256([]byte("\x04root\x00\x01\x01\x00\x10" + string(above[:16])))
	roots(t, []string{a, b}, string(two[:16]), api.OK)
	ups(t, a, 0, []string{b}, string(two[:16]), api.OK)
	ups(t, b, 1, []string{a}, string(two[:16]), api.OK)
}

// A tree tells its leaves apart by their places, and itself from one that is
// as tall less one and has its row above the leaves.
func TestRootHangsOnEachLeafAndOnHowTall(t *testing.T) {
	for _, n := range []int{1, 2, 4, 8, 16} {
		leaves := some(n, 16)
		root, _ := Root(leaves)
		for i := range n {
			other := slices.Clone(leaves)
			other[i] = strings.Repeat("\xee", 16)
			if r, e := Root(other); r == root || e != api.OK {
				t.Errorf("%d leaves, of which %d is another one: the same root", n, i)
			}
			for j := range i {
				other = slices.Clone(leaves)
				other[i], other[j] = other[j], other[i]
				if r, e := Root(other); r == root || e != api.OK {
					t.Errorf("%d leaves, of which %d and %d change places: the same root", n, j, i)
				}
			}
		}
		if n > 1 {
			if r, e := Root(above(leaves)); r == root || e != api.OK {
				t.Errorf("%d leaves have the root of the row above them", n)
			}
		}
	}
}

func TestLeavesThatAreNoHashes(t *testing.T) {
	for _, n := range []int{1, 2, 4, 8, 16} {
		for at := range n {
			for _, size := range []int{0, 1, 15, 16, 17, 32, 65552} {
				leaves := some(n, 16)
				leaves[at] = text(size)
				want, e := "", api.ErrArg
				if size == 16 {
					want, e = wantRoot(leaves), api.OK
				}
				roots(t, leaves, want, e)
				for i := range n {
					var path []string
					if size == 16 {
						path = wantPath(leaves, i)
					}
					paths(t, leaves, i, path, e)
				}
			}
		}
		for _, size := range []int{0, 15, 17} {
			roots(t, some(n, size), "", api.ErrArg)
			paths(t, some(n, size), 0, nil, api.ErrArg)
		}
	}
}

func TestUpLeadsAlongAnyPath(t *testing.T) {
	for n := range 5 {
		path := some(9, 16)[9-n:]
		for i := range 1 << n {
			leaf := text(16)
			at := leaf
			for height, other := range path {
				if i/(1<<height)%2 == 0 {
					at = tagged("node", at, other)
				} else {
					at = tagged("node", other, at)
				}
			}
			ups(t, leaf, i, path, tagged("root", string([]byte{byte(n)}), at), api.OK)
		}
	}
}

func TestUpOfHowManyNodesAndIndices(t *testing.T) {
	for _, n := range []int{0, 1, 2, 3, 4, 5, 6, 8, 16, 31, 32, 62, 63, 64, 65, 128} {
		for _, i := range []int{0, 1, 2, 3, 4, 5, 7, 8, 9, 15, 16, 17, 31, 32, 255, 256, 1 << 32, -1, -2, -16, math.MinInt, math.MaxInt} {
			got, e := Up(text(16), i, some(n, 16))
			fits := n <= 4 && i >= 0 && i < []int{1, 2, 4, 8, 16}[min(n, 4)]
			if fits && (len(got) != 16 || e != api.OK) || !fits && (got != "" || e != api.ErrArg) {
				t.Errorf("Up of %d nodes, %d = %x, %d", n, i, got, int(e))
			}
		}
	}
}

func TestUpOfWhatAreNoHashes(t *testing.T) {
	for _, size := range []int{0, 1, 15, 17, 32, 65552} {
		for n := range 6 {
			for i := range 1 << n {
				ups(t, text(size), i, some(n, 16), "", api.ErrArg)
			}
			for at := range n {
				path := some(n, 16)
				path[at] = text(size)
				ups(t, text(16), 0, path, "", api.ErrArg)
				ups(t, text(16), 1<<n-1, path, "", api.ErrArg)
			}
		}
	}
}

func TestNilAndEmptyAreTheSame(t *testing.T) {
	roots(t, []string{}, "", api.ErrArg)
	paths(t, []string{}, 0, nil, api.ErrArg)
	ups(t, text(16), 0, []string{}, tagged("root", "\x00", text(16)), api.OK)
	ups(t, text(16), 0, nil, tagged("root", "\x00", text(16)), api.OK)
	if path, e := Path(some(1, 16), 0); len(path) != 0 || e != api.OK {
		t.Errorf("Path of one leaf = %x, %d; want none", path, int(e))
	}
}

func TestListsAreNotChanged(t *testing.T) {
	for _, n := range []int{1, 2, 3, 4, 8, 16} {
		room := some(n+9, 16)
		kept := slices.Clone(room)
		Root(room[:n])
		for i := -1; i <= n; i++ {
			Path(room[:n], i)
			Up(room[n], i, room[:min(n, 5)])
		}
		if !slices.Equal(room, kept) {
			t.Errorf("a list of %d, or the room behind it, is changed", n)
		}
	}
}

func TestPathIsNewMemory(t *testing.T) {
	for _, n := range []int{2, 4, 8, 16} {
		leaves := some(n, 16)
		for i := range n {
			first, _ := Path(leaves, i)
			second, _ := Path(leaves, i)
			for _, node := range first {
				for _, leaf := range leaves {
					if unsafe.StringData(node) == unsafe.StringData(leaf) {
						t.Errorf("a node of the path of %d is a leaf's memory", i)
					}
				}
			}
			room := first[:cap(first)]
			for j := range room {
				room[j] = "changed"
			}
			if !slices.Equal(leaves, some(n, 16)) || !slices.Equal(second, wantPath(leaves, i)) {
				t.Errorf("the path of %d shares its memory", i)
			}
			paths(t, leaves, i, second, api.OK)
		}
	}
}

func TestUpIsNewMemory(t *testing.T) {
	leaf := text(16)
	if root, _ := Up(leaf, 0, nil); unsafe.StringData(root) == unsafe.StringData(leaf) {
		t.Error("Up answers its argument's memory")
	}
}

// P7.2

func TestNewOfHowTall(t *testing.T) {
	for _, tall := range []int{-1, -2, -4, 5, 6, 16, 63, 64, 65, 255, 256, 260, 1 << 32, 1<<32 + 4, math.MinInt, math.MaxInt} {
		if k, e := New("seed", tall); k != nil || e != api.ErrArg {
			t.Errorf("New(seed, %d) = %p, %d; want nil, ErrArg", tall, k, int(e))
		}
	}
	for tall, n := range []int{1, 2, 4, 8, 16} {
		stands(t, key(t, "seed", tall), 0, n)
	}
}

func TestRootOfAKey(t *testing.T) {
	for _, seed := range []string{"", "seed", "\x00\xff", text(16), text(4096), text(65535), text(65536), text(65537)} {
		for tall := range 5 {
			if got, want := key(t, seed, tall).Root(), wantRoot(publics(seed, tall)); got != want {
				t.Errorf("the root of %.20q, %d tall = %x; want %x", seed, tall, got, want)
			}
		}
	}
}

func TestRootsOfKnownKeys(t *testing.T) {
	for seed, all := range map[string][5]string{
		"":         {"7038dda5608a16969082b26061ea3d3d", "2e2d3ea3640f30a42c21f6e9f28544d6", "81ebbea159081565b5ff57a08b5ef8e5", "696e05a24ef938ef938148a6a7b3f1f6", "58aee1cf450d72abf73cd2e33f084595"},
		"seed":     {"3da093bec4d07ce805b55838eda0fd5a", "35d4ac34436468ba93f4d6b7224a34ef", "2627773d5dd9db6519c847bcafc68dd9", "8a53ced16db450d016d4997e65e2aa39", "c63fbcb1657b677b04ee48da6adf2fc3"},
		"\x00\xff": {"b483e0be55dab6401a79a15e45e60055", "cf50c21e8f18e433b69d9a1596cef67b", "5321c623c76de1704c51608bf8e7b509", "f77bf0518d0a5d1a6602b3e106d3504d", "fbd4bacb49867e7835035779fae5e556"},
	} {
		for tall, want := range all {
			if got := hex.EncodeToString([]byte(key(t, seed, tall).Root())); got != want {
				t.Errorf("the root of %q, %d tall = %s; want %s", seed, tall, got, want)
			}
		}
	}
}

func TestNextAndLeftBehindEachSignature(t *testing.T) {
	for tall, n := range []int{1, 2, 4, 8, 16} {
		k := key(t, "seed", tall)
		root := k.Root()
		for i := range n {
			stands(t, k, i, n-i)
			sign(t, k, "m")
			stands(t, k, i+1, n-i-1)
			if k.Root() != root {
				t.Errorf("%d tall: another root behind the signature %d", tall, i)
			}
		}
	}
}

func TestBurn(t *testing.T) {
	for tall, n := range []int{1, 2, 4, 8, 16} {
		for used := range n + 1 {
			whole := key(t, "seed", tall)
			burn(t, whole, used)
			stands(t, whole, used, n-used)
			for _, leaf := range []int{-1, -2, -n, n + 1, n + 2, 255, 256, 1 << 32, math.MinInt, math.MaxInt} {
				if e := whole.Burn(leaf); e != api.ErrArg {
					t.Errorf("Burn(%d) of %d = %d; want ErrArg", leaf, n, int(e))
				}
				stands(t, whole, used, n-used)
			}
			for leaf := range n + 1 {
				k := *whole
				burn(t, &k, leaf)
				stands(t, &k, max(used, leaf), n-max(used, leaf))
				if k.Root() != whole.Root() {
					t.Errorf("another root behind Burn(%d)", leaf)
				}
			}
		}
	}
}

func TestBurnBehindSignatures(t *testing.T) {
	k := key(t, "seed", 2)
	sign(t, k, "a")
	sign(t, k, "b")
	burn(t, k, 0)
	burn(t, k, 1)
	stands(t, k, 2, 2)
	burn(t, k, 2)
	stands(t, k, 2, 2)
	burn(t, k, 3)
	stands(t, k, 3, 1)
	leafOf(t, sign(t, k, "c"), 3, api.OK)
	burn(t, k, 3)
	stands(t, k, 4, 0)
	burn(t, k, 4)
	stands(t, k, 4, 0)
	if e := k.Burn(5); e != api.ErrArg {
		t.Errorf("Burn(5) of 4 = %d", int(e))
	}
}

func TestSignBehindABurn(t *testing.T) {
	for tall, n := range []int{1, 2, 4, 8, 16} {
		leaves := publics("seed", tall)
		for leaf := range n + 1 {
			k := key(t, "seed", tall)
			burn(t, k, leaf)
			sig, e := k.Sign("m")
			if leaf == n {
				if sig != "" || e != api.ErrUsed {
					t.Errorf("Sign, all of %d burned = %d bytes, %d", n, len(sig), int(e))
				}
				stands(t, k, n, 0)
				continue
			}
			if sig != byHand(leaves, leaf, seedAt("seed", leaf), "m") || e != api.OK {
				t.Errorf("Sign, burned up to %d of %d: another signature, or %d", leaf, n, int(e))
			}
			stands(t, k, leaf+1, n-leaf-1)
		}
	}
}

func TestCopiesGoTheirOwnWay(t *testing.T) {
	k := key(t, "seed", 2)
	sign(t, k, "a")
	d := *k
	stands(t, &d, 1, 3)
	if sign(t, &d, "b") != sign(t, k, "b") {
		t.Error("a copy signs another way")
	}
	sign(t, &d, "c")
	stands(t, &d, 3, 1)
	stands(t, k, 2, 2)
	burn(t, k, 4)
	stands(t, &d, 3, 1)
	stands(t, k, 4, 0)
	if d.Root() != k.Root() {
		t.Error("a copy has another root")
	}
	verifies(t, k.Root(), "e", sign(t, &d, "e"), true)
}

func TestKeysOfOneSeedGoTheirOwnWay(t *testing.T) {
	a, b := key(t, "seed", 1), key(t, "seed", 1)
	first := sign(t, a, "m")
	sign(t, a, "n")
	stands(t, b, 0, 2)
	if sign(t, b, "m") != first || a.Root() != b.Root() {
		t.Error("two keys of one seed differ")
	}
	stands(t, a, 2, 0)
}

func TestSeedIsNotKept(t *testing.T) {
	seed := []byte("seed")
	k := key(t, unsafe.String(&seed[0], len(seed)), 1)
	copy(seed, "else")
	want := byHand(publics("seed", 1), 0, seedAt("seed", 0), "m")
	if sign(t, k, "m") != want {
		t.Error("a key signs another way, once the memory of its seed is another one's")
	}
}

// P7.3

func TestSignatureByItsParts(t *testing.T) {
	for _, seed := range []string{"", "seed", text(65537)} {
		for tall := range 5 {
			leaves, k := publics(seed, tall), key(t, seed, tall)
			for i, m := range slices.Repeat([]string{"", "\x00", "message", text(16), text(65536), text(65537)}, 3)[:1<<tall] {
				sig := sign(t, k, m)
				if len(sig) != 289+16*tall {
					t.Fatalf("a signature, %d tall, has %d bytes", tall, len(sig))
				}
				if int(sig[0]) != i {
					t.Errorf("the signature %d has the leaf %d", i, sig[0])
				}
				if want := wots.Sign(seedAt(seed, i), wantRoot(leaves)+string([]byte{byte(i)})+m); sig[1:289] != want {
					t.Errorf("the signature %d, %d tall, is another one of its leaf's", i, tall)
				}
				for j, node := range wantPath(leaves, i) {
					if got := sig[289+16*j : 305+16*j]; got != node {
						t.Errorf("the signature %d, %d tall, has the node %x at %d; want %x", i, tall, got, j, node)
					}
				}
			}
		}
	}
}

func TestSignaturesOfKnownKeys(t *testing.T) {
	for _, x := range []struct {
		seed       string
		tall, leaf int
		msg, want  string
	}{
		{"seed", 0, 0, "", "8058843ed617092b02f89ffc43d14fdc1adb7270082a0039806feb855dd285c1"},
		{"seed", 2, 1, "pay 5", "9c8e03d9e2b5a8c9b9a04d90b7027b175a10e1ae0050eeee1fda797f174db362"},
		{"", 4, 15, "message", "a513d4df7902250f29070ed7be9b1e154d034be3353a1f006a38cd47f06f69a7"},
		{"\x00\xff", 1, 0, "m", "47d6146178f93a2a1b39a649a7ed96c4687efa7b9bad65a16e692d0b23e1b674"},
	} {
		k := key(t, x.seed, x.tall)
		burn(t, k, x.leaf)
		sum := sha256.Sum256([]byte(sign(t, k, x.msg)))
		if got := hex.EncodeToString(sum[:]); got != x.want {
			t.Errorf("the sum of the signature of %q by the leaf %d of %q = %s; want %s", x.msg, x.leaf, x.seed, got, x.want)
		}
	}
}

func TestSignUntilNoneIsLeft(t *testing.T) {
	for tall, n := range []int{1, 2, 4, 8, 16} {
		k := key(t, "seed", tall)
		root := k.Root()
		for range n {
			sign(t, k, "m")
		}
		for _, m := range []string{"m", "", "other"} {
			if sig, e := k.Sign(m); sig != "" || e != api.ErrUsed {
				t.Errorf("Sign, of %d none left = %d bytes, %d; want nothing, ErrUsed", n, len(sig), int(e))
			}
			stands(t, k, n, 0)
		}
		burn(t, k, 0)
		stands(t, k, n, 0)
		if k.Root() != root {
			t.Errorf("%d tall: another root, once none is left", tall)
		}
	}
}

func TestLeafOfLengthsAndFirstBytes(t *testing.T) {
	tallest := map[int]int{289: 1, 305: 2, 321: 4, 337: 8, 353: 16}
	for _, n := range []int{0, 1, 2, 16, 17, 287, 288, 289, 290, 304, 305, 306, 320, 321, 322, 336, 337, 338, 352, 353, 354, 368, 369, 370, 385, 545, 578, 65536 + 289} {
		for first := range 256 {
			sig := text(n)
			if n > 0 {
				sig = string([]byte{byte(first)}) + sig[1:]
			}
			if first < tallest[n] {
				leafOf(t, sig, first, api.OK)
			} else {
				leafOf(t, sig, 0, api.ErrForm)
			}
			verifies(t, text(16), "m", sig, false)
		}
	}
	leafOf(t, "", 0, api.ErrForm)
}

func TestVerifyOfOtherLengths(t *testing.T) {
	for tall := range 5 {
		k := key(t, "seed", tall)
		sig := sign(t, k, "m")
		verifies(t, k.Root(), "m", sig, true)
		long := sig + text(400)
		for _, n := range []int{0, 1, 15, 16, 288, 289, 290, 305, 321, 337, 353, 369, 385, len(sig) - 1, len(sig) + 1, len(sig) + 16} {
			verifies(t, k.Root(), "m", long[:n], n == len(sig))
		}
		verifies(t, k.Root(), "m", sig[1:], false)
		verifies(t, k.Root(), "m", "\x00"+sig, false)
	}
}

func TestVerifyOfAChangedByte(t *testing.T) {
	for tall := range 5 {
		for _, leaf := range []int{0, 1<<tall - 1} {
			k := key(t, "seed", tall)
			burn(t, k, leaf)
			sig := sign(t, k, "m")
			for at := range len(sig) {
				for _, turn := range []byte{1 << (at % 8), 0xff} {
					b := []byte(sig)
					b[at] ^= turn
					if Verify(k.Root(), "m", string(b)) {
						t.Errorf("Verify, %d tall, with byte %d changed: yes", tall, at)
					}
				}
			}
			verifies(t, k.Root(), "m", sig, true)
		}
	}
}

func TestVerifyOfAnotherLeaf(t *testing.T) {
	for tall := range 5 {
		k := key(t, "seed", tall)
		for leaf := range 1 << tall {
			sig := sign(t, k, "m")
			for other := range 256 {
				verifies(t, k.Root(), "m", string([]byte{byte(other)})+sig[1:], other == leaf)
			}
		}
	}
}

func TestVerifyOfMovedNodes(t *testing.T) {
	k := key(t, "seed", 4)
	burn(t, k, 5)
	sig := sign(t, k, "m")
	for a := range 4 {
		for b := range a {
			i, j := 289+16*b, 289+16*a
			verifies(t, k.Root(), "m", sig[:i]+sig[j:j+16]+sig[i+16:j]+sig[i:i+16]+sig[j+16:], false)
		}
	}
}

func TestVerifyOfAnotherMessage(t *testing.T) {
	l := []string{"", "\x00", "m", "n", "mm", "pay 5", "pay 6", text(16), text(65536)}
	k := key(t, "seed", 4)
	for _, m := range l {
		sig := sign(t, k, m)
		for _, other := range l {
			verifies(t, k.Root(), other, sig, other == m)
		}
	}
}

func TestVerifyOfAnotherRoot(t *testing.T) {
	k := key(t, "seed", 2)
	sig, root := sign(t, k, "m"), k.Root()
	others := []string{"", root[:15], root[1:], root + "\x00", "\x00" + root, root + root, "seed", hex.EncodeToString([]byte(root)), strings.Repeat("\x00", 16)}
	for tall := range 5 {
		others = append(others, key(t, "other", tall).Root())
		if tall != 2 {
			others = append(others, key(t, "seed", tall).Root())
		}
	}
	for bit := range 16 * 8 {
		b := []byte(root)
		b[bit/8] ^= 1 << (bit % 8)
		others = append(others, string(b))
	}
	for _, other := range others {
		verifies(t, other, "m", sig, false)
	}
	verifies(t, root, "m", sig, true)
}

// What a root's bytes and a message's are is told apart by the root's length alone.
func TestVerifyOfARootThatEndsInTheMessage(t *testing.T) {
	k := key(t, "seed", 1)
	root := k.Root()
	for _, m := range []string{"", "m"} {
		sig := sign(t, k, m)
		verifies(t, root+sig[:1], m, sig, false)
		verifies(t, root[:15], root[15:]+m, sig, false)
		verifies(t, root, sig[:1]+m, sig, false)
		verifies(t, root, m, sig, true)
	}
}

// Who verifies knows no seeds: any seeds' leaves do.
func TestVerifyOfATreeByHand(t *testing.T) {
	for tall := range 5 {
		seeds := some(1<<tall, 5)
		var leaves []string
		for _, s := range seeds {
			leaves = append(leaves, wots.Public(s))
		}
		for i, s := range seeds {
			sig := byHand(leaves, i, s, "m")
			leafOf(t, sig, i, api.OK)
			verifies(t, wantRoot(leaves), "m", sig, true)
			verifies(t, topmost(leaves), "m", sig, false)
		}
	}
}

// A signature of the message alone, or of it and less than root and leaf, is none.
func TestVerifyOfWhatIsNotBound(t *testing.T) {
	leaves := publics("seed", 1)
	root, seed := wantRoot(leaves), seedAt("seed", 0)
	for _, signed := range []string{"m", "\x00m", root + "m", "\x00" + root + "m", root + "\x01m", root + "m\x00", root + "\x00"} {
		verifies(t, root, "m", "\x00"+wots.Sign(seed, signed)+leaves[1], false)
	}
	verifies(t, root, "m", "\x00"+wots.Sign(seed, root+"\x00m")+leaves[1], true)
}

func TestVerifyAndLeafChangeNothing(t *testing.T) {
	k := key(t, "seed", 1)
	sig := sign(t, k, "m")
	for range 3 {
		verifies(t, k.Root(), "m", sig, true)
		verifies(t, k.Root(), "n", sig, false)
		leafOf(t, sig, 0, api.OK)
		leafOf(t, sig[1:], 0, api.ErrForm)
		stands(t, k, 1, 1)
	}
}

// P7.4

func TestWhatIsSignedVerifies(t *testing.T) {
	for _, seed := range []string{"", "seed", text(16), text(65536)} {
		for tall, n := range []int{1, 2, 4, 8, 16} {
			k := key(t, seed, tall)
			for i := range n {
				m := text(97 * i)
				sig := sign(t, k, m)
				verifies(t, k.Root(), m, sig, true)
				leafOf(t, sig, i, api.OK)
			}
		}
	}
}

func TestEachLeafSignsOnce(t *testing.T) {
	for tall, n := range []int{1, 2, 4, 8, 16} {
		for stride := range 4 {
			k, seen, last := key(t, "seed", tall), map[int]bool{}, -1
			for i := range 3 * n {
				if stride > 0 && i%stride == 0 {
					k.Burn(i * stride % (n + 2))
				}
				next, left := k.Next(), k.Left()
				sig, e := k.Sign("m")
				if left == 0 {
					if sig != "" || e != api.ErrUsed {
						t.Fatalf("Sign, none left = %d bytes, %d", len(sig), int(e))
					}
					continue
				}
				leaf, _ := Leaf(sig)
				if e != api.OK || leaf != next || seen[leaf] || leaf <= last {
					t.Errorf("the leaf %d signs behind %d; next was %d", leaf, last, next)
				}
				seen[leaf], last = true, leaf
			}
			if stride == 0 && len(seen) != n {
				t.Errorf("%d leaves of %d signed", len(seen), n)
			}
		}
	}
}

func TestPathLeadsFromItsLeafToTheRoot(t *testing.T) {
	for _, n := range []int{1, 2, 4, 8, 16} {
		for _, leaves := range [][]string{some(n, 16), slices.Repeat([]string{text(16)}, n)} {
			root, _ := Root(leaves)
			for i, leaf := range leaves {
				path, e := Path(leaves, i)
				if len(path) != tallOf(n) || e != api.OK {
					t.Errorf("the path of %d of %d has %d nodes, %d", i, n, len(path), int(e))
				}
				ups(t, leaf, i, path, root, api.OK)
			}
		}
	}
}

func TestPathLeadsFromNoOtherLeafToTheRoot(t *testing.T) {
	for _, n := range []int{2, 4, 8, 16} {
		leaves := some(n, 16)
		root, _ := Root(leaves)
		for i := range leaves {
			path, _ := Path(leaves, i)
			for j, leaf := range leaves {
				for at := range leaves {
					if got, e := Up(leaf, at, path); e != api.OK || (got == root) != (j == i && at == i) {
						t.Errorf("the path of %d, from %d at %d, leads to %x; the root is %x", i, j, at, got, root)
					}
				}
			}
		}
	}
}

func FuzzKey(f *testing.F) {
	f.Add("", 0, 0, "", "")
	f.Add("seed", 2, 3, "pay 5", "pay 6")
	f.Add(text(65537), 4, 15, text(16), text(353))
	f.Add("seed", 5, -1, "m", "\x00"+text(288))
	f.Fuzz(func(t *testing.T, seed string, tall, at int, msg, other string) {
		leaf, e := Leaf(other)
		if e == api.OK && (leaf != int(other[0]) || leaf > 15) || e != api.OK && leaf != 0 {
			t.Errorf("Leaf of %d bytes = %d, %d", len(other), leaf, int(e))
		}
		k, e := New(seed, tall)
		if e != api.OK {
			return
		}
		k.Burn(at)
		next := k.Next()
		if Verify(k.Root(), msg, other) {
			t.Errorf("%x verifies", other)
		}
		sig, e := k.Sign(msg)
		if e == api.ErrUsed {
			if next != 1<<tall {
				t.Errorf("all is used at %d of %d", next, 1<<tall)
			}
			return
		}
		if leaf, e := Leaf(sig); leaf != next || e != api.OK || !Verify(k.Root(), msg, sig) || msg != other && Verify(k.Root(), other, sig) {
			t.Errorf("what the leaf %d signs of %q does not verify, or more does", next, msg)
		}
	})
}
