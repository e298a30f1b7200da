package wots

import (
	"crypto/sha256"
	"encoding/hex"
	"math"
	"slices"
	"strconv"
	"strings"
	"testing"
	"unsafe"

	"turnstile/api"
)

// text is n bytes of all kinds, no two neighbours alike.
func text(n int) string {
	b := make([]byte, n)
	for i := range b {
		b[i] = byte(i*31 + i>>8*7 + 0xf9)
	}
	return string(b)
}

// messages are messages, or seeds, of lengths round all that make a difference.
func messages() []string {
	l := []string{"", "\x00", "\xff", "a", "b", "ab", "message", "pay 5", "pay 6", "é日本", strings.Repeat("x", 1000)}
	for _, n := range []int{15, 16, 17, 63, 64, 65, 255, 256, 4096, 65535, 65536, 65537} {
		l = append(l, text(n))
	}
	return l
}

// tagged is a tag by the library's sum, with the lengths written out.
func tagged(word string, parts ...string) string {
	s := string([]byte{byte(len(word))}) + word
	for _, part := range parts {
		s += string([]byte{byte(len(part) >> 8), byte(len(part))}) + part
	}
	sum := sha256.Sum256([]byte(s))
	return string(sum[:16])
}

// wanted are a message's digits, read off the tag in base 16.
func wanted(t *testing.T, msg string) []int {
	t.Helper()
	d, sum := []int{}, 0
	for _, c := range hex.EncodeToString([]byte(tagged("message", msg)[:8])) {
		n, err := strconv.ParseInt(string(c), 16, 0)
		if err != nil {
			t.Fatal(err)
		}
		d = append(d, int(n))
		sum += int(n)
	}
	return append(d, (16*15-sum)/16, (16*15-sum)%16)
}

// walked is where n steps lead.
func walked(place int, x string, n int) string {
	for range n {
		x = tagged("step", string([]byte{byte(place)}), x)
	}
	return x
}

// secret is a seed's secret at a place.
func secret(seed string, place int) string {
	return tagged("secret", seed, string([]byte{byte(place)}))
}

// flipped is s with one bit turned.
func flipped(s string, bit int) string {
	b := []byte(s)
	b[bit/8] ^= 1 << (bit % 8)
	return string(b)
}

// below tells whether a has a digit below b's at the same place.
func below(a, b []int) bool {
	for i := range a {
		if a[i] < b[i] {
			return true
		}
	}
	return false
}

// from checks what From tells.
func from(t *testing.T, msg, sig, want string, e api.Errno) {
	t.Helper()
	if key, f := From(msg, sig); key != want || f != e {
		t.Errorf("From(%.20q, %d bytes) = %x, %d; want %x, %d", msg, len(sig), key, int(f), want, int(e))
	}
}

// The chapter's example.

func TestExample(t *testing.T) {
	for _, m := range messages() {
		d := Digits(m)
		if len(d) != 18 {
			t.Fatalf("Digits(%.20q) = %v", m, d)
		}
		sum := 16*d[16] + d[17]
		for _, n := range d[:16] {
			sum += n
		}
		if sum != 240 {
			t.Errorf("the digits of %.20q, and what they lack, are %d; want 240", m, sum)
		}
	}
}

// P6.1

func TestDigitsOfTheTag(t *testing.T) {
	for _, m := range messages() {
		if got, want := Digits(m), wanted(t, m); !slices.Equal(got, want) {
			t.Errorf("Digits(%.20q) = %v; want %v", m, got, want)
		}
	}
}

func TestDigitsOfKnownMessages(t *testing.T) {
	for m, want := range map[string]string{
		"":                            "0fde8f75041970b67d",
		"a":                           "7c929708f1a2bf0183",
		"message":                     "64ac3a15e3e17c587d",
		"pay 5":                       "631d7ab795367d8c77",
		strings.Repeat("\xff", 1<<16): "8ffca2154564a27a7c",
	} {
		got := ""
		for _, d := range Digits(m) {
			got += strconv.FormatInt(int64(d), 16)
		}
		if got != want {
			t.Errorf("Digits(%.20q) = %s; want %s", m, got, want)
		}
	}
}

func TestDigitsOfHashesAtTheEnds(t *testing.T) {
	for _, x := range []struct {
		hash string
		want [18]int
	}{
		{strings.Repeat("\x00", 16), [18]int{16: 15, 17: 0}},
		{strings.Repeat("\xff", 16), [18]int{15, 15, 15, 15, 15, 15, 15, 15, 15, 15, 15, 15, 15, 15, 15, 15, 0, 0}},
		{strings.Repeat("\xff", 7) + "\xfe" + text(8), [18]int{15, 15, 15, 15, 15, 15, 15, 15, 15, 15, 15, 15, 15, 15, 15, 14, 0, 1}},
		{"\xef" + strings.Repeat("\xff", 7) + text(8), [18]int{14, 15, 15, 15, 15, 15, 15, 15, 15, 15, 15, 15, 15, 15, 15, 15, 0, 1}},
		{strings.Repeat("\xff", 7) + "\x0f" + text(8), [18]int{15, 15, 15, 15, 15, 15, 15, 15, 15, 15, 15, 15, 15, 15, 0, 15, 0, 15}},
		{strings.Repeat("\xff", 7) + "\x0e" + text(8), [18]int{15, 15, 15, 15, 15, 15, 15, 15, 15, 15, 15, 15, 15, 15, 0, 14, 1, 0}},
		{strings.Repeat("\x00", 7) + "\x01" + text(8), [18]int{15: 1, 16: 14, 17: 15}},
		{"\x10" + strings.Repeat("\x00", 7) + text(8), [18]int{0: 1, 16: 14, 17: 15}},
		{"\x01\x23\x45\x67\x89\xab\xcd\xef" + text(8), [18]int{0, 1, 2, 3, 4, 5, 6, 7, 8, 9, 10, 11, 12, 13, 14, 15, 7, 8}},
	} {
		if got := spread(x.hash); got != x.want {
			t.Errorf("the digits of %x are %v; want %v", x.hash, got, x.want)
		}
	}
}

func TestDigitsAreNewMemory(t *testing.T) {
	a, b := Digits("m"), Digits("m")
	room := a[:cap(a)]
	for i := range room {
		room[i] = -1
	}
	if want := wanted(t, "m"); !slices.Equal(b, want) || !slices.Equal(Digits("m"), want) {
		t.Error("two answers of Digits share their memory")
	}
	if !Verify(Public("s"), "m", Sign("s", "m")) {
		t.Error("an answer of Digits that is changed changes others")
	}
}

func TestStepIsSoManyTags(t *testing.T) {
	for place := range 18 {
		for _, x := range []string{text(16), strings.Repeat("\x00", 16), strings.Repeat("\xff", 16), "éééééééé"} {
			for n := range 16 {
				if got, want := Step(place, x, n), walked(place, x, n); got != want {
					t.Errorf("Step(%d, %x, %d) = %x; want %x", place, x, n, got, want)
				}
			}
		}
	}
}

func TestStepByExactBytes(t *testing.T) {
	sum := sha256.Sum256([]byte("\x04step\x00\x01\x11\x00\x10aaaaaaaaaaaaaaaa"))
	if got, want := Step(17, "aaaaaaaaaaaaaaaa", 1), string(sum[:16]); got != want {
		t.Errorf("Step = %x; want %x", got, want)
	}
}

func TestStepOfWhatIsNone(t *testing.T) {
	for _, place := range []int{-1, 0, 1, 16, 17, 18, 19, -17, -18, 255, 256, 257, 1 << 32, math.MinInt, math.MaxInt} {
		for _, size := range []int{0, 1, 15, 16, 17, 32, 288, 65552} {
			for _, n := range []int{-1, 0, 1, 14, 15, 16, 17, -15, -16, 256, 1 << 32, math.MinInt, math.MaxInt} {
				want := ""
				if place >= 0 && place <= 17 && size == 16 && n >= 0 && n <= 15 {
					want = walked(place, text(size), n)
				}
				if got := Step(place, text(size), n); got != want {
					t.Errorf("Step(%d, %d bytes, %d) = %x; want %x", place, size, n, got, want)
				}
			}
		}
	}
}

func TestStepsInParts(t *testing.T) {
	for _, place := range []int{0, 1, 9, 16, 17} {
		for a := range 16 {
			for b := range 16 - a {
				if got, want := Step(place, Step(place, text(16), a), b), Step(place, text(16), a+b); got != want || len(got) != 16 {
					t.Errorf("%d and %d steps at %d lead to %x; want %x", a, b, place, got, want)
				}
			}
		}
	}
}

func TestStepHangsOnThePlace(t *testing.T) {
	for a := range 18 {
		for b := range a {
			if Step(a, text(16), 1) == Step(b, text(16), 1) {
				t.Errorf("a step leads to the same text at the places %d and %d", a, b)
			}
		}
	}
}

func TestStepIsNewMemory(t *testing.T) {
	x := text(17)[:16]
	if got := Step(3, x, 0); got != x || unsafe.StringData(got) == unsafe.StringData(x) {
		t.Errorf("Step(3, %x, 0) = %x: not the same bytes in new memory", x, got)
	}
}

func TestPlacesAreGoneOverInOrder(t *testing.T) {
	var all, some []int
	for place := range eachPlace {
		all = append(all, place)
	}
	for place := range eachPlace {
		some = append(some, place)
		if place == 4 {
			break
		}
	}
	if len(all) != 18 || !slices.Equal(some, all[:5]) {
		t.Errorf("places %v; up to the fifth %v", all, some)
	}
	for i, place := range all {
		if place != i {
			t.Errorf("place %d is %d", i, place)
		}
	}
}

// P6.2

func TestPublicIsStepsFromTheSecrets(t *testing.T) {
	for _, seed := range messages() {
		all := ""
		for place := range 18 {
			all += walked(place, secret(seed, place), 15)
		}
		if got, want := Public(seed), tagged("public", all); got != want {
			t.Errorf("Public(%.20q) = %x; want %x", seed, got, want)
		}
	}
}

func TestPublicOfKnownSeeds(t *testing.T) {
	for seed, want := range map[string]string{
		"":                         "99de12eef7f1f0de269e3d08b39f16cd",
		"seed":                     "6fe5dccff0eedf14e54a058c59dbf5a1",
		"\x00":                     "623d57857fee99432a0b861162b38fa6",
		strings.Repeat("x", 65537): "63f37f9f41184d6d3fb55bd150d7e455",
	} {
		if got := hex.EncodeToString([]byte(Public(seed))); got != want {
			t.Errorf("Public(%.20q) = %s; want %s", seed, got, want)
		}
	}
}

func TestSignIsStepsFromTheSecrets(t *testing.T) {
	for _, seed := range []string{"", "seed", "\x00", text(16), text(4096), text(65537)} {
		for _, m := range messages() {
			sig, d := Sign(seed, m), wanted(t, m)
			if len(sig) != 288 {
				t.Fatalf("Sign(%.20q, %.20q) has %d bytes", seed, m, len(sig))
			}
			for place := range 18 {
				want := walked(place, secret(seed, place), d[place])
				if got := sig[16*place : 16*place+16]; got != want {
					t.Errorf("Sign(%.20q, %.20q) is %x at %d; want %x", seed, m, got, place, want)
				}
			}
		}
	}
}

func TestSignKnownMessages(t *testing.T) {
	for _, x := range []struct{ seed, msg, want string }{
		{"", "", "10df4c488922ed112ff3d77ee8db188e76d11d6f5b92f5cd37f668e9ea44bcca"},
		{"seed", "pay 5", "10bee82222362cbe2bc8cb12810de3caa1a236f3f5ee3b83f7e37b0c6c63ace1"},
		{"\x00\xff", "message", "95fdd50f28ad6d903a5adb113952bb046acc08e3614d350eefa549a5c12c8b92"},
	} {
		sum := sha256.Sum256([]byte(Sign(x.seed, x.msg)))
		if got := hex.EncodeToString(sum[:]); got != x.want {
			t.Errorf("the sum of Sign(%q, %q) = %s; want %s", x.seed, x.msg, got, x.want)
		}
	}
}

func TestAnswersHangOnTheArgumentsAlone(t *testing.T) {
	p, s := Public("seed"), Sign("seed", "m")
	Sign("seed", "other")
	Verify(p, "other", s)
	if Public("seed") != p || Sign("seed", "m") != s {
		t.Error("a seed's key or signature is another one behind other calls")
	}
}

// P6.3

func TestFromIsTheStepsThatAreLeft(t *testing.T) {
	for _, sig := range []string{text(288), strings.Repeat("\x00", 288), strings.Repeat("\xff", 288), Sign("seed", "a")} {
		for _, m := range messages() {
			all, d := "", wanted(t, m)
			for place := range 18 {
				all += walked(place, sig[16*place:16*place+16], 15-d[place])
			}
			want := tagged("public", all)
			from(t, m, sig, want, api.OK)
			if !Verify(want, m, sig) {
				t.Errorf("Verify(%x, %.20q, %x..): no", want, m, sig[:4])
			}
		}
	}
}

func TestFromOfOtherLengths(t *testing.T) {
	p, long := Public("seed"), Sign("seed", "m")+text(1<<16)
	for _, n := range []int{0, 1, 15, 16, 17, 272, 286, 287, 289, 290, 304, 305, 576, 65536 + 288} {
		from(t, "m", long[:n], "", api.ErrForm)
		from(t, "", text(n), "", api.ErrForm)
		for _, public := range []string{p, "", Public("other")} {
			if Verify(public, "m", long[:n]) {
				t.Errorf("Verify(%x, m, %d bytes): yes", public, n)
			}
		}
	}
	from(t, "m", long[1:288], "", api.ErrForm)
	from(t, "m", long[:288], p, api.OK)
}

func TestVerifyOfAChangedByte(t *testing.T) {
	for _, m := range []string{"", "m"} {
		p, s := Public("seed"), Sign("seed", m)
		for i := range 288 {
			for _, other := range []string{flipped(s, 8*i+i%8), s[:i] + string([]byte{^s[i]}) + s[i+1:]} {
				if Verify(p, m, other) {
					t.Errorf("Verify, with byte %d changed: yes", i)
				}
				if key, e := From(m, other); key == p || len(key) != 16 || e != api.OK {
					t.Errorf("From, with byte %d changed = %x, %d", i, key, int(e))
				}
			}
		}
	}
}

func TestVerifyOfMovedTexts(t *testing.T) {
	p, s, d := Public("seed"), Sign("seed", "m"), Digits("m")
	for a := range 18 {
		for b := range a {
			moved := s[:16*b] + s[16*a:16*a+16] + s[16*b+16:16*a] + s[16*b:16*b+16] + s[16*a+16:]
			if Verify(p, "m", moved) {
				t.Errorf("Verify, with the texts at %d and %d in each other's place: yes", b, a)
			}
		}
		if d[a] == 15 {
			continue
		}
		if Verify(p, "m", s[:16*a]+Step(a, s[16*a:16*a+16], 1)+s[16*a+16:]) {
			t.Errorf("Verify, with one step more at %d: yes", a)
		}
	}
}

func TestVerifyOfAnotherMessageSeedOrKey(t *testing.T) {
	l := []string{"", "\x00", "a", "b", "ab", "pay 5", "pay 6", text(16), text(65536)}
	for i, seed := range l {
		for j, m := range l {
			s := Sign(seed, m)
			for k := range l {
				if got, want := Verify(Public(seed), l[k], s), j == k; got != want {
					t.Errorf("seed %.20q signed %.20q; Verify of %.20q: %v", seed, m, l[k], got)
				}
				if got, want := Verify(Public(l[k]), m, s), i == k; got != want {
					t.Errorf("seed %.20q signed %.20q; Verify with the key of %.20q: %v", seed, m, l[k], got)
				}
			}
		}
	}
}

func TestVerifyOfNoKey(t *testing.T) {
	p, s := Public("seed"), Sign("seed", "m")
	others := []string{"", "seed", p[:15], p[1:], p + "\x00", "\x00" + p, p + p, strings.Repeat("\x00", 16), hex.EncodeToString([]byte(p))}
	for bit := range 16 * 8 {
		others = append(others, flipped(p, bit))
	}
	for _, other := range others {
		if Verify(other, "m", s) {
			t.Errorf("Verify(%x, m, ..): yes; the key is %x", other, p)
		}
	}
	if !Verify(p, "m", s) {
		t.Error("Verify of what is signed: no")
	}
}

// P6.4

func TestWhatIsSignedVerifies(t *testing.T) {
	for _, seed := range messages() {
		p := Public(seed)
		for _, m := range messages() {
			s := Sign(seed, m)
			from(t, m, s, p, api.OK)
			if !Verify(p, m, s) {
				t.Errorf("what %.20q signs of %.20q does not verify", seed, m)
			}
		}
	}
}

func TestEachHasADigitBelow(t *testing.T) {
	var all [][]int
	for i := range 700 {
		all = append(all, Digits("message "+strconv.Itoa(i)))
	}
	pairs := 0
	for i, a := range all {
		for _, b := range all[:i] {
			if slices.Equal(a, b) {
				continue
			}
			pairs++
			if !below(a, b) || !below(b, a) {
				t.Errorf("the digits %v and %v: not each has one below the other one's", a, b)
			}
		}
	}
	if pairs != 700*699/2 {
		t.Errorf("%d pairs of messages with different digits", pairs)
	}
}

// Digits that no message is known to have, one step from each other and at the ends.
func TestEachHasADigitBelowWhereAllOthersAreHigher(t *testing.T) {
	hashes := []string{strings.Repeat("\x00", 8), strings.Repeat("\xff", 8)}
	for i := range 8 {
		for b := range 256 {
			for _, fill := range []string{"\x00", "\x7f", "\xff"} {
				hashes = append(hashes, strings.Repeat(fill, i)+string([]byte{byte(b)})+strings.Repeat(fill, 7-i))
			}
		}
	}
	var all [][18]int
	for _, h := range hashes {
		all = append(all, spread(h))
	}
	for i, a := range all {
		for _, b := range all[:i] {
			if a != b && (!below(a[:], b[:]) || !below(b[:], a[:])) {
				t.Fatalf("the digits %v and %v: not each has one below the other one's", a, b)
			}
		}
	}
}

func FuzzSign(f *testing.F) {
	f.Add("", "", "")
	f.Add("seed", "pay 5", "pay 6")
	f.Add(text(65537), text(16), text(288))
	f.Fuzz(func(t *testing.T, seed, msg, other string) {
		p, s := Public(seed), Sign(seed, msg)
		if !Verify(p, msg, s) {
			t.Errorf("what %q signs of %q does not verify", seed, msg)
		}
		a, b := Digits(msg), Digits(other)
		if slices.Equal(a, b) {
			return
		}
		if Verify(p, other, s) || !below(a, b) || !below(b, a) {
			t.Errorf("what %q signs of %q verifies for %q, or the digits do not tell them apart", seed, msg, other)
		}
		if key, e := From(msg, other); len(other) != 288 && (key != "" || e != api.ErrForm) {
			t.Errorf("From(%q, %q) = %x, %d", msg, other, key, int(e))
		}
	})
}
