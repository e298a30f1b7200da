package coin

import (
	"crypto/sha256"
	"encoding/binary"
	"fmt"
	"math"
	"math/big"
	"slices"
	"strings"
	"testing"
	"unsafe"

	"turnstile/api"
	"turnstile/note"
)

// text is n bytes of all kinds, no two neighbours alike.
func text(n int) string {
	b := make([]byte, n)
	for i := range b {
		b[i] = byte(i*31 + i>>8*7 + 0xf9)
	}
	return string(b)
}

// hash is the i-th of hashes of which no two are alike.
func hash(i int) string { return text(16 + i)[i:] }

// one is a number as a byte.
func one(n int) string { return string([]byte{byte(n)}) }

// eight is a number as 8 bytes, the highest first, by the library.
func eight(n uint64) string { return string(binary.BigEndian.AppendUint64(nil, n)) }

// behind is a text behind its length in two bytes.
func behind(s string) string {
	return string(binary.BigEndian.AppendUint16(nil, uint16(len(s)))) + s
}

// tagged is a word's sum of parts, by the library.
func tagged(word string, parts ...string) string {
	s := one(len(word)) + word
	for _, p := range parts {
		s += behind(p)
	}
	sum := sha256.Sum256([]byte(s))
	return string(sum[:16])
}

// pay, lock and top are outputs that may be, of which no field is like another.
func pay() Out { return Out{Kind: Pay, Amount: 0x0102030405060708, Key: hash(1)} }

func lock() Out {
	return Out{Kind: Lock, Amount: 0x1112131415161718, Key: hash(2), Gate: hash(3), Expiry: 0x21222324, Anchor: hash(4), Unit: 0x3132333435363738, Tokens: 0x0142}
}

func top() Out {
	return Out{Kind: Top, Amount: 0x5152535455565758, Key: hash(5), Gate: hash(6), Expiry: 0x61626364, Of: hash(7)}
}

// outs are so many outputs that may be, of all kinds in turn, no two alike.
func outs(n int) []Out {
	var l []Out
	for i := range n {
		o := []Out{pay(), lock(), top()}[i%3]
		o.Amount += uint64(i)
		l = append(l, o)
	}
	return l
}

// ins are so many inputs that may be, of all paths in turn, no two alike.
func ins(n int) []In {
	var l []In
	for i := range n {
		l = append(l, In{From: api.Point{Tx: hash(20 + i), Out: 71 + i}, Path: []int{Plain, Claim, Refund}[i%3], Sig: text(289 + 16*i)})
	}
	return l
}

// proof is a proof with so many wins, of which no field is like another.
func proof(wins int) note.Proof {
	p := note.Proof{Amount: 0x8182838485868788, Sig: text(305), Token: hash(30)}
	for i := range wins {
		at := uint64(i+1) << 56
		p.Wins = append(p.Wins, note.Win{
			T:    note.Ticket{Chan: hash(31 + i), Serial: at + 11, Face: at + 22, Wins: at + 33, Many: at + 44, Commit: hash(41 + i), Client: at + 55, Sig: text(321 + i)},
			Salt: text(7 + i), Drawn: at + 66,
		})
	}
	return p
}

// full is a transaction that may be, with so many inputs, outputs and wins.
func full(i, o, wins int) Tx { return Tx{Ins: ins(i), Outs: outs(o), Proof: proof(wins)} }

// outBytes are an output's bytes, by hand, whether it may be or not.
func outBytes(o Out) string {
	s := one(o.Kind) + eight(o.Amount) + o.Key
	if o.Kind == 2 {
		s += o.Gate + eight(uint64(o.Expiry)) + o.Anchor + eight(o.Unit) + eight(uint64(o.Tokens))
	}
	if o.Kind == 3 {
		s += o.Gate + eight(uint64(o.Expiry)) + o.Of
	}
	return s
}

// coreSaying is a core by hand, with a first byte and counts that are said.
func coreSaying(first, saidIns, saidOuts int, x Tx) string {
	s := one(first) + one(saidIns)
	for _, in := range x.Ins {
		s += in.From.Tx + one(in.From.Out) + one(in.Path)
	}
	s += one(saidOuts)
	for _, o := range x.Outs {
		s += outBytes(o)
	}
	return s
}

// coreBytes are a core's bytes, by hand, whether the transaction may be or not.
func coreBytes(x Tx) string { return coreSaying(67, len(x.Ins), len(x.Outs), x) }

// proofBytes are a proof's bytes, by hand, whether it may be or not.
func proofBytes(p note.Proof) string {
	s := eight(p.Amount) + behind(p.Sig) + behind(p.Token) + one(len(p.Wins))
	for _, w := range p.Wins {
		s += w.T.Chan + eight(w.T.Serial) + eight(w.T.Face) + eight(w.T.Wins) + eight(w.T.Many) + w.T.Commit + eight(w.T.Client) + behind(w.T.Sig)
		s += behind(w.Salt) + eight(w.Drawn)
	}
	return s
}

// bytesAround are a transaction's bytes, by hand, around a core and a proof.
func bytesAround(core string, l []In, proof string) string {
	s := behind(core)
	for _, in := range l {
		s += behind(in.Sig)
	}
	return s + behind(proof)
}

// txBytes are a transaction's bytes, by hand, whether it may be or not.
func txBytes(x Tx) string { return bytesAround(coreBytes(x), x.Ins, proofBytes(x.Proof)) }

// alike tells whether two transactions are the same, field by field.
func alike(a, b Tx) bool {
	return slices.Equal(a.Ins, b.Ins) && slices.Equal(a.Outs, b.Outs) &&
		a.Proof.Amount == b.Proof.Amount && a.Proof.Sig == b.Proof.Sig && a.Proof.Token == b.Proof.Token && slices.Equal(a.Proof.Wins, b.Proof.Wins)
}

// right checks what Right tells, and that Core, ID and Encode tell something of just the same.
func right(t *testing.T, what string, x Tx, want bool) {
	t.Helper()
	if Right(x) != want {
		t.Errorf("Right, %s: %v; want %v", what, !want, want)
	}
	core, id, coded := "", "", ""
	if want {
		core, coded = coreBytes(x), txBytes(x)
		id = tagged("tx", core)
	}
	if got := Core(x); got != core {
		t.Errorf("Core, %s = %x; want %x", what, got, core)
	}
	if got := ID(x); got != id {
		t.Errorf("ID, %s = %x; want %x", what, got, id)
	}
	if got := Encode(x); got != coded {
		t.Errorf("Encode, %s = %x; want %x", what, got, coded)
	}
}

// fails checks that Decode answers an error, and nothing beside it.
func fails(t *testing.T, what, s string, e api.Errno) {
	t.Helper()
	if x, f := Decode(s); f != e || !alike(x, Tx{}) {
		t.Errorf("Decode, %s = %x, %d; want nothing, %d", what, x, int(f), int(e))
	}
}

// decodes checks that Decode tells a transaction, field by field.
func decodes(t *testing.T, what, s string, want Tx) {
	t.Helper()
	if x, e := Decode(s); e != api.OK || !alike(x, want) {
		t.Errorf("Decode, %s = %x, %d; want %x", what, x, int(e), want)
	}
}

// The chapter's example.

func TestExample(t *testing.T) {
	x := Tx{Ins: []In{{From: api.Point{Tx: hash(9)}, Path: Plain}}, Outs: []Out{{Kind: Pay, Amount: 1, Key: hash(8)}}}
	if got := ID(x); len(got) != 16 {
		t.Errorf("ID of a payment of one input = %x; want 16 bytes", got)
	}
	right(t, "a payment of one input", x, true)
}

func TestNumbersOfKindsAndPaths(t *testing.T) {
	if Pay != 1 || Lock != 2 || Top != 3 || Plain != 1 || Claim != 2 || Refund != 3 {
		t.Errorf("kinds %d %d %d, paths %d %d %d", Pay, Lock, Top, Plain, Claim, Refund)
	}
}

// P9.1

// trait is a field of an output at a value, and of which kinds it may be.
type trait struct {
	field          string
	value          any
	do             func(o *Out)
	pay, lock, top bool
}

// traits are all fields of an output at their bounds, and beyond them.
func traits() []trait {
	var l []trait
	for _, v := range []uint64{0, 1, 2, math.MaxInt64, math.MaxUint64} {
		l = append(l,
			trait{"Amount", v, func(o *Out) { o.Amount = v }, v > 0, v > 0, v > 0},
			trait{"Unit", v, func(o *Out) { o.Unit = v }, v == 0, true, v == 0})
	}
	for _, n := range []int{0, 1, 15, 16, 17, 32, 65552} {
		s, none, is := text(n), n == 0, n == 16
		l = append(l,
			trait{"Key", n, func(o *Out) { o.Key = s }, is, is, is},
			trait{"Gate", n, func(o *Out) { o.Gate = s }, none, is, is},
			trait{"Anchor", n, func(o *Out) { o.Anchor = s }, none, is, none},
			trait{"Of", n, func(o *Out) { o.Of = s }, none, none, is})
	}
	for _, v := range []int{math.MinInt, -1 << 32, -1, 0, 1, 2, 1 << 31, 1<<32 - 2, 1<<32 - 1, 1 << 32, 1<<32 + 1, math.MaxInt} {
		may := v >= 1 && v <= 4294967295
		l = append(l, trait{"Expiry", v, func(o *Out) { o.Expiry = v }, v == 0, may, may})
	}
	for _, v := range []int{math.MinInt, -1 << 32, -4096, -1, 0, 1, 2, 4095, 4096, 4097, 1 << 32, math.MaxInt} {
		l = append(l, trait{"Tokens", v, func(o *Out) { o.Tokens = v }, v == 0, v >= 0 && v <= 4096, v == 0})
	}
	return l
}

// may tells whether a trait may be of a kind.
func (x trait) may(kind int) bool { return []bool{x.pay, x.lock, x.top}[kind-1] }

func TestFitsAtEachBound(t *testing.T) {
	for _, base := range []Out{pay(), lock(), top()} {
		if !Fits(base) {
			t.Errorf("an output of kind %d may not be", base.Kind)
		}
		for _, x := range traits() {
			o := base
			x.do(&o)
			if want := x.may(o.Kind); Fits(o) != want {
				t.Errorf("Fits of kind %d, %s %v: %v; want %v", o.Kind, x.field, x.value, !want, want)
			}
			right(t, fmt.Sprintf("kind %d, %s %v", o.Kind, x.field, x.value), Tx{Ins: ins(1), Outs: []Out{o}}, x.may(o.Kind))
		}
	}
}

func TestFitsOfTwoFieldsAtTheirBounds(t *testing.T) {
	all := traits()
	for _, base := range []Out{pay(), lock(), top()} {
		for _, x := range all {
			for _, y := range all {
				if x.field == y.field {
					continue
				}
				o := base
				x.do(&o)
				y.do(&o)
				if want := x.may(o.Kind) && y.may(o.Kind); Fits(o) != want {
					t.Errorf("Fits of kind %d, %s %v, %s %v: %v; want %v", o.Kind, x.field, x.value, y.field, y.value, !want, want)
				}
			}
		}
	}
}

func TestFitsOfOtherKinds(t *testing.T) {
	bases := []Out{pay(), lock(), top()}
	for _, base := range bases {
		for _, kind := range []int{math.MinInt, -255, -1, 0, 1, 2, 3, 4, 5, 67, 255, 256, 257, 258, 259, 1<<32 + 1, math.MaxInt} {
			o := base
			o.Kind = kind
			if want := kind == base.Kind; Fits(o) != want {
				t.Errorf("Fits of what kind %d has, as %d: %v; want %v", base.Kind, kind, !want, want)
			}
			right(t, fmt.Sprintf("what kind %d has, as %d", base.Kind, kind), Tx{Ins: ins(1), Outs: []Out{o}}, kind == base.Kind)
		}
	}
	// Of no kind is the output that has nothing.
	for kind := -1; kind <= 4; kind++ {
		if Fits(Out{Kind: kind}) {
			t.Errorf("an output of kind %d without anything may be", kind)
		}
	}
}

// The least that each kind may have, and the most.
func TestFitsOfTheLeastAndTheMost(t *testing.T) {
	h := hash(0)
	for i, o := range []Out{
		{Kind: Pay, Amount: 1, Key: h}, {Kind: Pay, Amount: math.MaxUint64, Key: h},
		{Kind: Lock, Amount: 1, Key: h, Gate: h, Expiry: 1, Anchor: h}, {Kind: Lock, Amount: math.MaxUint64, Key: h, Gate: h, Expiry: 1<<32 - 1, Anchor: h, Unit: math.MaxUint64, Tokens: 4096},
		{Kind: Lock, Amount: 1, Key: h, Gate: h, Expiry: 1, Anchor: h, Unit: math.MaxUint64}, {Kind: Lock, Amount: 1, Key: h, Gate: h, Expiry: 1, Anchor: h, Tokens: 4096},
		{Kind: Top, Amount: 1, Key: h, Gate: h, Expiry: 1, Of: h}, {Kind: Top, Amount: math.MaxUint64, Key: h, Gate: h, Expiry: 1<<32 - 1, Of: h},
	} {
		if !Fits(o) {
			t.Errorf("output %d may not be", i)
		}
		right(t, fmt.Sprintf("output %d", i), Tx{Ins: ins(1), Outs: []Out{o}}, true)
	}
}

func TestRightOfHowMany(t *testing.T) {
	for i := range 7 {
		for o := range 7 {
			right(t, fmt.Sprintf("%d inputs, %d outputs", i, o), full(i, o, 1), i >= 1 && i <= 4 && o >= 1 && o <= 4)
		}
	}
	right(t, "nothing", Tx{}, false)
	right(t, "empty lists", Tx{Ins: []In{}, Outs: []Out{}}, false)
	right(t, "257 inputs", full(257, 1, 0), false)
	right(t, "257 outputs", full(1, 257, 0), false)
}

func TestRightOfInputsOfOnePlace(t *testing.T) {
	for n := 2; n <= 4; n++ {
		for a := range n {
			for b := range n {
				if a == b {
					continue
				}
				x := full(n, 1, 0)
				x.Ins[a].From = x.Ins[b].From
				what := fmt.Sprintf("input %d of %d as %d", a, n, b)
				right(t, what, x, false)
				x.Ins[a].From.Out++
				x.Ins[b].From.Out--
				right(t, what+", of another output", x, true)
				x.Ins[a].From = api.Point{Tx: hash(50), Out: x.Ins[b].From.Out}
				right(t, what+", of another transaction", x, true)
			}
		}
	}
	// All else alike makes no two inputs one.
	same := In{Path: Claim, Sig: "sig"}
	x := full(1, 1, 0)
	x.Ins = nil
	for i := range 4 {
		same.From = api.Point{Tx: hash(50), Out: i}
		x.Ins = append(x.Ins, same)
	}
	right(t, "four outputs of one transaction", x, true)
}

func TestRightOfEachInput(t *testing.T) {
	for n := 1; n <= 4; n++ {
		for at := range n {
			check := func(field string, value any, want bool, do func(in *In)) {
				x := full(n, 2, 1)
				do(&x.Ins[at])
				right(t, fmt.Sprintf("input %d of %d, %s %v", at, n, field, value), x, want)
			}
			for _, v := range []int{0, 1, 15, 16, 17, 32, 65552} {
				check("From.Tx", v, v == 16, func(in *In) { in.From.Tx = text(v) })
			}
			for _, v := range []int{math.MinInt, -256, -255, -1, 0, 1, 254, 255, 256, 257, 1 << 32, math.MaxInt} {
				check("From.Out", v, v >= 0 && v <= 255, func(in *In) { in.From.Out = v })
			}
			for _, v := range []int{math.MinInt, -1, 0, 1, 2, 3, 4, 255, 256, 257, 258, 1<<32 + 1, math.MaxInt} {
				check("Path", v, v >= 1 && v <= 3, func(in *In) { in.Path = v })
			}
			for _, v := range []int{0, 1, 289, 399, 400, 401, 402, 4096, 4097, 65536} {
				check("Sig", v, v <= 400, func(in *In) { in.Sig = text(v) })
			}
		}
	}
}

func TestRightOfEachOutput(t *testing.T) {
	for n := 1; n <= 4; n++ {
		for at := range n {
			for name, do := range map[string]func(o *Out){
				"Amount": func(o *Out) { o.Amount = 0 }, "Key": func(o *Out) { o.Key += "x" }, "Kind": func(o *Out) { o.Kind = 4 }, "Expiry": func(o *Out) { o.Expiry = -1 }, "Tokens": func(o *Out) { o.Tokens = 4097 },
			} {
				x := full(2, n, 1)
				do(&x.Outs[at])
				right(t, fmt.Sprintf("output %d of %d, another %s", at, n, name), x, false)
			}
		}
	}
	// Outputs may be alike.
	right(t, "four outputs alike", Tx{Ins: ins(1), Outs: []Out{lock(), lock(), lock(), lock()}}, true)
	// Nobody asks what all of them have.
	much := Out{Kind: Pay, Amount: math.MaxUint64, Key: hash(1)}
	right(t, "outputs of too much", Tx{Ins: ins(1), Outs: []Out{much, much, much, much}}, true)
}

func TestRightOfProofs(t *testing.T) {
	for n := range 6 {
		right(t, fmt.Sprintf("%d wins", n), full(2, 2, n), n <= 3)
	}
	for name, do := range map[string]func(p *note.Proof){
		"Sig": func(p *note.Proof) { p.Sig = text(401) }, "Token": func(p *note.Proof) { p.Token = "x" }, "a Chan": func(p *note.Proof) { p.Wins[0].T.Chan = "x" },
		"a Commit": func(p *note.Proof) { p.Wins[1].T.Commit = "x" }, "a ticket's Sig": func(p *note.Proof) { p.Wins[1].T.Sig = text(401) }, "a Salt": func(p *note.Proof) { p.Wins[0].Salt = text(33) },
	} {
		x := full(2, 2, 2)
		do(&x.Proof)
		right(t, "another "+name, x, false)
	}
	longest := full(4, 4, 3)
	longest.Proof.Sig = text(400)
	for i := range longest.Proof.Wins {
		longest.Proof.Wins[i].T.Sig, longest.Proof.Wins[i].Salt = text(400), text(32)
	}
	for i := range longest.Ins {
		longest.Ins[i].Sig = text(400)
		longest.Outs[i] = lock()
	}
	right(t, "the longest one", longest, true)
	right(t, "no proof", Tx{Ins: ins(1), Outs: outs(1)}, true)
}

func TestCoreByItsBytes(t *testing.T) {
	one := Tx{Ins: []In{{From: api.Point{Tx: "the transaction!", Out: 200}, Path: Plain, Sig: "sig"}}}
	head := "C\x01the transaction!\xc8\x01\x01"
	for _, x := range []struct {
		o    Out
		want string
	}{
		{Out{Kind: Pay, Amount: 258, Key: "the client's key"}, "\x01\x00\x00\x00\x00\x00\x00\x01\x02the client's key"},
		{Out{Kind: Lock, Amount: 3, Key: "the client's key", Gate: "the gateway's :)", Expiry: 1<<32 - 1, Anchor: "the token's end.", Unit: 5, Tokens: 4096},
			"\x02\x00\x00\x00\x00\x00\x00\x00\x03the client's key" + "the gateway's :)" + "\x00\x00\x00\x00\xff\xff\xff\xff" + "the token's end." + "\x00\x00\x00\x00\x00\x00\x00\x05" + "\x00\x00\x00\x00\x00\x00\x10\x00"},
		{Out{Kind: Top, Amount: 4, Key: "the client's key", Gate: "the gateway's :)", Expiry: 300, Of: "the channel's .."},
			"\x03\x00\x00\x00\x00\x00\x00\x00\x04the client's key" + "the gateway's :)" + "\x00\x00\x00\x00\x00\x00\x01\x2c" + "the channel's .."},
	} {
		one.Outs = []Out{x.o}
		if got, want := Core(one), head+x.want; got != want {
			t.Errorf("Core of kind %d = %x; want %x", x.o.Kind, got, want)
		}
		if got, want := ID(one), tagged("tx", head+x.want); got != want {
			t.Errorf("ID of kind %d = %x; want %x", x.o.Kind, got, want)
		}
		if got, want := Encode(one), behind(head+x.want)+"\x00\x03sig\x00\x0d"+strings.Repeat("\x00", 13); got != want {
			t.Errorf("Encode of kind %d = %x; want %x", x.o.Kind, got, want)
		}
	}
	two := Tx{Ins: []In{{From: api.Point{Tx: "transaction two!", Out: 255}, Path: Refund}, {From: api.Point{Tx: "the transaction!"}, Path: Claim}}, Outs: []Out{{Kind: Pay, Amount: 1, Key: "the gateway's :)"}, {Kind: Pay, Amount: 2, Key: "the client's key"}}}
	want := "C\x02transaction two!\xff\x03the transaction!\x00\x02" + "\x02\x01\x00\x00\x00\x00\x00\x00\x00\x01the gateway's :)" + "\x01\x00\x00\x00\x00\x00\x00\x00\x02the client's key"
	if got := Core(two); got != want {
		t.Errorf("Core of two inputs = %x; want %x", got, want)
	}
}

// The order of inputs and of outputs is told.
func TestCoreAndIDOfAnotherOrder(t *testing.T) {
	x, y, z := full(3, 3, 0), full(3, 3, 0), full(3, 3, 0)
	y.Ins[0], y.Ins[1] = y.Ins[1], y.Ins[0]
	z.Outs[1], z.Outs[2] = z.Outs[2], z.Outs[1]
	right(t, "inputs in another order", y, true)
	right(t, "outputs in another order", z, true)
	if ID(x) == ID(y) || ID(x) == ID(z) || Core(x) == Core(y) || Core(x) == Core(z) {
		t.Error("another order has the same name")
	}
}

func TestNameByItsBytes(t *testing.T) {
	for _, n := range []int{0, 1, 15, 16, 17, 4096, 4097} {
		for out, as := range map[int]int{
			0: 0, 1: 1, 7: 7, 127: 127, 128: 128, 254: 254, 255: 255, 256: 0, 257: 1, 511: 255, 512: 0, 1<<32 + 3: 3, math.MaxInt: 255,
			-1: 255, -2: 254, -255: 1, -256: 0, -257: 255, math.MinInt: 0, math.MinInt + 5: 5,
		} {
			if got, want := Name(api.Point{Tx: text(n), Out: out}), tagged("lock", text(n), one(as)); got != want {
				t.Errorf("Name of %d bytes, %d = %x; want %x", n, out, got, want)
			}
		}
	}
	sum := sha256.Sum256([]byte("\x04lock\x00\x10the transaction!\x00\x01\x07"))
	if got := Name(api.Point{Tx: "the transaction!", Out: 7}); got != string(sum[:16]) {
		t.Errorf("Name = %x; want %x", got, sum[:16])
	}
}

func TestNamesDiffer(t *testing.T) {
	seen := map[string]string{}
	add := func(what, name string) {
		if other, twice := seen[name]; twice || len(name) != 16 {
			t.Errorf("%s and %s have the name %x", what, other, name)
		}
		seen[name] = what
	}
	for i := range 256 {
		add(fmt.Sprintf("output %d", i), Name(api.Point{Tx: hash(0), Out: i}))
		add(fmt.Sprintf("output %d of another", i), Name(api.Point{Tx: hash(1), Out: i}))
	}
	add("a transaction", ID(full(1, 1, 0)))
	add("another one", ID(full(2, 1, 0)))
}

func TestWhole(t *testing.T) {
	for i, amounts := range [][]uint64{
		nil, {0}, {1}, {1, 2, 3}, {0, 0, 0}, {5, 0, 7, 0, 11}, {math.MaxUint64}, {math.MaxUint64, 0}, {0, math.MaxUint64}, {math.MaxUint64, 1}, {1, math.MaxUint64}, {math.MaxUint64 - 1, 1}, {math.MaxUint64 - 1, 1, 1},
		{1 << 63, 1 << 63}, {1 << 63, 1<<63 - 1}, {1 << 63, 1<<63 - 1, 1}, {math.MaxUint64, math.MaxUint64, 2}, {1 << 62, 1 << 62, 1 << 62, 1 << 62}, {1 << 62, 1 << 62, 1 << 62, 1<<62 - 1}, {1, 1, 1, 1, 1, 1, 1, 1, 1},
	} {
		l, sum := []Out(nil), new(big.Int)
		for j, a := range amounts {
			// Of outputs that may not be the amounts count too.
			l = append(l, Out{Kind: j, Amount: a, Unit: 9, Tokens: 9, Expiry: 9})
			sum.Add(sum, new(big.Int).SetUint64(a))
		}
		want, e := sum.Uint64(), api.OK
		if !sum.IsUint64() {
			want, e = 0, api.ErrOver
		}
		if got, f := Whole(l); got != want || f != e {
			t.Errorf("Whole of list %d = %d, %d; want %d, %d", i, got, int(f), want, int(e))
		}
	}
	if got, e := Whole([]Out{}); got != 0 || e != api.OK {
		t.Errorf("Whole of no outputs = %d, %d", got, int(e))
	}
	many := make([]Out, 10000)
	for i := range many {
		many[i].Amount = uint64(i)
	}
	if got, e := Whole(many); got != 49995000 || e != api.OK {
		t.Errorf("Whole of many = %d, %d", got, int(e))
	}
}

// P9.2

func TestEncodeByItsBytes(t *testing.T) {
	x := Tx{
		Ins:   []In{{From: api.Point{Tx: "the transaction!", Out: 7}, Path: Claim, Sig: "sig"}, {From: api.Point{Tx: "transaction two!"}, Path: Plain}},
		Outs:  []Out{{Kind: Pay, Amount: 1, Key: "the gateway's :)"}},
		Proof: note.Proof{Amount: 258, Sig: "signature", Token: "the token's end."},
	}
	want := "\x00\x40C\x02the transaction!\x07\x02transaction two!\x00\x01\x01\x01\x00\x00\x00\x00\x00\x00\x00\x01the gateway's :)" +
		"\x00\x03sig" + "\x00\x00" + "\x00\x26\x00\x00\x00\x00\x00\x00\x01\x02\x00\x09signature\x00\x10the token's end.\x00"
	if got := Encode(x); got != want {
		t.Errorf("Encode = %x; want %x", got, want)
	}
	decodes(t, "by hand", want, x)
	for i := 1; i <= 4; i++ {
		for o := 1; o <= 4; o++ {
			for wins := range 4 {
				x := full(i, o, wins)
				if got, want := Encode(x), behind(coreBytes(x))+sigs(x)+behind(note.Encode(x.Proof)); got != want {
					t.Errorf("Encode of %d inputs, %d outputs, %d wins = %x; want %x", i, o, wins, got, want)
				}
			}
		}
	}
}

// sigs are the inputs' signatures, each behind its length.
func sigs(x Tx) string {
	s := ""
	for _, in := range x.Ins {
		s += behind(in.Sig)
	}
	return s
}

// several are transactions that may be, of all kinds and sizes.
func several() []Tx {
	var l []Tx
	for i := 1; i <= 4; i++ {
		for o := 1; o <= 4; o++ {
			for wins := range 4 {
				l = append(l, full(i, o, wins))
			}
		}
	}
	for _, o := range []Out{
		pay(), lock(), top(), {Kind: Pay, Amount: math.MaxUint64, Key: hash(1)}, {Kind: Lock, Amount: 1, Key: hash(1), Gate: hash(1), Expiry: 1, Anchor: hash(1)},
		{Kind: Lock, Amount: math.MaxUint64, Key: hash(1), Gate: hash(1), Expiry: 1<<32 - 1, Anchor: hash(1), Unit: math.MaxUint64, Tokens: 4096}, {Kind: Top, Amount: 1, Key: hash(1), Gate: hash(1), Expiry: 1<<32 - 1, Of: hash(1)},
	} {
		for _, p := range []note.Proof{{}, {Amount: 1}, {Amount: math.MaxUint64}, {Sig: "s"}, {Sig: text(400)}, {Token: hash(1)}, {Wins: proof(1).Wins}, {Wins: []note.Win{}}} {
			l = append(l, Tx{Ins: ins(1), Outs: []Out{o}, Proof: p})
		}
	}
	for _, n := range []int{0, 1, 255, 256, 399, 400} {
		x := full(4, 1, 0)
		x.Ins[0].Sig, x.Ins[3].Sig, x.Ins[1].From.Out, x.Ins[2].From.Out = text(n), text(n), 0, 255
		l = append(l, x)
	}
	return l
}

func TestDecodeOfWhatWasEncoded(t *testing.T) {
	for i, x := range several() {
		decodes(t, fmt.Sprintf("transaction %d", i), txBytes(x), x)
		s := Encode(x)
		decodes(t, fmt.Sprintf("transaction %d, encoded", i), s, x)
		if y, _ := Decode(s); !Right(y) || Encode(y) != s || ID(y) != ID(x) {
			t.Errorf("transaction %d, decoded, is another one", i)
		}
	}
}

func TestDecodeOfWhatIsCutOff(t *testing.T) {
	for _, x := range []Tx{full(1, 1, 0), full(4, 4, 3), full(2, 3, 1), {Ins: ins(1), Outs: outs(1)}} {
		s := txBytes(x)
		for end := range len(s) {
			fails(t, fmt.Sprintf("%d of %d bytes", end, len(s)), s[:end], api.ErrShort)
		}
		decodes(t, "the whole", s, x)
	}
}

func TestDecodeOfACoreThatIsCutOff(t *testing.T) {
	for _, x := range []Tx{full(1, 1, 0), full(4, 4, 3), full(3, 3, 1)} {
		core := coreBytes(x)
		for end := 1; end < len(core); end++ {
			fails(t, fmt.Sprintf("%d of %d bytes of the core", end, len(core)), bytesAround(core[:end], x.Ins, proofBytes(x.Proof)), api.ErrShort)
		}
		fails(t, "no byte of the core", bytesAround("", x.Ins, proofBytes(x.Proof)), api.ErrForm)
	}
}

func TestDecodeOfBytesThatAreLeft(t *testing.T) {
	for _, x := range []Tx{full(1, 1, 0), full(4, 4, 3), full(2, 3, 1)} {
		for _, more := range []string{"\x00", "x", text(16), text(500), outBytes(pay()), txBytes(x)} {
			what := fmt.Sprintf("%d bytes more", len(more))
			fails(t, what, txBytes(x)+more, api.ErrForm)
			fails(t, what+" in the core", bytesAround(coreBytes(x)+more, x.Ins, proofBytes(x.Proof)), api.ErrForm)
			if len(proofBytes(x.Proof)+more) <= 4096 {
				fails(t, what+" in the proof", bytesAround(coreBytes(x), x.Ins, proofBytes(x.Proof)+more), api.ErrForm)
			}
		}
	}
}

func TestDecodeOfCoresOfLengths(t *testing.T) {
	x := full(2, 2, 1)
	rest := sigs(x) + behind(proofBytes(x.Proof))
	for _, n := range []int{1, 2, 255, 256, 4095, 4096, 4097, 4098, 65535} {
		// All of them begin as a core does, behind which too much is said, or left.
		core := (coreBytes(x) + text(65535))[:n]
		e := api.ErrForm
		switch {
		case n > 4096:
			e = api.ErrBig
		case n < len(coreBytes(x)):
			e = api.ErrShort
		}
		fails(t, fmt.Sprintf("a core of %d bytes", n), behind(core)+rest, e)
	}
	for said, e := range map[string]api.Errno{"": api.ErrShort, "\x00": api.ErrShort, "\x10": api.ErrShort, "\xff": api.ErrShort, "\x00\x00": api.ErrForm, "\x00\x01": api.ErrShort, "\x10\x00": api.ErrShort, "\x10\x01": api.ErrBig, "\xff\xff": api.ErrBig} {
		fails(t, fmt.Sprintf("a length of %x alone", said), said, e)
	}
	fails(t, "an empty core alone", "\x00\x00", api.ErrForm)
	fails(t, "an empty core, and all else", "\x00\x00"+rest, api.ErrForm)
}

func TestDecodeOfFirstBytes(t *testing.T) {
	x := full(2, 2, 1)
	for first := range 256 {
		core := coreSaying(first, 2, 2, x)
		s := bytesAround(core, x.Ins, proofBytes(x.Proof))
		what := fmt.Sprintf("the first byte %d", first)
		if first == 67 {
			decodes(t, what, s, x)
			fails(t, what+" alone", "\x00\x01C", api.ErrShort)
			continue
		}
		fails(t, what, s, api.ErrForm)
		// It is told ahead of all that comes behind it, even if nothing does.
		for _, end := range []int{1, 2, 3, 20, len(core) - 1} {
			fails(t, fmt.Sprintf("%s, %d bytes", what, end), bytesAround(core[:end], x.Ins, proofBytes(x.Proof)), api.ErrForm)
		}
	}
}

func TestDecodeOfHowManyInputsAreSaid(t *testing.T) {
	for said := range 256 {
		for has := range 7 {
			x := full(has, 1, 0)
			core := coreSaying(67, said, 1, x)
			s := bytesAround(core, x.Ins, proofBytes(x.Proof))
			what := fmt.Sprintf("%d inputs, %d said", has, said)
			switch {
			case said < 1 || said > 4:
				fails(t, what, s, api.ErrForm)
				fails(t, what+", and none there", bytesAround(core[:2], nil, ""), api.ErrForm)
				fails(t, what+", and nothing else", behind(core[:2]), api.ErrForm)
			case said == has:
				decodes(t, what, s, x)
			default:
				_, e := model(s)
				fails(t, what, s, e)
			}
		}
	}
}

func TestDecodeOfHowManyOutputsAreSaid(t *testing.T) {
	for said := range 256 {
		for has := range 7 {
			x := full(1, has, 0)
			core := coreSaying(67, 1, said, x)
			s := bytesAround(core, x.Ins, proofBytes(x.Proof))
			what := fmt.Sprintf("%d outputs, %d said", has, said)
			switch {
			case said < 1 || said > 4:
				fails(t, what, s, api.ErrForm)
				fails(t, what+", and none there", bytesAround(core[:21], x.Ins, ""), api.ErrForm)
				fails(t, what+", and nothing else", behind(core[:21]), api.ErrForm)
			case said < has:
				fails(t, what, s, api.ErrForm)
			case said > has:
				fails(t, what, s, api.ErrShort)
			default:
				decodes(t, what, s, x)
			}
		}
	}
}

// A kind is told behind its key: what is cut off ahead of that is short.
func TestDecodeOfKinds(t *testing.T) {
	for kind := range 256 {
		for at := range 4 {
			x := full(1, 4, 0)
			x.Outs[at] = []Out{pay(), lock(), top()}[max(0, kind-1)%3]
			x.Outs[at].Kind = kind
			s := bytesAround(coreBytes(x), x.Ins, proofBytes(x.Proof))
			what := fmt.Sprintf("kind %d of output %d", kind, at)
			if kind >= 1 && kind <= 3 {
				decodes(t, what, s, x)
				continue
			}
			fails(t, what, s, api.ErrForm)
			ahead := coreBytes(Tx{Ins: x.Ins, Outs: x.Outs[:at]})
			core := "C" + ahead[1:20] + "\x04" + ahead[21:] + outBytes(x.Outs[at])
			for end := len(core) - 25; end < len(core); end++ {
				fails(t, fmt.Sprintf("%s, %d bytes", what, end), bytesAround(core[:end], x.Ins, proofBytes(x.Proof)), api.ErrShort)
			}
			fails(t, what+", nothing behind its key", behind(core), api.ErrForm)
			fails(t, what+", something behind its key", bytesAround(core+"x", x.Ins, ""), api.ErrForm)
		}
	}
}

func TestDecodeOfLengthsOfSigs(t *testing.T) {
	for n := 1; n <= 4; n++ {
		for at := range n {
			for _, size := range []int{0, 1, 255, 256, 399, 400, 401, 402, 4096, 4097, 65535} {
				x := full(n, 1, 1)
				x.Ins[at].Sig = text(size)
				what := fmt.Sprintf("Sig %d of %d of %d bytes", at, n, size)
				if size <= 400 {
					decodes(t, what, txBytes(x), x)
					continue
				}
				fails(t, what, txBytes(x), api.ErrBig)
				fails(t, what+", and a byte", txBytes(x)+"x", api.ErrBig)
				upTo := behind(coreBytes(x)) + sigs(Tx{Ins: x.Ins[:at]}) + behind(x.Ins[at].Sig)[:2]
				fails(t, what+", cut off behind its length", upTo, api.ErrBig)
				fails(t, what+", cut off within its length", upTo[:len(upTo)-1], api.ErrShort)
			}
		}
	}
}

func TestDecodeOfProofs(t *testing.T) {
	x := full(2, 2, 1)
	for _, c := range []struct {
		what  string
		proof string
		e     api.Errno
	}{
		{"no bytes", "", api.ErrShort}, {"a byte", "x", api.ErrShort}, {"one byte too few", strings.Repeat("\x00", 12), api.ErrShort}, {"none, and a byte", strings.Repeat("\x00", 14), api.ErrForm},
		{"a Sig of 401 bytes", proofBytes(note.Proof{Sig: text(401)}), api.ErrBig}, {"a Token of 17 bytes", proofBytes(note.Proof{Token: text(17)}), api.ErrBig}, {"a Token of 15 bytes", proofBytes(note.Proof{Token: text(15)}), api.ErrForm},
		{"4 wins", proofBytes(proof(4)), api.ErrForm}, {"a win cut off", proofBytes(proof(2))[:600], api.ErrShort}, {"4096 bytes", (proofBytes(proof(3)) + text(4096))[:4096], api.ErrForm},
		{"4097 bytes", (proofBytes(proof(3)) + text(4097))[:4097], api.ErrBig}, {"65535 bytes", text(65535), api.ErrBig},
	} {
		for _, more := range []string{"", "x", text(500)} {
			fails(t, "a proof of "+c.what, bytesAround(coreBytes(x), x.Ins, c.proof)+more, c.e)
		}
		if len(c.proof) <= 4096 {
			if _, e := note.Decode(c.proof); e != c.e {
				t.Errorf("note.Decode of %s = %d; want %d", c.what, int(e), int(c.e))
			}
		}
	}
	s := behind(coreBytes(x)) + sigs(x)
	fails(t, "a proof's length above 4096, alone", s+"\x10\x01", api.ErrBig)
	fails(t, "a proof's length of 4096, alone", s+"\x10\x00", api.ErrShort)
	fails(t, "half a proof's length", s+"\x10", api.ErrShort)
}

func TestDecodeOfWhatIsReadWholeButMayNotBe(t *testing.T) {
	for name, do := range map[string]func(x *Tx){
		"two inputs of one place": func(x *Tx) { x.Ins[2].From = x.Ins[0].From }, "a path of 0": func(x *Tx) { x.Ins[0].Path = 0 }, "a path of 4": func(x *Tx) { x.Ins[2].Path = 4 }, "a path of 255": func(x *Tx) { x.Ins[1].Path = 255 },
		"no amount of Pay": func(x *Tx) { x.Outs[0].Amount = 0 }, "no amount of Lock": func(x *Tx) { x.Outs[1].Amount = 0 }, "no amount of Top": func(x *Tx) { x.Outs[2].Amount = 0 },
		"a lock's expiry of 0": func(x *Tx) { x.Outs[1].Expiry = 0 }, "a lock's expiry of 2^32": func(x *Tx) { x.Outs[1].Expiry = 1 << 32 }, "a lock's expiry of 2^63": func(x *Tx) { x.Outs[1].Expiry = math.MinInt }, "a lock's expiry of 2^64 - 1": func(x *Tx) { x.Outs[1].Expiry = -1 },
		"a lock's expiry of 2^63 + 1": func(x *Tx) { x.Outs[1].Expiry = math.MinInt + 1 }, "a lock's expiry of 2^63 - 1": func(x *Tx) { x.Outs[1].Expiry = math.MaxInt }, "a lock's expiry of 2^32 + 5": func(x *Tx) { x.Outs[1].Expiry = 1<<32 + 5 },
		"4097 tokens": func(x *Tx) { x.Outs[1].Tokens = 4097 }, "2^32 tokens": func(x *Tx) { x.Outs[1].Tokens = 1 << 32 }, "2^63 tokens": func(x *Tx) { x.Outs[1].Tokens = math.MinInt }, "2^64 - 1 tokens": func(x *Tx) { x.Outs[1].Tokens = -1 }, "2^63 - 1 tokens": func(x *Tx) { x.Outs[1].Tokens = math.MaxInt },
		"a top's expiry of 0": func(x *Tx) { x.Outs[2].Expiry = 0 }, "a top's expiry of 2^32": func(x *Tx) { x.Outs[2].Expiry = 1 << 32 }, "a top's expiry of 2^63": func(x *Tx) { x.Outs[2].Expiry = math.MinInt }, "a top's expiry of 2^64 - 1": func(x *Tx) { x.Outs[2].Expiry = -1 },
	} {
		x := full(3, 3, 1)
		do(&x)
		if Right(x) {
			t.Errorf("%s may be", name)
		}
		s := txBytes(x)
		fails(t, name, s, api.ErrForm)
		fails(t, name+", and a byte", s+"x", api.ErrForm)
		// All other errors come ahead of that.
		fails(t, name+", cut off", s[:len(s)-1], api.ErrShort)
		fails(t, name+", a core that is short", bytesAround(coreBytes(x)[:len(coreBytes(x))-1], x.Ins, proofBytes(x.Proof)), api.ErrShort)
		fails(t, name+", a proof that is short", bytesAround(coreBytes(x), x.Ins, "x"), api.ErrShort)
		x.Ins[2].Sig = text(401)
		fails(t, name+", a Sig of 401 bytes", txBytes(x), api.ErrBig)
	}
}

// parts are what a transaction's bytes are made of, each of which can be wrong.
type parts struct {
	x                   Tx
	first, ins, outs    int
	core                func(core string) string // what is done to the core
	length              func(core string) string // what stands for the core and its length
	proof, behind, tail string
	cut                 int
}

// wrong is an error that is made alone.
type wrong struct {
	name string
	e    api.Errno
	do   func(p *parts)
}

// groups are what can be wrong, in the order in which it is told. Those of one
// group exclude each other.
func groups() [][]wrong {
	fine := wrong{"", api.OK, func(p *parts) {}}
	return [][]wrong{
		{fine,
			{"a core's length of 4097", api.ErrBig, func(p *parts) { p.length = func(core string) string { return "\x10\x01" + core } }},
			{"a core's length beyond the end", api.ErrShort, func(p *parts) {
				p.length = func(core string) string { return "\x10\x00" + core }
			}},
			{"an empty core", api.ErrForm, func(p *parts) { p.length = func(core string) string { return "\x00\x00" } }}},
		{fine, {"a first byte of 68", api.ErrForm, func(p *parts) { p.first = 68 }}},
		{fine, {"0 inputs", api.ErrForm, func(p *parts) { p.ins = 0 }}, {"5 inputs", api.ErrForm, func(p *parts) { p.ins = 5 }}},
		{fine, {"0 outputs", api.ErrForm, func(p *parts) { p.outs = 0 }}, {"255 outputs", api.ErrForm, func(p *parts) { p.outs = 255 }}},
		{fine, {"a kind of 4", api.ErrForm, func(p *parts) { p.x.Outs[1].Kind = 4 }}},
		{fine,
			{"a byte behind the core", api.ErrForm, func(p *parts) { p.core = func(core string) string { return core + "x" } }},
			{"a core without its end", api.ErrShort, func(p *parts) { p.core = func(core string) string { return core[:len(core)-1] } }}},
		{fine, {"a Sig of 401 bytes", api.ErrBig, func(p *parts) { p.x.Ins[1].Sig = text(401) }}},
		{fine,
			{"a proof of 4097 bytes", api.ErrBig, func(p *parts) { p.tail = text(4097) }},
			{"a proof cut off", api.ErrShort, func(p *parts) { p.cut = 1 }}},
		{fine,
			{"a proof's Sig of 401 bytes", api.ErrBig, func(p *parts) { p.proof = proofBytes(note.Proof{Sig: text(401)}) }},
			{"a proof too short", api.ErrShort, func(p *parts) { p.proof = "x" }},
			{"a proof's token of 1 byte", api.ErrForm, func(p *parts) { p.proof = proofBytes(note.Proof{Token: "x"}) }}},
		{fine, {"a byte behind all", api.ErrForm, func(p *parts) { p.behind = "x" }}},
		{fine, {"no amount", api.ErrForm, func(p *parts) { p.x.Outs[0].Amount = 0 }}},
	}
}

// text is what the parts are together.
func (p parts) text() string {
	s := p.length(p.core(coreSaying(p.first, p.ins, p.outs, p.x))) + sigs(p.x)
	tail := behind(p.proof + p.tail)
	s += tail[:len(tail)-p.cut]
	if p.cut == 0 {
		s += p.behind
	}
	return s
}

func TestDecodeOfTheFirstOfSeveralErrors(t *testing.T) {
	all, sets := groups(), 1
	for _, g := range all {
		sets *= len(g)
	}
	for set := range sets {
		p := parts{
			x: full(2, 3, 0), first: 67, ins: 2, outs: 3, proof: proofBytes(proof(0)),
			core: func(core string) string { return core }, length: behind,
		}
		what, e := "", api.OK
		for _, g := range all {
			w := g[set%len(g)]
			set /= len(g)
			w.do(&p)
			what += w.name + ", "
			if e == api.OK {
				e = w.e
			}
		}
		s := p.text()
		// What is said to be beyond the end is, if all else is no longer than that.
		if p.tail != "" && strings.HasPrefix(s, "\x10\x00") {
			continue
		}
		if strings.HasPrefix(s, "\x10\x01") && e != api.ErrBig {
			t.Fatalf("%s: not told as too big", what)
		}
		if e == api.OK {
			decodes(t, what, s, p.x)
		} else {
			fails(t, what, s, e)
		}
		if _, f := model(s); f != e {
			t.Fatalf("%s: by hand %d; want %d", what, int(f), int(e))
		}
	}
}

// cursor reads by hand: an error ends it all.
type cursor struct{ rest string }

func (c *cursor) take(n int) string {
	if len(c.rest) < n {
		panic(api.ErrShort)
	}
	s := c.rest[:n]
	c.rest = c.rest[n:]
	return s
}

func (c *cursor) one() int { return int(c.take(1)[0]) }

func (c *cursor) eight() uint64 { return binary.BigEndian.Uint64([]byte(c.take(8))) }

func (c *cursor) blob(most int) string {
	n := int(binary.BigEndian.Uint16([]byte(c.take(2))))
	if n > most {
		panic(api.ErrBig)
	}
	return c.take(n)
}

// count is a number of 1 to 4.
func (c *cursor) count() int {
	n := c.one()
	if n < 1 || n > 4 {
		panic(api.ErrForm)
	}
	return n
}

// out is an output.
func (c *cursor) out() Out {
	o := Out{Kind: c.one()}
	o.Amount = c.eight()
	o.Key = c.take(16)
	if o.Kind < 1 || o.Kind > 3 {
		panic(api.ErrForm)
	}
	if o.Kind > 1 {
		o.Gate = c.take(16)
		o.Expiry = int(c.eight())
	}
	if o.Kind == 2 {
		o.Anchor = c.take(16)
		o.Unit = c.eight()
		o.Tokens = int(c.eight())
	}
	if o.Kind == 3 {
		o.Of = c.take(16)
	}
	return o
}

// model is what Decode tells, by the document's words, step by step.
func model(s string) (x Tx, e api.Errno) {
	defer func() {
		if r := recover(); r != nil {
			x, e = Tx{}, r.(api.Errno)
		}
	}()
	whole := cursor{s}
	core := cursor{whole.blob(4096)}
	if core.rest == "" || core.one() != 67 {
		panic(api.ErrForm)
	}
	for range core.count() {
		in := In{From: api.Point{Tx: core.take(16)}}
		in.From.Out = core.one()
		in.Path = core.one()
		x.Ins = append(x.Ins, in)
	}
	for range core.count() {
		x.Outs = append(x.Outs, core.out())
	}
	if core.rest != "" {
		panic(api.ErrForm)
	}
	for i := range x.Ins {
		x.Ins[i].Sig = whole.blob(400)
	}
	x.Proof, e = note.Decode(whole.blob(4096))
	if e != api.OK {
		panic(e)
	}
	if whole.rest != "" || !mayBe(x) {
		panic(api.ErrForm)
	}
	return x, api.OK
}

// mayBe tells whether a transaction may be of which inputs and outputs are 1 to
// 4, and were read.
func mayBe(x Tx) bool {
	places := map[api.Point]bool{}
	for _, in := range x.Ins {
		places[in.From] = true
		if in.Path < 1 || in.Path > 3 {
			return false
		}
	}
	for _, o := range x.Outs {
		if o.Amount == 0 || o.Kind > 1 && (o.Expiry < 1 || o.Expiry >= 1<<32) || o.Tokens < 0 || o.Tokens > 4096 {
			return false
		}
	}
	return len(places) == len(x.Ins)
}

// agrees checks that Decode tells what is told by hand.
func agrees(t *testing.T, s string) bool {
	t.Helper()
	want, e := model(s)
	x, f := Decode(s)
	if f != e || !alike(x, want) {
		t.Errorf("Decode of %x = %x, %d; want %x, %d", s, x, int(f), want, int(e))
	}
	if f == api.OK && (!Right(x) || Encode(x) != s || txBytes(x) != s) {
		t.Errorf("Decode of %x, encoded, are other bytes", s)
	}
	return f == api.OK
}

func TestWhatIsDecodedEncodedAreTheseBytes(t *testing.T) {
	s := txBytes(full(2, 3, 1))
	decoded := 0
	for at := range len(s) {
		for _, turn := range []byte{1, 2, 3, 4, 0x40, 0x80, 0xff} {
			b := []byte(s)
			b[at] ^= turn
			if agrees(t, string(b)) {
				decoded++
			}
		}
		agrees(t, s[:at]+s[at+1:])
		agrees(t, s[:at]+"\x00"+s[at:])
	}
	if decoded < len(s) {
		t.Errorf("%d texts are decoded", decoded)
	}
}

// tweaks are changes of one field each of full(3, 3, 3), one for each field.
func tweaks() map[string]func(x *Tx) {
	l := map[string]func(x *Tx){
		"Proof.Amount": func(x *Tx) { x.Proof.Amount++ }, "Proof.Sig": func(x *Tx) { x.Proof.Sig += "x" }, "Proof.Token": func(x *Tx) { x.Proof.Token = hash(60) },
	}
	for at := range 3 {
		for name, do := range map[string]func(in *In){
			"From.Tx": func(in *In) { in.From.Tx = hash(60) }, "From.Out": func(in *In) { in.From.Out++ }, "Path": func(in *In) { in.Path = in.Path%3 + 1 }, "Sig": func(in *In) { in.Sig += "x" },
		} {
			l[fmt.Sprintf("input %d, %s", at, name)] = func(x *Tx) { do(&x.Ins[at]) }
		}
		for name, do := range map[string]func(o *Out){
			"Kind": func(o *Out) { o.Kind = o.Kind%3 + 1 }, "Amount": func(o *Out) { o.Amount ^= 1 << 63 }, "Key": func(o *Out) { o.Key = hash(60) }, "Gate": func(o *Out) { o.Gate = hash(60) }, "Expiry": func(o *Out) { o.Expiry++ },
			"Anchor": func(o *Out) { o.Anchor = hash(60) }, "Unit": func(o *Out) { o.Unit++ }, "Tokens": func(o *Out) { o.Tokens++ }, "Of": func(o *Out) { o.Of = hash(60) },
		} {
			l[fmt.Sprintf("output %d, %s", at, name)] = func(x *Tx) { do(&x.Outs[at]) }
		}
		for name, do := range map[string]func(w *note.Win){
			"Chan": func(w *note.Win) { w.T.Chan = hash(60) }, "Serial": func(w *note.Win) { w.T.Serial++ }, "Face": func(w *note.Win) { w.T.Face++ }, "Wins": func(w *note.Win) { w.T.Wins++ }, "Many": func(w *note.Win) { w.T.Many++ },
			"Commit": func(w *note.Win) { w.T.Commit = hash(60) }, "Client": func(w *note.Win) { w.T.Client++ }, "Sig": func(w *note.Win) { w.T.Sig += "x" }, "Salt": func(w *note.Win) { w.Salt += "x" }, "Drawn": func(w *note.Win) { w.Drawn++ },
		} {
			l[fmt.Sprintf("win %d, %s", at, name)] = func(x *Tx) { do(&x.Proof.Wins[at]) }
		}
	}
	return l
}

func TestSameOfOneFieldAlone(t *testing.T) {
	for name, do := range tweaks() {
		a, b := full(3, 3, 3), full(3, 3, 3)
		do(&b)
		if Same(a, b) || Same(b, a) || !Same(b, b) || !Same(a, a) {
			t.Errorf("the same with another %s", name)
		}
		if Right(b) {
			if Encode(a) == Encode(b) {
				t.Errorf("the same bytes with another %s", name)
			}
			decodes(t, "another "+name, Encode(b), b)
		}
	}
}

func TestSameOfHowMany(t *testing.T) {
	for i := range 6 {
		for j := range 6 {
			want := i == j
			if Same(full(i, 2, 1), full(j, 2, 1)) != want {
				t.Errorf("%d and %d inputs", i, j)
			}
			if Same(full(2, i, 1), full(2, j, 1)) != want {
				t.Errorf("%d and %d outputs", i, j)
			}
			if Same(full(2, 2, i), full(2, 2, j)) != want {
				t.Errorf("%d and %d wins", i, j)
			}
		}
	}
	if !Same(Tx{}, Tx{Ins: []In{}, Outs: make([]Out, 0, 3), Proof: note.Proof{Wins: []note.Win{}}}) || !Same(Tx{Ins: []In{}, Outs: []Out{}}, Tx{}) {
		t.Error("no lists and empty ones differ")
	}
}

func TestSameOfAnotherOrder(t *testing.T) {
	a, b, c, d := full(3, 3, 3), full(3, 3, 3), full(3, 3, 3), full(3, 3, 3)
	b.Ins[0], b.Ins[2] = b.Ins[2], b.Ins[0]
	c.Outs[0], c.Outs[2] = c.Outs[2], c.Outs[0]
	d.Proof.Wins[0], d.Proof.Wins[2] = d.Proof.Wins[2], d.Proof.Wins[0]
	if Same(a, b) || Same(a, c) || Same(a, d) {
		t.Error("another order is the same")
	}
	b.Ins[1] = b.Ins[0]
	if Same(a, b) || !Same(b, Copy(b)) {
		t.Error("an input twice is another one")
	}
}

func TestCopyIsTheSame(t *testing.T) {
	for i := range 6 {
		for _, x := range []Tx{full(i, 2, 1), full(2, i, 1), full(2, 2, i), full(i, i, i)} {
			if c := Copy(x); !alike(c, x) || !Same(c, x) || Right(c) != Right(x) || Encode(c) != Encode(x) {
				t.Errorf("Copy of %x = %x", x, c)
			}
		}
	}
	for name, do := range tweaks() {
		x := full(3, 3, 3)
		do(&x)
		if c := Copy(x); !alike(c, x) {
			t.Errorf("Copy with another %s = %x; want %x", name, c, x)
		}
	}
	for i, x := range []Tx{{}, {Ins: []In{}, Outs: []Out{}, Proof: note.Proof{Wins: []note.Win{}}}, {Ins: make([]In, 5), Outs: make([]Out, 5)}, {Ins: []In{{Path: -5, Sig: text(500)}}, Outs: []Out{{Kind: -5, Key: text(50), Of: "x"}}}} {
		if c := Copy(x); !alike(c, x) {
			t.Errorf("Copy of %d that may not be = %x", i, c)
		}
	}
}

// spoil writes over all lists of a transaction, and the room behind them.
func spoil(x Tx) {
	for i := range x.Ins[:cap(x.Ins)] {
		x.Ins[:cap(x.Ins)][i] = In{Path: 99}
	}
	for i := range x.Outs[:cap(x.Outs)] {
		x.Outs[:cap(x.Outs)][i] = Out{Kind: 99}
	}
	for i := range x.Proof.Wins[:cap(x.Proof.Wins)] {
		x.Proof.Wins[:cap(x.Proof.Wins)][i] = note.Win{Drawn: 99}
	}
}

// roomy is a transaction whose lists have room behind them, with something in it.
func roomy(i, o, wins int) (x, all Tx) {
	all = full(4, 4, 3)
	x = all
	x.Ins, x.Outs, x.Proof.Wins = all.Ins[:i], all.Outs[:o], all.Proof.Wins[:wins]
	return x, all
}

func TestCopySharesNoList(t *testing.T) {
	for n := range 4 {
		x, all := roomy(n, n, n)
		c := Copy(x)
		spoil(c)
		if !alike(all, full(4, 4, 3)) {
			t.Errorf("a copy of %d of each shares its lists with the original", n)
		}
		c = Copy(x)
		want := full(n, n, n)
		spoil(all)
		if !alike(c, want) {
			t.Errorf("the original of %d of each shares its lists with a copy", n)
		}
	}
	x := full(3, 3, 3)
	a, b := Copy(x), Copy(x)
	spoil(a)
	if !alike(b, x) {
		t.Error("two copies share a list")
	}
}

// Memory.

func TestListsAreNotChanged(t *testing.T) {
	for i := range 5 {
		for o := range 5 {
			for wins := range 4 {
				x, all := roomy(i, o, wins)
				Right(x)
				Core(x)
				ID(x)
				Whole(x.Outs)
				Encode(x)
				Same(x, full(2, 2, 2))
				Same(full(2, 2, 2), x)
				Copy(x)
				if !alike(all, full(4, 4, 3)) {
					t.Fatalf("lists of %d inputs, %d outputs, %d wins, or the room behind them, are changed", i, o, wins)
				}
			}
		}
	}
}

func TestDecodedIsNewMemory(t *testing.T) {
	for i := 1; i <= 4; i++ {
		for wins := range 4 {
			x := full(i, 5-i, wins)
			s := Encode(x)
			first, _ := Decode(s)
			second, _ := Decode(s)
			spoil(first)
			if !alike(second, x) || s != txBytes(x) {
				t.Errorf("lists of %d inputs and %d wins share their memory", i, wins)
			}
			decodes(t, "again", s, x)
		}
	}
}

// textsOf are all texts of a transaction.
func textsOf(x Tx) []string {
	l := []string{x.Proof.Sig, x.Proof.Token}
	for _, in := range x.Ins {
		l = append(l, in.From.Tx, in.Sig)
	}
	for _, o := range x.Outs {
		l = append(l, o.Key, o.Gate, o.Anchor, o.Of)
	}
	for _, w := range x.Proof.Wins {
		l = append(l, w.T.Chan, w.T.Commit, w.T.Sig, w.Salt)
	}
	return l
}

// shares tells whether two texts that are not empty have bytes of memory in common.
func shares(a, b string) bool {
	if a == "" || b == "" {
		return false
	}
	at, from := uintptr(unsafe.Pointer(unsafe.StringData(a))), uintptr(unsafe.Pointer(unsafe.StringData(b)))
	return at < from+uintptr(len(b)) && from < at+uintptr(len(a))
}

func TestTextsAreNewMemory(t *testing.T) {
	x := full(4, 4, 3)
	s := Encode(x)
	decoded, _ := Decode(s)
	for name, y := range map[string]Tx{"decoded": decoded, "copied": Copy(x)} {
		answered := textsOf(y)
		for i, a := range answered {
			if shares(a, s) {
				t.Errorf("the text %d that is %s is the memory of the bytes", i, name)
			}
			for _, b := range textsOf(x) {
				if shares(a, b) {
					t.Errorf("the text %d that is %s is the memory of what was handed in", i, name)
				}
			}
			for _, b := range answered[:i] {
				if shares(a, b) {
					t.Errorf("the text %d that is %s is another one's memory", i, name)
				}
			}
		}
	}
	for _, a := range []string{s, Core(x), ID(x), Name(x.Ins[0].From)} {
		for _, b := range textsOf(x) {
			if shares(a, b) {
				t.Error("a text shares the memory of what it was made of")
			}
		}
	}
}

// P9.3

func TestSignaturesAndProofsDoNotChangeTheName(t *testing.T) {
	x := full(3, 3, 2)
	core, id := Core(x), ID(x)
	check := func(what string, y Tx) {
		t.Helper()
		if !Right(y) || Core(y) != core || ID(y) != id {
			t.Errorf("%s: another core, or name", what)
		}
	}
	for _, n := range []int{0, 1, 289, 400} {
		for at := range 3 {
			y := Copy(x)
			y.Ins[at].Sig = text(n)
			check(fmt.Sprintf("another Sig of %d bytes", n), y)
		}
	}
	for wins := range 4 {
		y := Copy(x)
		y.Proof = proof(wins)
		check(fmt.Sprintf("%d wins", wins), y)
	}
	for i, p := range []note.Proof{{}, {Amount: 5}, {Sig: "sig"}, {Token: hash(3)}, {Wins: proof(1).Wins}} {
		y := Copy(x)
		y.Proof = p
		check(fmt.Sprintf("proof %d", i), y)
	}
	// All else that may be otherwise does change it.
	for name, do := range tweaks() {
		y := full(3, 3, 2)
		if strings.HasPrefix(name, "win 2") {
			continue
		}
		do(&y)
		if stays := strings.HasSuffix(name, "Sig") || strings.HasPrefix(name, "Proof") || strings.HasPrefix(name, "win"); Right(y) && (ID(y) == id) != stays {
			t.Errorf("another %s: the name stays: %v; want %v", name, !stays, stays)
		}
	}
}

func TestAnswersAreTheSameEachTime(t *testing.T) {
	for i, x := range several() {
		core, id, s := Core(x), ID(x), Encode(x)
		for range 3 {
			if Core(x) != core || ID(x) != id || Encode(x) != s || !Right(x) {
				t.Errorf("transaction %d is told otherwise the second time", i)
			}
		}
	}
}

func FuzzDecode(f *testing.F) {
	for _, s := range []string{"", "\x00\x00", "\x10\x01", "\x00\x01D", "\x00\x01C", "\x00\x02C\x05", "\x00\x02C\x00"} {
		f.Add(s)
	}
	for n := range 5 {
		f.Add(txBytes(full(n, n, 0)))
		f.Add(txBytes(full(1, 1, n)))
	}
	short := full(2, 3, 0)
	short.Ins[0].Sig, short.Ins[1].Sig, short.Proof = "", "s", note.Proof{}
	f.Add(txBytes(short))
	short.Outs[1].Tokens = -1
	f.Add(txBytes(short))
	f.Fuzz(func(t *testing.T, s string) { agrees(t, s) })
}
