package block

import (
	"crypto/sha256"
	"encoding/binary"
	"fmt"
	"math"
	"slices"
	"strings"
	"testing"
	"unsafe"

	"turnstile/api"
	"turnstile/coin"
	"turnstile/note"
)

// text is n bytes of all kinds, no two neighbours alike.
func text(n int) string {
	b := make([]byte, n)
	for i := range b {
		b[i] = byte(i*31 + i>>8*7 + 0xf9)
	}
	return string(b)
}

// hash is the i-th of hashes of which no two are alike.
func hash(i int) string { return text(16 + i)[i:] }

// one is a number as a byte.
func one(n int) string { return string([]byte{byte(n)}) }

// eight is a number as 8 bytes, the highest first, by the library.
func eight(n uint64) string { return string(binary.BigEndian.AppendUint64(nil, n)) }

// behind is a text behind its length in two bytes.
func behind(s string) string {
	return string(binary.BigEndian.AppendUint16(nil, uint16(len(s)))) + s
}

// tagged is a word's sum of parts, by the library.
func tagged(word string, parts ...string) string {
	s := one(len(word)) + word
	for _, p := range parts {
		s += behind(p)
	}
	sum := sha256.Sum256([]byte(s))
	return string(sum[:16])
}

// outs are outputs that may be, one of each kind, of which no field is like another.
func outs() []coin.Out {
	return []coin.Out{
		{Kind: coin.Pay, Amount: 0x0102030405060708, Key: hash(1)},
		{Kind: coin.Lock, Amount: 0x1112131415161718, Key: hash(2), Gate: hash(3), Expiry: 0x21222324, Anchor: hash(4), Unit: 0x3132333435363738, Tokens: 0x0142},
		{Kind: coin.Top, Amount: 0x5152535455565758, Key: hash(5), Gate: hash(6), Expiry: 0x61626364, Of: hash(7)},
	}
}

// plain is the i-th of transactions that may be, of which no two are alike, without signatures and proofs.
func plain(i int) coin.Tx {
	x := coin.Tx{Outs: outs()[:i%3+1]}
	for j := range i%4 + 1 {
		x.Ins = append(x.Ins, coin.In{From: api.Point{Tx: hash(20 + i), Out: j}, Path: j%3 + 1})
	}
	return x
}

// full is a plain one that is signed, and of which the first of three in turn has no proof, the others have one and two wins.
func full(i int) coin.Tx {
	x := plain(i)
	for j := range x.Ins {
		x.Ins[j].Sig = text(5 + j)
	}
	if i%3 == 0 {
		return x
	}
	x.Proof = note.Proof{Amount: 0x8182838485868788, Sig: text(11), Token: hash(40)}
	for j := range i % 3 {
		x.Proof.Wins = append(x.Proof.Wins, note.Win{
			T:    note.Ticket{Chan: hash(41), Serial: uint64(j), Face: 22, Wins: 33, Many: 44, Commit: hash(42 + j), Client: 55, Sig: text(12)},
			Salt: text(7 + j), Drawn: 66,
		})
	}
	return x
}

// longest is the longest transaction that may be.
func longest() coin.Tx {
	var x coin.Tx
	for i := range 4 {
		x.Ins = append(x.Ins, coin.In{From: api.Point{Tx: hash(i), Out: 255}, Path: coin.Claim, Sig: text(400)})
		x.Outs = append(x.Outs, outs()[1])
	}
	x.Proof = note.Proof{Amount: math.MaxUint64, Sig: text(400), Token: hash(40)}
	for range 3 {
		x.Proof.Wins = append(x.Proof.Wins, note.Win{T: note.Ticket{Chan: hash(41), Commit: hash(42), Sig: text(400)}, Salt: text(32)})
	}
	return x
}

// txs are so many transactions that may be, no two alike.
func txs(n int) []coin.Tx {
	var l []coin.Tx
	for i := range n {
		l = append(l, full(i))
	}
	return l
}

// with is a block of so many transactions, of which no field is like another.
func with(n int) Block { return Block{Height: 0x71727374, Prev: hash(50), Txs: txs(n)} }

// saying are a block's bytes around transactions' bytes, with a first byte and a count that are said.
func saying(first int, height uint64, prev string, said int, txs ...string) string {
	s := one(first) + eight(height) + prev + one(said)
	for _, x := range txs {
		s += behind(x)
	}
	return s
}

// encoded are all transactions' bytes.
func encoded(l []coin.Tx) []string {
	var all []string
	for _, x := range l {
		all = append(all, coin.Encode(x))
	}
	return all
}

// blockBytes are a block's bytes, by hand, whether it may be or not.
func blockBytes(b Block) string {
	return saying(66, uint64(b.Height), b.Prev, len(b.Txs), encoded(b.Txs)...)
}

// blockName is a block's name, by hand, whether it may be or not.
func blockName(b Block) string {
	names := ""
	for _, x := range b.Txs {
		names += coin.ID(x)
	}
	return tagged("block", eight(uint64(b.Height)), b.Prev, names)
}

// sameTx tells whether two transactions are the same, field by field.
func sameTx(a, b coin.Tx) bool {
	return slices.Equal(a.Ins, b.Ins) && slices.Equal(a.Outs, b.Outs) &&
		a.Proof.Amount == b.Proof.Amount && a.Proof.Sig == b.Proof.Sig && a.Proof.Token == b.Proof.Token && slices.Equal(a.Proof.Wins, b.Proof.Wins)
}

// alike tells whether two blocks are the same, field by field.
func alike(a, b Block) bool {
	return a.Height == b.Height && a.Prev == b.Prev && slices.EqualFunc(a.Txs, b.Txs, sameTx)
}

// right checks what Right tells, and that ID and Encode tell something of just the same.
func right(t *testing.T, what string, b Block, want bool) {
	t.Helper()
	if Right(b) != want {
		t.Errorf("Right, %s: %v; want %v", what, !want, want)
	}
	id, coded := "", ""
	if want {
		id, coded = blockName(b), blockBytes(b)
	}
	if got := ID(b); got != id {
		t.Errorf("ID, %s = %x; want %x", what, got, id)
	}
	if got := Encode(b); got != coded {
		t.Errorf("Encode, %s = %x; want %x", what, got, coded)
	}
}

// fails checks that Decode answers an error, and nothing beside it.
func fails(t *testing.T, what, s string, e api.Errno) {
	t.Helper()
	if b, f := Decode(s); f != e || !alike(b, Block{}) {
		t.Errorf("Decode, %s = %x, %d; want nothing, %d", what, b, int(f), int(e))
	}
}

// decodes checks that Decode tells a block, field by field.
func decodes(t *testing.T, what, s string, want Block) {
	t.Helper()
	if b, e := Decode(s); e != api.OK || !alike(b, want) {
		t.Errorf("Decode, %s = %x, %d; want %x", what, b, int(e), want)
	}
}

// The chapter's example.

func TestExample(t *testing.T) {
	b := Block{Height: 1, Prev: hash(9)}
	if got := Encode(b); len(got) != 26 {
		t.Errorf("Encode of a block without transactions = %x; want 26 bytes", got)
	}
	right(t, "a block without transactions", b, true)
}

// P10.1

func TestRightAtEachBound(t *testing.T) {
	for _, n := range []int{0, 1, 8} {
		for _, v := range []int{math.MinInt, math.MinInt + 1, -1 << 32, 1 - 1<<32, -1, 0, 1, 2, 255, 256, 1<<31 - 1, 1 << 31, 1<<32 - 2, 1<<32 - 1, 1 << 32, 1<<32 + 1, 1 << 33, math.MaxInt} {
			b := with(n)
			b.Height = v
			right(t, fmt.Sprintf("%d transactions, Height %d", n, v), b, v >= 1 && v <= 4294967295)
		}
		for _, v := range []int{0, 1, 15, 16, 17, 32, 272, 4096, 65552} {
			b := with(n)
			b.Prev = text(v)
			right(t, fmt.Sprintf("%d transactions, Prev of %d bytes", n, v), b, v == 16)
		}
	}
	right(t, "nothing", Block{}, false)
}

func TestRightOfHowManyTransactions(t *testing.T) {
	for _, n := range []int{0, 1, 2, 3, 4, 5, 6, 7, 8, 9, 10, 16, 100, 200} {
		right(t, fmt.Sprintf("%d transactions", n), with(n), n <= 8)
	}
	for _, n := range []int{255, 256, 257, 264} {
		b := with(0)
		b.Txs = slices.Repeat([]coin.Tx{plain(1)}, n)
		right(t, fmt.Sprintf("%d transactions", n), b, false)
	}
	b := with(0)
	b.Txs = []coin.Tx{}
	right(t, "an empty list", b, true)
	// Transactions may be alike.
	b.Txs = slices.Repeat([]coin.Tx{full(2)}, 8)
	right(t, "8 transactions alike", b, true)
	b.Txs = slices.Repeat([]coin.Tx{longest()}, 8)
	right(t, "8 transactions of the longest", b, true)
	decodes(t, "8 transactions of the longest", blockBytes(b), b)
}

// faults are changes of full(2) behind which it may not be.
func faults() map[string]func(x *coin.Tx) {
	return map[string]func(x *coin.Tx){
		"nothing":      func(x *coin.Tx) { *x = coin.Tx{} },
		"no inputs":    func(x *coin.Tx) { x.Ins = nil },
		"no outputs":   func(x *coin.Tx) { x.Outs = nil },
		"inputs alike": func(x *coin.Tx) { x.Ins = append(x.Ins, x.Ins[0]) },
		"a path of 4":  func(x *coin.Tx) { x.Ins[0].Path = 4 },
		"a long Sig":   func(x *coin.Tx) { x.Ins[0].Sig = text(401) },
		"no amount":    func(x *coin.Tx) { x.Outs[0].Amount = 0 },
		"a short key":  func(x *coin.Tx) { x.Outs[0].Key = text(15) },
		"a long proof": func(x *coin.Tx) { x.Proof.Wins = make([]note.Win, 4) },
		"a bad token":  func(x *coin.Tx) { x.Proof.Token = "x" },
	}
}

func TestRightOfATransactionThatMayNotBe(t *testing.T) {
	for n := 1; n <= 8; n++ {
		for at := range n {
			for name, do := range faults() {
				b := with(n)
				x := full(2)
				do(&x)
				b.Txs[at] = x
				right(t, fmt.Sprintf("transaction %d of %d, %s", at, n, name), b, false)
			}
		}
	}
}

func TestRightOfTwoFieldsAtTheirBounds(t *testing.T) {
	for _, height := range []int{-1, 0, 1, 1<<32 - 1, 1 << 32} {
		for _, prev := range []int{0, 15, 16, 17} {
			for _, n := range []int{0, 8, 9} {
				b := Block{Height: height, Prev: text(prev), Txs: txs(n)}
				right(t, fmt.Sprintf("Height %d, Prev of %d bytes, %d transactions", height, prev, n), b, height >= 1 && height < 1<<32 && prev == 16 && n <= 8)
			}
		}
	}
}

func TestIDByItsBytes(t *testing.T) {
	id := func(s string) string {
		sum := sha256.Sum256([]byte(s))
		return string(sum[:16])
	}
	b := Block{Height: 0x01020304, Prev: "the block ahead."}
	head := "\x05block\x00\x08\x00\x00\x00\x00\x01\x02\x03\x04\x00\x10the block ahead."
	if got, want := ID(b), id(head+"\x00\x00"); got != want {
		t.Errorf("ID without transactions = %x; want %x", got, want)
	}
	names := ""
	for n := 1; n <= 8; n++ {
		b.Txs = txs(n)
		names += coin.ID(full(n - 1))
		if got, want := ID(b), id(head+"\x00"+one(16*n)+names); got != want || len(names) != 16*n {
			t.Errorf("ID of %d transactions = %x; want %x", n, got, want)
		}
	}
}

func TestIDsDiffer(t *testing.T) {
	seen := map[string]string{}
	add := func(what string, b Block) {
		name := ID(b)
		if other, twice := seen[name]; twice || len(name) != 16 {
			t.Errorf("%s and %s have the name %x", what, other, name)
		}
		seen[name] = what
	}
	for n := range 9 {
		for height := 1; height < 300; height++ {
			add(fmt.Sprintf("%d transactions, Height %d", n, height), Block{Height: height, Prev: hash(0), Txs: txs(n)})
		}
		for prev := 1; prev < 200; prev++ {
			add(fmt.Sprintf("%d transactions, Prev %d", n, prev), Block{Height: 1, Prev: hash(prev), Txs: txs(n)})
		}
	}
	// The order of the transactions is told, and which of them stands twice.
	base := with(4)
	add("the order", base)
	for a := range 4 {
		for c := range a {
			b := with(4)
			b.Txs[a], b.Txs[c] = b.Txs[c], b.Txs[a]
			add(fmt.Sprintf("%d and %d in each other's place", a, c), b)
			if Right(b) && Encode(b) == Encode(base) {
				t.Errorf("%d and %d in each other's place have the same bytes", a, c)
			}
		}
	}
	for at := range 4 {
		b := with(4)
		b.Txs = slices.Insert(b.Txs, at, b.Txs[at])
		add(fmt.Sprintf("%d twice", at), b)
	}
}

// tweaks are changes of one field each of a transaction with a win, an input and an output; nameless are those that leave its name as it was.
func tweaks() (named, nameless map[string]func(x *coin.Tx)) {
	named = map[string]func(x *coin.Tx){
		"From.Tx":       func(x *coin.Tx) { x.Ins[0].From.Tx = hash(60) },
		"From.Out":      func(x *coin.Tx) { x.Ins[0].From.Out += 60 },
		"Path":          func(x *coin.Tx) { x.Ins[0].Path = x.Ins[0].Path%3 + 1 },
		"Amount":        func(x *coin.Tx) { x.Outs[0].Amount++ },
		"Key":           func(x *coin.Tx) { x.Outs[0].Key = hash(60) },
		"Kind":          func(x *coin.Tx) { x.Outs[0] = outs()[2] },
		"other inputs":  func(x *coin.Tx) { x.Ins = plain(3).Ins },
		"other outputs": func(x *coin.Tx) { x.Outs = outs()[1:] },
	}
	nameless = map[string]func(x *coin.Tx){
		"Sig":          func(x *coin.Tx) { x.Ins[0].Sig += "x" },
		"no Sig":       func(x *coin.Tx) { x.Ins[0].Sig = "" },
		"Proof.Amount": func(x *coin.Tx) { x.Proof.Amount++ },
		"Proof.Sig":    func(x *coin.Tx) { x.Proof.Sig += "x" },
		"Proof.Token":  func(x *coin.Tx) { x.Proof.Token = hash(60) },
		"no token":     func(x *coin.Tx) { x.Proof.Token = "" },
		"Chan":         func(x *coin.Tx) { x.Proof.Wins[0].T.Chan = hash(60) },
		"Serial":       func(x *coin.Tx) { x.Proof.Wins[0].T.Serial += 60 },
		"a win's Sig":  func(x *coin.Tx) { x.Proof.Wins[0].T.Sig += "x" },
		"Salt":         func(x *coin.Tx) { x.Proof.Wins[0].Salt += "x" },
		"Drawn":        func(x *coin.Tx) { x.Proof.Wins[0].Drawn++ },
		"no wins":      func(x *coin.Tx) { x.Proof.Wins = nil },
		"a win more":   func(x *coin.Tx) { x.Proof.Wins = append(x.Proof.Wins, x.Proof.Wins[0]) },
		"no proof":     func(x *coin.Tx) { x.Proof = note.Proof{} },
	}
	return named, nameless
}

func TestSameOfOneFieldAlone(t *testing.T) {
	for n := range 10 {
		for name, do := range map[string]func(b *Block){
			"Height": func(b *Block) { b.Height++ }, "Height below 0": func(b *Block) { b.Height = -b.Height }, "Height above 2^32": func(b *Block) { b.Height += 1 << 32 },
			"Prev": func(b *Block) { b.Prev = hash(60) }, "Prev's last byte": func(b *Block) { b.Prev = b.Prev[:15] + "x" }, "no Prev": func(b *Block) { b.Prev = "" }, "a longer Prev": func(b *Block) { b.Prev += "x" },
		} {
			a, b := with(n), with(n)
			if !Same(a, b) {
				t.Errorf("a block of %d transactions is not the same as itself", n)
			}
			do(&b)
			if Same(a, b) || Same(b, a) || !Same(b, b) {
				t.Errorf("the same with another %s, %d transactions", name, n)
			}
		}
	}
}

func TestSameOfOneTransactionAlone(t *testing.T) {
	named, nameless := tweaks()
	for n := 1; n <= 9; n++ {
		for at := range n {
			for _, all := range []map[string]func(x *coin.Tx){named, nameless, faults()} {
				for name, do := range all {
					a, b := with(n), with(n)
					a.Txs[at], b.Txs[at] = full(4), full(4)
					if !Same(a, b) {
						t.Fatalf("a block of %d transactions is not the same as itself", n)
					}
					do(&b.Txs[at])
					if Same(a, b) || Same(b, a) || !Same(b, b) {
						t.Errorf("the same with another %s in transaction %d of %d", name, at, n)
					}
				}
			}
		}
	}
}

func TestSameOfHowMany(t *testing.T) {
	for i := range 11 {
		for j := range 11 {
			if Same(with(i), with(j)) != (i == j) {
				t.Errorf("%d and %d transactions: %v", i, j, i != j)
			}
		}
	}
	if !Same(Block{}, Block{Txs: []coin.Tx{}}) || !Same(Block{Txs: make([]coin.Tx, 0, 3)}, Block{}) {
		t.Error("no list and an empty one differ")
	}
	if Same(Block{}, Block{Txs: make([]coin.Tx, 1)}) {
		t.Error("no transaction and one without anything are the same")
	}
}

func TestSameOfAnotherOrder(t *testing.T) {
	for a := range 4 {
		for c := range a {
			b := with(4)
			b.Txs[a], b.Txs[c] = b.Txs[c], b.Txs[a]
			if Same(b, with(4)) || Same(with(4), b) {
				t.Errorf("the same with %d and %d in each other's place", a, c)
			}
		}
	}
}

// P10.2

func TestEncodeByItsBytes(t *testing.T) {
	x := coin.Tx{
		Ins:   []coin.In{{From: api.Point{Tx: "the transaction!", Out: 7}, Path: coin.Claim, Sig: "sig"}},
		Outs:  []coin.Out{{Kind: coin.Pay, Amount: 258, Key: "the gateway's :)"}},
		Proof: note.Proof{Amount: 3, Sig: "signature"},
	}
	bytes := "\x00\x2eC\x01the transaction!\x07\x02\x01\x01\x00\x00\x00\x00\x00\x00\x01\x02the gateway's :)" +
		"\x00\x03sig" + "\x00\x16\x00\x00\x00\x00\x00\x00\x00\x03\x00\x09signature\x00\x00\x00"
	y := coin.Tx{
		Ins:  []coin.In{{From: api.Point{Tx: "transaction two!"}, Path: coin.Plain}},
		Outs: []coin.Out{{Kind: coin.Pay, Amount: 1, Key: "the client's key"}},
	}
	more := "\x00\x2eC\x01transaction two!\x00\x01\x01\x01\x00\x00\x00\x00\x00\x00\x00\x01the client's key\x00\x00\x00\x0d" + strings.Repeat("\x00", 13)
	for _, c := range []struct {
		b    Block
		want string
	}{
		{Block{Height: 1, Prev: "the block ahead."}, "B\x00\x00\x00\x00\x00\x00\x00\x01the block ahead.\x00"},
		{Block{Height: 1<<32 - 1, Prev: "another block :)", Txs: []coin.Tx{x}}, "B\x00\x00\x00\x00\xff\xff\xff\xffanother block :)\x01\x00\x4d" + bytes},
		{Block{Height: 0x01020304, Prev: "the block ahead.", Txs: []coin.Tx{y, x}}, "B\x00\x00\x00\x00\x01\x02\x03\x04the block ahead.\x02\x00\x41" + more + "\x00\x4d" + bytes},
	} {
		if got := Encode(c.b); got != c.want {
			t.Errorf("Encode of %d transactions = %x; want %x", len(c.b.Txs), got, c.want)
		}
		decodes(t, "by hand", c.want, c.b)
	}
}

func TestDecodeOfWhatWasEncoded(t *testing.T) {
	for n := range 9 {
		for _, height := range []int{1, 2, 255, 256, 1<<31 - 1, 1 << 31, 1<<32 - 1} {
			b := with(n)
			b.Height = height
			what := fmt.Sprintf("%d transactions, Height %d", n, height)
			decodes(t, what, blockBytes(b), b)
			s := Encode(b)
			decodes(t, what+", encoded", s, b)
			if c, _ := Decode(s); !Right(c) || !Same(b, c) || Encode(c) != s || ID(c) != ID(b) {
				t.Errorf("%s, decoded, is another one", what)
			}
		}
	}
}

func TestDecodeOfWhatIsCutOff(t *testing.T) {
	for _, n := range []int{0, 1, 2, 8} {
		s := blockBytes(with(n))
		for end := range len(s) {
			fails(t, fmt.Sprintf("%d of %d bytes", end, len(s)), s[:end], api.ErrShort)
		}
		decodes(t, "the whole", s, with(n))
	}
}

func TestDecodeOfBytesThatAreLeft(t *testing.T) {
	for n := range 9 {
		s := blockBytes(with(n))
		for _, more := range []string{"\x00", "x", "B", "\x00\x00", "\xff\xff", text(16), behind(coin.Encode(full(1))), s, text(70000)} {
			fails(t, fmt.Sprintf("%d transactions, %d bytes more", n, len(more)), s+more, api.ErrForm)
		}
	}
}

func TestDecodeOfFirstBytes(t *testing.T) {
	fails(t, "no bytes", "", api.ErrShort)
	s := blockBytes(with(2))
	for first := range 256 {
		what := fmt.Sprintf("the first byte %d", first)
		if first == 66 {
			decodes(t, what, one(first)+s[1:], with(2))
			fails(t, what+" alone", one(first), api.ErrShort)
			continue
		}
		fails(t, what, one(first)+s[1:], api.ErrForm)
		// It is told ahead of all that comes behind it, even if nothing does.
		for _, end := range []int{1, 2, 9, 10, 25, 26, 27, 28, 29, len(s) - 1} {
			fails(t, fmt.Sprintf("%s, %d bytes", what, end), one(first)+s[1:end], api.ErrForm)
		}
		fails(t, what+", a text that is too long", saying(first, 1, hash(0), 1, text(4097)), api.ErrForm)
		fails(t, what+", a transaction that is short", saying(first, 1, hash(0), 1, ""), api.ErrForm)
	}
}

func TestDecodeOfHowManyAreSaid(t *testing.T) {
	for said := range 256 {
		for has := range 12 {
			s := saying(66, 7, hash(0), said, encoded(txs(has))...)
			what := fmt.Sprintf("%d transactions, %d said", has, said)
			switch {
			case said > 8, said < has:
				fails(t, what, s, api.ErrForm)
			case said > has:
				fails(t, what, s, api.ErrShort)
			default:
				decodes(t, what, s, Block{Height: 7, Prev: hash(0), Txs: txs(has)})
			}
		}
		if said < 9 {
			continue
		}
		// It is told ahead of what comes behind it.
		for _, rest := range []string{"\x00", "\x10\x01", "\xff\xff", behind(""), behind("x"), behind(text(4097)), text(70000)} {
			fails(t, fmt.Sprintf("%d said, and %d bytes", said, len(rest)), saying(66, 7, hash(0), said)+rest, api.ErrForm)
		}
		fails(t, fmt.Sprintf("%d said, at no height", said), saying(66, 0, hash(0), said), api.ErrForm)
	}
}

func TestDecodeOfLengthsOfTexts(t *testing.T) {
	for n := 1; n <= 8; n++ {
		for at := range n {
			for _, size := range []int{4095, 4096, 4097, 4098, 8192, 65535} {
				b := with(n)
				l := encoded(b.Txs)
				l[at] = (l[at] + text(size))[:size]
				s := saying(66, 7, hash(0), n, l...)
				what := fmt.Sprintf("text %d of %d of %d bytes", at, n, size)
				if size <= 4096 {
					// It is read whole: what is wrong is within it.
					fails(t, what, s, api.ErrForm)
					continue
				}
				fails(t, what, s, api.ErrBig)
				fails(t, what+", and a byte", s+"x", api.ErrBig)
				upTo := saying(66, 7, hash(0), n, l[:at]...) + behind(l[at])[:2]
				fails(t, what+", cut off behind its length", upTo, api.ErrBig)
				fails(t, what+", cut off within its length", upTo[:len(upTo)-1], api.ErrShort)
			}
		}
	}
}

// refused are bytes that coin.Decode refuses, with the error it answers.
func refused() map[string]api.Errno {
	s := coin.Encode(full(2))
	short, form, big := api.ErrShort, api.ErrForm, api.ErrBig
	long := full(2)
	long.Ins[2].Sig = ""
	tooLong := coin.Encode(long)
	at := len(tooLong) - len(note.Encode(long.Proof)) - 4
	return map[string]api.Errno{
		"": short, "x": short, "\x00": short, "\x00\x01C": short, s[:len(s)-1]: short,
		"\x00\x00": form, "\x00\x01x": form, s + "x": form, s[:2] + "D" + s[3:]: form, s[:3] + "\x00" + s[4:]: form, s[:3] + "\x05" + s[4:]: form,
		s[:21] + "\x04" + s[22:]: form, // a path of 4: it is read whole, but may not be
		"\x10\x01":               big, "\xff\xff" + s: big, tooLong[:at] + "\x01\x91" + tooLong[at+2:]: big,
	}
}

func TestDecodeOfTransactionsThatAreRefused(t *testing.T) {
	seen := map[api.Errno]int{}
	for bytes, e := range refused() {
		seen[e]++
		if _, f := coin.Decode(bytes); f != e {
			t.Errorf("coin.Decode of %x = %d; want %d", bytes, int(f), int(e))
		}
		for n := 1; n <= 8; n++ {
			for at := range n {
				l := encoded(txs(n))
				l[at] = bytes
				what := fmt.Sprintf("transaction %d of %d as %x", at, n, bytes)
				fails(t, what, saying(66, 7, hash(0), n, l...), e)
				// What is wrong within it comes ahead of what is wrong behind it,
				fails(t, what+", and bytes that are left", saying(66, 7, hash(0), n, l...)+"x", e)
				fails(t, what+", at no height", saying(66, 0, hash(0), n, l...), e)
				fails(t, what+", at too great a height", saying(66, 1<<63, hash(0), n, l...), e)
				// but reading comes first.
				fails(t, what+", and one that is missing", saying(66, 7, hash(0), n, l[:n-1]...), api.ErrShort)
				if n < 8 {
					fails(t, what+", and one that is too long", saying(66, 7, hash(0), n+1, append(l, text(4097))...), api.ErrBig)
				}
			}
		}
	}
	if seen[api.ErrShort] < 2 || seen[api.ErrForm] < 2 || seen[api.ErrBig] < 2 || len(seen) != 3 {
		t.Errorf("errors of coin.Decode: %v", seen)
	}
}

// Of two transactions that are refused the first one's error is told.
func TestDecodeOfTwoThatAreRefused(t *testing.T) {
	for first, e := range refused() {
		for second := range refused() {
			for at := range 3 {
				l := encoded(txs(4))
				l[at], l[3] = first, second
				fails(t, fmt.Sprintf("%x, then %x", first, second), saying(66, 7, hash(0), 4, l...), e)
			}
		}
	}
}

func TestDecodeOfHeights(t *testing.T) {
	for _, n := range []int{0, 1, 8} {
		for _, height := range []uint64{0, 1, 2, 1<<32 - 2, 1<<32 - 1, 1 << 32, 1<<32 + 1, 1 << 33, 1<<63 - 1, 1 << 63, 1<<63 + 1, math.MaxUint64 - 1<<32 + 2, math.MaxUint64 - 1, math.MaxUint64} {
			s := saying(66, height, hash(0), n, encoded(txs(n))...)
			what := fmt.Sprintf("%d transactions, Height %d", n, height)
			if height >= 1 && height <= 4294967295 {
				decodes(t, what, s, Block{Height: int(height), Prev: hash(0), Txs: txs(n)})
				continue
			}
			fails(t, what, s, api.ErrForm)
			fails(t, what+", and a byte", s+"x", api.ErrForm)
			fails(t, what+", cut off", s[:len(s)-1], api.ErrShort)
			fails(t, what+", cut off behind it", s[:9], api.ErrShort)
			fails(t, what+", a text too long", saying(66, height, hash(0), n+1, append(encoded(txs(n)), text(4097))...), []api.Errno{api.ErrBig, api.ErrForm}[n/8])
		}
	}
}

// wrong is an error that is made alone.
type wrong struct {
	name string
	e    api.Errno
	do   func(p *parts)
}

// parts are what a block's bytes are made of, each of which can be wrong.
type parts struct {
	first, said int
	height      uint64
	txs         []string
	cut         int
	tail        string
}

// groups are what can be wrong, in the order in which it is told. Those of one
// group exclude each other.
func groups() [][]wrong {
	fine := wrong{"", api.OK, func(p *parts) {}}
	tooLong := (coin.Encode(full(1)) + text(4097))[:4097]
	odd := func(at int) []wrong {
		return []wrong{fine,
			{"one that is short", api.ErrShort, func(p *parts) { p.txs[at] = p.txs[at][:len(p.txs[at])-1] }},
			{"one of another form", api.ErrForm, func(p *parts) { p.txs[at] += "x" }},
			{"one that is too big", api.ErrBig, func(p *parts) { p.txs[at] = "\xff\xff" + p.txs[at] }},
			{"an empty one", api.ErrShort, func(p *parts) { p.txs[at] = "" }}}
	}
	return [][]wrong{
		{fine, {"a first byte of 65", api.ErrForm, func(p *parts) { p.first = 65 }}, {"a first byte of 194", api.ErrForm, func(p *parts) { p.first = 194 }}},
		{fine, {"9 said", api.ErrForm, func(p *parts) { p.said = 9 }}, {"255 said", api.ErrForm, func(p *parts) { p.said = 255 }}},
		{fine, {"a text too long", api.ErrBig, func(p *parts) { p.txs[2] = tooLong }}},
		{fine, {"the last text cut off", api.ErrShort, func(p *parts) { p.cut = 1 }}, {"one too few", api.ErrShort, func(p *parts) { p.txs = p.txs[:4] }}},
		odd(0), odd(1), odd(3),
		{fine, {"a byte more", api.ErrForm, func(p *parts) { p.tail = "x" }}},
		{fine, {"a Height of 0", api.ErrForm, func(p *parts) { p.height = 0 }}, {"a Height of 2^32", api.ErrForm, func(p *parts) { p.height = 1 << 32 }}, {"a Height of 2^64 - 1", api.ErrForm, func(p *parts) { p.height = math.MaxUint64 }}},
	}
}

// text is what the parts are together. Behind what is cut off nothing stands.
func (p parts) text() string {
	s := saying(p.first, p.height, hash(0), p.said, p.txs...)
	if p.cut > 0 || len(p.txs) < 5 {
		return s[:len(s)-p.cut]
	}
	return s + p.tail
}

func TestDecodeOfTheFirstOfSeveralErrors(t *testing.T) {
	all, sets := groups(), 1
	for _, g := range all {
		sets *= len(g)
	}
	for set := range sets {
		p := parts{first: 66, said: 5, height: 7, txs: encoded(txs(5))}
		what, e := "", api.OK
		for _, g := range all {
			w := g[set%len(g)]
			set /= len(g)
			w.do(&p)
			what += w.name + ", "
			if e == api.OK {
				e = w.e
			}
		}
		s := p.text()
		if e == api.OK {
			decodes(t, what, s, Block{Height: 7, Prev: hash(0), Txs: txs(5)})
		} else {
			fails(t, what, s, e)
		}
		if _, f := model(s); f != e {
			t.Fatalf("%s: by hand %d; want %d", what, int(f), int(e))
		}
	}
}

// cursor reads by hand: an error ends it all.
type cursor struct{ rest string }

func (c *cursor) take(n int) string {
	if len(c.rest) < n {
		panic(api.ErrShort)
	}
	s := c.rest[:n]
	c.rest = c.rest[n:]
	return s
}

func (c *cursor) blob() string {
	n := int(binary.BigEndian.Uint16([]byte(c.take(2))))
	if n > 4096 {
		panic(api.ErrBig)
	}
	return c.take(n)
}

// model is what Decode tells, by the document's words, step by step.
func model(s string) (b Block, e api.Errno) {
	defer func() {
		if r := recover(); r != nil {
			b, e = Block{}, r.(api.Errno)
		}
	}()
	c := cursor{s}
	if c.take(1) != "B" {
		panic(api.ErrForm)
	}
	height := binary.BigEndian.Uint64([]byte(c.take(8)))
	b.Prev = c.take(16)
	many := int(c.take(1)[0])
	if many > 8 {
		panic(api.ErrForm)
	}
	var texts []string
	for range many {
		texts = append(texts, c.blob())
	}
	for _, text := range texts {
		x, e := coin.Decode(text)
		if e != api.OK {
			panic(e)
		}
		b.Txs = append(b.Txs, x)
	}
	if c.rest != "" || height == 0 || height > 4294967295 {
		panic(api.ErrForm)
	}
	b.Height = int(height)
	return b, api.OK
}

// agrees checks that Decode tells what is told by hand, and that what is decoded, encoded, are these bytes.
func agrees(t *testing.T, s string) bool {
	t.Helper()
	want, e := model(s)
	b, f := Decode(s)
	if f != e || !alike(b, want) {
		t.Errorf("Decode of %x = %x, %d; want %x, %d", s, b, int(f), want, int(e))
	}
	if f == api.OK && (!Right(b) || Encode(b) != s || blockBytes(b) != s) {
		t.Errorf("Decode of %x, encoded, are other bytes", s)
	}
	return f == api.OK
}

func TestWhatIsDecodedEncodedAreTheseBytes(t *testing.T) {
	s := blockBytes(with(3))
	decoded := 0
	for at := range len(s) {
		for _, turn := range []byte{1, 2, 3, 4, 0x40, 0x80, 0xff} {
			b := []byte(s)
			b[at] ^= turn
			if agrees(t, string(b)) {
				decoded++
			}
		}
		agrees(t, s[:at]+s[at+1:])
		agrees(t, s[:at]+"\x00"+s[at:])
	}
	if decoded < len(s) {
		t.Errorf("%d texts are decoded", decoded)
	}
}

// P10.3

// firstName is the name ahead of the first block, by hand.
func firstName(l []coin.Out) string {
	all := ""
	for _, o := range l {
		all += eight(o.Amount) + o.Key
	}
	return tagged("first", all)
}

func TestFirstByItsBytes(t *testing.T) {
	for _, c := range []struct {
		l     []coin.Out
		bytes string
	}{
		{nil, "\x05first\x00\x00"},
		{[]coin.Out{}, "\x05first\x00\x00"},
		{[]coin.Out{{}}, "\x05first\x00\x08\x00\x00\x00\x00\x00\x00\x00\x00"},
		{[]coin.Out{{Kind: coin.Pay, Amount: 258, Key: "the client's key"}}, "\x05first\x00\x18\x00\x00\x00\x00\x00\x00\x01\x02the client's key"},
		{[]coin.Out{{Kind: coin.Pay, Amount: math.MaxUint64, Key: "the client's key"}, {Kind: coin.Pay, Amount: 1, Key: "the gateway's :)"}}, "\x05first\x00\x30\xff\xff\xff\xff\xff\xff\xff\xffthe client's key\x00\x00\x00\x00\x00\x00\x00\x01the gateway's :)"},
	} {
		sum := sha256.Sum256([]byte(c.bytes))
		if got := First(c.l); got != string(sum[:16]) {
			t.Errorf("First of %d outputs = %x; want %x", len(c.l), got, sum[:16])
		}
	}
	// 2731 outputs are 65544 bytes in one part, whose length is told modulo 65536.
	for _, n := range []int{1, 2, 3, 10, 64, 65, 2730, 2731, 10000} {
		var l []coin.Out
		for i := range n {
			o := outs()[i%3]
			o.Amount += uint64(i)
			l = append(l, o)
		}
		if got, want := First(l), firstName(l); got != want {
			t.Errorf("First of %d outputs = %x; want %x", n, got, want)
		}
	}
	// Of outputs that may not be too.
	for _, size := range []int{0, 1, 15, 17, 4096, 4097, 65535, 65536} {
		l := []coin.Out{{Kind: -1, Key: text(size)}, {Amount: 5, Key: text(size)}}
		if got, want := First(l), firstName(l); got != want {
			t.Errorf("First of keys of %d bytes = %x; want %x", size, got, want)
		}
	}
}

func TestOnlyAmountsAndKeysChangeFirst(t *testing.T) {
	for at := range 3 {
		for name, c := range map[string]struct {
			do      func(o *coin.Out)
			changes bool
		}{
			"Amount": {func(o *coin.Out) { o.Amount++ }, true}, "Amount's highest bit": {func(o *coin.Out) { o.Amount ^= 1 << 63 }, true}, "no Amount": {func(o *coin.Out) { o.Amount = 0 }, true},
			"Key": {func(o *coin.Out) { o.Key = hash(60) }, true}, "Key's last byte": {func(o *coin.Out) { o.Key = o.Key[:15] + "x" }, true}, "no Key": {func(o *coin.Out) { o.Key = "" }, true},
			"Kind": {func(o *coin.Out) { o.Kind++ }, false}, "Gate": {func(o *coin.Out) { o.Gate += "x" }, false}, "Expiry": {func(o *coin.Out) { o.Expiry++ }, false}, "Anchor": {func(o *coin.Out) { o.Anchor += "x" }, false},
			"Unit": {func(o *coin.Out) { o.Unit++ }, false}, "Tokens": {func(o *coin.Out) { o.Tokens++ }, false}, "Of": {func(o *coin.Out) { o.Of += "x" }, false},
		} {
			l := outs()
			c.do(&l[at])
			if got := First(l) != First(outs()); got != c.changes {
				t.Errorf("another %s of output %d changes First: %v; want %v", name, at, got, c.changes)
			}
			if First(l) != firstName(l) {
				t.Errorf("First with another %s of output %d = %x", name, at, First(l))
			}
		}
	}
	l := outs()
	l[0], l[1] = l[1], l[0]
	if First(l) == First(outs()) || First(l[:2]) == First(l) || First(l[1:]) == First(l) {
		t.Error("another order, or fewer outputs, have the same name")
	}
}

func TestBegin(t *testing.T) {
	for n := range 4 {
		l := outs()[:n]
		for _, i := range []int{math.MinInt, -256, -1, 0, 1, 2, 3, 4, 63, 64, 255, 256, 1 << 32, math.MaxInt} {
			if got, want := Begin(l, i), (api.Point{Tx: firstName(l), Out: i}); got != want {
				t.Errorf("Begin of %d outputs, %d = %x, %d; want %x", n, i, got.Tx, got.Out, want.Tx)
			}
		}
	}
	if got, want := Begin(nil, 5), (api.Point{Tx: tagged("first", ""), Out: 5}); got != want {
		t.Errorf("Begin of no outputs = %x, %d", got.Tx, got.Out)
	}
}

// P10.4

func TestWhatDoesNotChangeTransactionsNamesDoesNotChangeABlocks(t *testing.T) {
	named, nameless := tweaks()
	for n := 1; n <= 8; n++ {
		for at := range n {
			base := with(n)
			base.Txs[at] = full(4)
			check := func(name string, do func(x *coin.Tx), stays bool) {
				b := with(n)
				b.Txs[at] = full(4)
				do(&b.Txs[at])
				if !Right(b) {
					t.Fatalf("another %s may not be", name)
				}
				if got := ID(b) == ID(base); got != stays || (coin.ID(b.Txs[at]) == coin.ID(base.Txs[at])) != stays {
					t.Errorf("another %s of transaction %d of %d: the name stays: %v; want %v", name, at, n, got, stays)
				}
				// The bytes tell it, all the same.
				if Encode(b) == Encode(base) {
					t.Errorf("another %s of transaction %d of %d has the same bytes", name, at, n)
				}
				decodes(t, "another "+name, Encode(b), b)
			}
			for name, do := range nameless {
				check(name, do, true)
			}
			for name, do := range named {
				check(name, do, false)
			}
		}
	}
	signed, bare := with(8), with(8)
	for i := range bare.Txs {
		bare.Txs[i] = plain(i)
	}
	if ID(signed) != ID(bare) || Encode(signed) == Encode(bare) || Same(signed, bare) {
		t.Error("without all signatures and proofs it is not another one of the same name")
	}
}

func TestAnswersAreTheSameEachTime(t *testing.T) {
	for n := range 9 {
		b := with(n)
		id, s, first := ID(b), Encode(b), First(outs())
		for range 3 {
			if ID(b) != id || Encode(b) != s || !Right(b) || First(outs()) != first {
				t.Errorf("%d transactions are told otherwise the second time", n)
			}
			decodes(t, "again", s, b)
		}
	}
}

// Memory.

// spoil writes over all lists of a block, and the room behind them.
func spoil(b Block) {
	for _, x := range b.Txs {
		for i := range x.Ins[:cap(x.Ins)] {
			x.Ins[:cap(x.Ins)][i] = coin.In{Path: 99}
		}
		for i := range x.Outs[:cap(x.Outs)] {
			x.Outs[:cap(x.Outs)][i] = coin.Out{Kind: 99}
		}
		for i := range x.Proof.Wins[:cap(x.Proof.Wins)] {
			x.Proof.Wins[:cap(x.Proof.Wins)][i] = note.Win{Drawn: 99}
		}
	}
	for i := range b.Txs[:cap(b.Txs)] {
		b.Txs[:cap(b.Txs)][i] = coin.Tx{Ins: []coin.In{{Path: 99}}}
	}
}

// roomyTx is a transaction whose lists have room behind them, and all that is in it.
func roomyTx(i int) (x, all coin.Tx) {
	all = full(2)
	all.Ins, all.Outs = append(all.Ins, plain(i).Ins...), append(all.Outs, plain(i).Outs...)
	all.Proof.Wins = append(all.Proof.Wins, full(1).Proof.Wins...)
	x = all
	x.Ins, x.Outs, x.Proof.Wins = all.Ins[:3], all.Outs[:3], all.Proof.Wins[:2]
	return x, all
}

// roomy is a block of n transactions whose lists have room behind them, and all that is in it.
func roomy(n int) (b, all Block) {
	b, all = with(0), with(0)
	for i := range 10 {
		x, whole := roomyTx(i)
		b.Txs, all.Txs = append(b.Txs, x), append(all.Txs, whole)
	}
	b.Txs = b.Txs[:n]
	return b, all
}

func TestListsAreNotChanged(t *testing.T) {
	for n := range 11 {
		b, all := roomy(n)
		Right(b)
		ID(b)
		Encode(b)
		Same(b, with(n))
		Same(with(n), b)
		other, want := roomy(10)
		b.Txs = b.Txs[:10]
		if !alike(all, want) || !alike(b, other) {
			t.Errorf("lists of %d transactions, or the room behind them, are changed", n)
		}
	}
	for n := range 4 {
		l := outs()
		First(l[:n])
		Begin(l[:n], n)
		if !slices.Equal(l, outs()) {
			t.Errorf("a list of %d outputs, or the room behind it, is changed", n)
		}
	}
}

func TestDecodedIsNewMemory(t *testing.T) {
	for n := range 9 {
		b := with(n)
		s := Encode(b)
		first, _ := Decode(s)
		second, _ := Decode(s)
		spoil(first)
		if !alike(second, b) || s != blockBytes(b) {
			t.Errorf("two answers of %d transactions share their memory", n)
		}
		decodes(t, "again", s, b)
		// No list of an answer shares its memory with another one of it.
		for at := range n {
			third, _ := Decode(s)
			spoil(Block{Txs: third.Txs[at : at+1 : at+1]})
			third.Txs[at] = full(at)
			if !alike(third, b) {
				t.Errorf("transaction %d of %d shares its lists with another one", at, n)
			}
		}
	}
}

// textsOf are all texts of a block.
func textsOf(b Block) []string {
	l := []string{b.Prev}
	for _, x := range b.Txs {
		l = append(l, x.Proof.Sig, x.Proof.Token)
		for _, in := range x.Ins {
			l = append(l, in.From.Tx, in.Sig)
		}
		for _, o := range x.Outs {
			l = append(l, o.Key, o.Gate, o.Anchor, o.Of)
		}
		for _, w := range x.Proof.Wins {
			l = append(l, w.T.Chan, w.T.Commit, w.T.Sig, w.Salt)
		}
	}
	return l
}

// shares tells whether two texts that are not empty have bytes of memory in common.
func shares(a, b string) bool {
	if a == "" || b == "" {
		return false
	}
	at, from := uintptr(unsafe.Pointer(unsafe.StringData(a))), uintptr(unsafe.Pointer(unsafe.StringData(b)))
	return at < from+uintptr(len(b)) && from < at+uintptr(len(a))
}

func TestTextsAreNewMemory(t *testing.T) {
	b := with(8)
	s := Encode(b)
	decoded, _ := Decode(s)
	answered := textsOf(decoded)
	for i, a := range answered {
		if shares(a, s) {
			t.Errorf("the text %d that is decoded is the memory of the bytes", i)
		}
		for _, other := range answered[:i] {
			if shares(a, other) {
				t.Errorf("the text %d that is decoded is another one's memory", i)
			}
		}
	}
	l := outs()
	for _, a := range []string{s, ID(b), First(l), Begin(l, 0).Tx} {
		for _, other := range append(textsOf(b), l[0].Key, l[1].Key, l[2].Key) {
			if shares(a, other) {
				t.Error("a text shares the memory of what it was made of")
			}
		}
	}
}

func FuzzDecode(f *testing.F) {
	for _, s := range []string{"", "B", "C", saying(66, 1, hash(0), 0), saying(66, 0, hash(0), 9), saying(66, 1, hash(0), 1, ""), saying(66, 1, hash(0), 2, coin.Encode(plain(0)), "\x00\x00")} {
		f.Add(s)
	}
	for n := range 5 {
		f.Add(blockBytes(with(n)))
	}
	f.Fuzz(func(t *testing.T, s string) { agrees(t, s) })
}
