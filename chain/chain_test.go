package chain

import (
	"crypto/sha256"
	"encoding/binary"
	"fmt"
	"math"
	"slices"
	"strings"
	"testing"

	"turnstile/api"
	"turnstile/block"
	"turnstile/coin"
	"turnstile/draw"
	"turnstile/merkle"
	"turnstile/note"
	"turnstile/payword"
	"turnstile/utxo"
)

// text is n bytes of all kinds, no two neighbours alike.
func text(n int) string {
	b := make([]byte, n)
	for i := range b {
		b[i] = byte(i*31 + i>>8*7 + 0xf9)
	}
	return string(b)
}

// hash is the i-th of hashes of which no two are alike.
func hash(i int) string { return text(16 + i)[i:] }

// one is a number as a byte.
func one(n int) string { return string([]byte{byte(n)}) }

// eight is a number as 8 bytes, the highest first, by the library.
func eight(n uint64) string { return string(binary.BigEndian.AppendUint64(nil, n)) }

// tagged is a word's sum of parts, by the library.
func tagged(word string, parts ...string) string {
	s := one(len(word)) + word
	for _, p := range parts {
		s += string(binary.BigEndian.AppendUint16(nil, uint16(len(p)))) + p
	}
	sum := sha256.Sum256([]byte(s))
	return string(sum[:16])
}

// beginning is the name ahead of the first block, by hand.
func beginning(l []coin.Out) string {
	all := ""
	for _, o := range l {
		all += eight(o.Amount) + o.Key
	}
	return tagged("first", all)
}

// nameOf is the name of the channel at a place, by hand.
func nameOf(p api.Point) string { return tagged("lock", p.Tx, one(p.Out)) }

// Keys and what they signed are kept, as making them takes long. Each message is signed by a key of its own of that seed: the tests sign one and the same leaf.
var (
	roots      = map[string]string{}
	signatures = map[[2]string]string{}
)

// root is the root of a seed's key.
func root(seed string) string {
	if _, is := roots[seed]; !is {
		k, e := merkle.New(seed, 0)
		if e != api.OK {
			panic(e)
		}
		roots[seed] = k.Root()
	}
	return roots[seed]
}

// signature is what a seed's key signs.
func signature(seed, msg string) string {
	at := [2]string{seed, msg}
	if _, is := signatures[at]; !is {
		k, _ := merkle.New(seed, 0)
		sig, e := k.Sign(msg)
		if e != api.OK {
			panic(e)
		}
		signatures[at] = sig
	}
	return signatures[at]
}

// token is the token i steps from the anchor of the client's channels, of which there are 6.
func token(i int) string {
	c, e := payword.New("tokens", 6)
	if e != api.OK {
		panic(e)
	}
	s, e := c.Token(i)
	if e != api.OK {
		panic(e)
	}
	return s
}

// pay, lock and top are outputs that may be.
func pay(amount uint64, key string) coin.Out {
	return coin.Out{Kind: coin.Pay, Amount: amount, Key: key}
}

func lock(amount uint64, expiry int) coin.Out {
	return coin.Out{Kind: coin.Lock, Amount: amount, Key: root("client"), Gate: root("gate"), Expiry: expiry, Anchor: token(0), Unit: 5, Tokens: 4}
}

func top(amount uint64, expiry int, of string) coin.Out {
	return coin.Out{Kind: coin.Top, Amount: amount, Key: root("client"), Gate: root("gate"), Expiry: expiry, Of: of}
}

// Which of the outputs that are there at first are what; the first 14 are payments to the client, of 100 and so many more.
const (
	lockA = 14 + iota // 100, up to 3
	topA              // 50 more for it
	lockB             // 80, up to 5
	huge              // 2^64 - 1 of the client's
	many              // how many there are
)

// first are the outputs that are there at first.
func first() []coin.Out {
	var l []coin.Out
	for i := range lockA {
		l = append(l, pay(uint64(100+i), root("client")))
	}
	l = append(l, lock(100, 3), top(50, 3, ""), lock(80, 5), pay(math.MaxUint64, root("client")))
	l[topA].Of = nameOf(api.Point{Tx: beginning(l), Out: lockA})
	return l
}

// at is the place of one of the outputs that are there at first.
func at(i int) api.Point { return api.Point{Tx: beginning(first()), Out: i} }

// madeBy is the place of a transaction's i-th output.
func madeBy(x coin.Tx, i int) api.Point { return api.Point{Tx: coin.ID(x), Out: i} }

// signed is a transaction whose inputs are all signed by one seed's key.
func signed(by string, x coin.Tx) coin.Tx {
	core := coin.Core(x)
	for i := range x.Ins {
		x.Ins[i].Sig = signature(by, core)
	}
	return x
}

// tx is a transaction of a place on a path, signed.
func tx(by string, from api.Point, path int, outs ...coin.Out) coin.Tx {
	return signed(by, coin.Tx{Ins: []coin.In{{From: from, Path: path}}, Outs: outs})
}

// send pays the i-th of the first payments to the client again, less 10.
func send(i int) coin.Tx {
	return tx("client", at(i), coin.Plain, pay(uint64(90+i), root("client")))
}

// sendOn pays a transaction's first output to the client again, less 10.
func sendOn(x coin.Tx) coin.Tx {
	return tx("client", madeBy(x, 0), coin.Plain, pay(x.Outs[0].Amount-10, root("client")))
}

// open makes a channel of the i-th of the first payments.
func open(i, expiry int) coin.Tx {
	return tx("client", at(i), coin.Plain, lock(uint64(90+i), expiry))
}

// refund brings back a channel of the first outputs.
func refund(i int) coin.Tx {
	return tx("client", at(i), coin.Refund, pay(first()[i].Amount-10, root("client")))
}

// win is a ticket of the first channel that won.
func win(serial, face uint64) note.Win {
	w := note.Win{T: note.Ticket{Chan: nameOf(at(lockA)), Serial: serial, Face: face, Wins: 1, Many: 4, Commit: draw.Commit("salt", 3), Client: 5}, Salt: "salt", Drawn: 3}
	w.T.Sig = signature("client", note.Text(w.T))
	return w
}

// claiming claims all of the first channel, and more for it, by a proof that is worth so much.
func claiming(worth uint64, p note.Proof) coin.Tx {
	x := coin.Tx{Ins: []coin.In{{From: at(lockA), Path: coin.Claim}, {From: at(topA), Path: coin.Claim}}, Proof: p}
	x.Outs = []coin.Out{pay(worth-10, root("gate")), pay(150-worth, root("client"))}
	return signed("gate", x)
}

// proof is what is shown for the first channel: a voucher, a token, wins.
func proof(amount uint64, token string, wins ...note.Win) note.Proof {
	p := note.Proof{Amount: amount, Token: token, Wins: wins}
	p.Sig = signature("client", note.Voucher(nameOf(at(lockA)), amount))
	return p
}

// claim claims 135 of the 150 of the first channel: 70 by a voucher, 15 by a token, 50 by two tickets.
func claim() coin.Tx { return claiming(135, proof(70, token(3), win(7, 20), win(8, 30))) }

// model is a chain that is told by hand.
type model struct {
	l      []coin.Out
	blocks []block.Block
	gone   []coin.Tx // what is in none of the blocks
}

// tip is the last block's name.
func (m model) tip() string {
	name := beginning(m.l)
	for i, b := range m.blocks {
		names := ""
		for _, x := range b.Txs {
			names += coin.ID(x)
		}
		name = tagged("block", eight(uint64(i+1)), name, names)
	}
	return name
}

// next is the block of the next height, of some transactions.
func (m model) next(l ...coin.Tx) block.Block {
	return block.Block{Height: len(m.blocks) + 1, Prev: m.tip(), Txs: l}
}

// set is what is not spent.
func (m model) set() []utxo.Entry {
	outs := map[api.Point]coin.Out{}
	for i, o := range m.l {
		outs[api.Point{Tx: beginning(m.l), Out: i}] = o
	}
	for _, b := range m.blocks {
		for _, x := range b.Txs {
			for _, in := range x.Ins {
				delete(outs, in.From)
			}
			for i, o := range x.Outs {
				outs[madeBy(x, i)] = o
			}
		}
	}
	var l []utxo.Entry
	for p, o := range outs {
		l = append(l, utxo.Entry{P: p, O: o})
	}
	slices.SortFunc(l, func(a, b utxo.Entry) int {
		if a.P.Tx != b.P.Tx {
			return strings.Compare(a.P.Tx, b.P.Tx)
		}
		return a.P.Out - b.P.Out
	})
	return l
}

// deep is how deep a name is.
func (m model) deep(id string) int {
	deep := 0
	for i, b := range m.blocks {
		for _, x := range b.Txs {
			if coin.ID(x) == id {
				deep = len(m.blocks) - i
			}
		}
	}
	return deep
}

// spent is what spends a place, and how deep it is.
func (m model) spent(p api.Point) (coin.Tx, int) {
	var last coin.Tx
	deep := 0
	for i, b := range m.blocks {
		for _, x := range b.Txs {
			for _, in := range x.Ins {
				if in.From == p {
					last, deep = x, len(m.blocks)-i
				}
			}
		}
	}
	return last, deep
}

// copy is a model that goes its own way.
func (m model) copy() model {
	return model{l: m.l, blocks: slices.Clone(m.blocks), gone: slices.Clone(m.gone)}
}

// known are all transactions that are, or once were, in a block.
func (m model) known() []coin.Tx {
	l := slices.Clone(m.gone)
	for _, b := range m.blocks {
		l = append(l, b.Txs...)
	}
	return l
}

// copied is a block in lists of its own.
func copied(b block.Block) block.Block {
	var l []coin.Tx
	for _, x := range b.Txs {
		l = append(l, coin.Copy(x))
	}
	b.Txs = l
	return b
}

// tells checks that a chain tells just what a model does.
func tells(t *testing.T, what string, c *Chain, m model) {
	t.Helper()
	if got := c.Height(); got != len(m.blocks) {
		t.Fatalf("%s: Height = %d; want %d", what, got, len(m.blocks))
	}
	if got := c.Tip(); got != m.tip() {
		t.Fatalf("%s: Tip = %x; want %x", what, got, m.tip())
	}
	if got := c.Set().All(); !slices.Equal(got, m.set()) {
		t.Fatalf("%s: Set = %x; want %x", what, got, m.set())
	}
	for i, b := range m.blocks {
		if got, is := c.At(i + 1); !is || !block.Same(got, b) {
			t.Fatalf("%s: At(%d) = %x, %v; want %x", what, i+1, got, is, b)
		}
	}
	for _, height := range []int{math.MinInt, -1 << 32, -len(m.blocks), -1, 0, len(m.blocks) + 1, len(m.blocks) + 2, 1<<32 - 1, 1 << 32, 1<<32 + 1, math.MaxInt} {
		if got, is := c.At(height); is || !block.Same(got, block.Block{}) {
			t.Errorf("%s: At(%d) = %x, %v; want none", what, height, got, is)
		}
	}
	for _, x := range m.known() {
		deepIs(t, what, c, coin.ID(x), m.deep(coin.ID(x)))
		for _, in := range x.Ins {
			spentIs(t, what, c, in.From, m)
		}
		for i := range x.Outs {
			spentIs(t, what, c, madeBy(x, i), m)
		}
	}
	for i := range m.l {
		spentIs(t, what, c, api.Point{Tx: beginning(m.l), Out: i}, m)
	}
	deepIs(t, what, c, m.tip(), 0)
	deepIs(t, what, c, "", 0)
}

// deepIs checks what Deep tells.
func deepIs(t *testing.T, what string, c *Chain, id string, want int) {
	t.Helper()
	if got := c.Deep(id); got != want {
		t.Errorf("%s: Deep of %x = %d; want %d", what, id, got, want)
	}
}

// spentIs checks that Spent tells of a place what a model does.
func spentIs(t *testing.T, what string, c *Chain, p api.Point, m model) {
	t.Helper()
	x, n := m.spent(p)
	if got, deep := c.Spent(p); deep != n || !coin.Same(got, x) {
		t.Errorf("%s: Spent of %x = %x, %d; want %x, %d", what, p, got, deep, x, n)
	}
}

// begun is a chain of the outputs that are there at first, and its model.
func begun(t *testing.T) (*Chain, *model) {
	t.Helper()
	c, e := New(first())
	if c == nil || e != api.OK {
		t.Fatalf("New: %d", int(e))
	}
	m := &model{l: first()}
	tells(t, "a new chain", c, *m)
	return c, m
}

// push checks that a block is laid behind.
func push(t *testing.T, what string, c *Chain, m *model, b block.Block) {
	t.Helper()
	if e := c.Push(copied(b)); e != api.OK {
		t.Fatalf("Push, %s: %d; want OK", what, int(e))
	}
	m.blocks = append(m.blocks, b)
	tells(t, "behind Push, "+what, c, *m)
}

// pop checks that the last block is taken away, and is what it was.
func pop(t *testing.T, what string, c *Chain, m *model) block.Block {
	t.Helper()
	last := m.blocks[len(m.blocks)-1]
	b, e := c.Pop()
	if e != api.OK || !block.Same(b, last) {
		t.Fatalf("Pop, %s = %x, %d; want %x", what, b, int(e), last)
	}
	m.blocks = m.blocks[: len(m.blocks)-1 : len(m.blocks)-1]
	m.gone = append(m.gone, last.Txs...)
	tells(t, "behind Pop, "+what, c, *m)
	return b
}

// grown is a chain of three blocks, and its model: of 2, of 3 and of no transactions; one of them claims.
func grown(t *testing.T) (*Chain, *model) {
	t.Helper()
	c, m := begun(t)
	push(t, "the first block", c, m, m.next(send(0), claim()))
	push(t, "the second block", c, m, m.next(send(1), sendOn(send(0)), open(2, 9)))
	push(t, "the third block", c, m, m.next())
	return c, m
}

// The chapter's example.

func TestExample(t *testing.T) {
	c, m := begun(t)
	if b, e := c.Pop(); e != api.ErrNone || !block.Same(b, block.Block{}) {
		t.Errorf("Pop of a new chain = %x, %d; want nothing, %d", b, int(e), int(api.ErrNone))
	}
	tells(t, "behind Pop of a new chain", c, *m)
}

// P12.1

// payments are n outputs, no two neighbours alike.
func payments(n int) []coin.Out {
	var l []coin.Out
	for i := range n {
		l = append(l, pay(uint64(i+1), hash(i%10)))
	}
	return l
}

func TestNewOfHowMany(t *testing.T) {
	for _, n := range []int{0, 1, 2, 3, 63, 64, 65, 66, 128, 256, 257, 65537} {
		c, e := New(payments(n))
		if n < 1 || n > 64 {
			if c != nil || e != api.ErrArg {
				t.Errorf("New of %d outputs answers a chain: %v, %d; want none, %d", n, c != nil, int(e), int(api.ErrArg))
			}
			continue
		}
		if c == nil || e != api.OK {
			t.Fatalf("New of %d outputs: %d", n, int(e))
		}
		tells(t, fmt.Sprintf("%d outputs", n), c, model{l: payments(n)})
		if c.Tip() != block.First(payments(n)) || c.Height() != 0 {
			t.Errorf("New of %d outputs: the tip is %x at %d", n, c.Tip(), c.Height())
		}
	}
	if c, e := New([]coin.Out{}); c != nil || e != api.ErrArg {
		t.Errorf("New of an empty list: %v, %d", c != nil, int(e))
	}
}

func TestNewOfOneThatMayNotBe(t *testing.T) {
	for i, o := range []coin.Out{{}, pay(0, hash(1)), pay(1, ""), pay(1, text(15)), pay(1, text(17)), {Kind: 4, Amount: 1, Key: hash(1)}, {Kind: coin.Pay, Amount: 1, Key: hash(1), Of: hash(2)}, lock(1, 0), lock(1, 1<<32), top(1, 5, "")} {
		for _, n := range []int{1, 2, 64} {
			for _, at := range []int{0, n / 2, n - 1} {
				l := payments(n)
				l[at] = o
				if c, e := New(l); c != nil || e != api.ErrArg {
					t.Errorf("New of %d outputs, of which %d is the wrong one %d: %v, %d", n, at, i, c != nil, int(e))
				}
			}
		}
	}
}

// Behind each Push, and each Pop, all is told as by hand (push, pop and tells check it).
func TestWhatIsToldOfSeveralBlocks(t *testing.T) {
	c, m := grown(t)
	if c.Height() != 3 || c.Deep(coin.ID(claim())) != 3 || c.Deep(coin.ID(send(1))) != 2 {
		t.Errorf("Height = %d, Deep = %d and %d", c.Height(), c.Deep(coin.ID(claim())), c.Deep(coin.ID(send(1))))
	}
	if b, is := c.At(3); !is || c.Tip() != block.ID(b) || len(b.Txs) != 0 {
		t.Errorf("Tip = %x, of the block %x", c.Tip(), b)
	}
	before, _ := utxo.New(first())
	if got, want := together(c.Set()), together(before); got != want-50 {
		t.Errorf("all amounts together are %d, ahead of five transactions %d", got, want)
	}
	for len(m.blocks) > 0 {
		pop(t, "one more", c, m)
	}
}

// together are all amounts of a set, which come round where they find no room.
func together(s *utxo.Set) uint64 {
	sum := uint64(0)
	for _, e := range s.All() {
		sum += e.O.Amount
	}
	return sum
}

// Each transaction is done at its block's height: what a set of the same outputs takes then.
func TestSetIsWhatApplyMakes(t *testing.T) {
	c, m := grown(t)
	s, _ := utxo.New(first())
	for _, b := range m.blocks {
		for _, x := range b.Txs {
			if e := s.Apply(x, b.Height); e != api.OK {
				t.Fatal(int(e))
			}
		}
	}
	if !slices.Equal(s.All(), c.Set().All()) {
		t.Errorf("Set = %x; want %x", c.Set().All(), s.All())
	}
}

func TestSetCanBeWorkedOn(t *testing.T) {
	work := func(c *Chain, l ...coin.Tx) {
		t.Helper()
		s := c.Set()
		for _, x := range l {
			if e := s.Apply(x, 5); e != api.OK {
				t.Fatal(int(e))
			}
		}
	}
	c, m := begun(t)
	work(c, send(3), refund(lockA))
	tells(t, "behind work on a new chain's set", c, *m)
	push(t, "what the set spent", c, m, m.next(send(3), claim()))
	work(c, send(4), sendOn(send(3)))
	tells(t, "behind work on the set of one block", c, *m)
	push(t, "what that set spent", c, m, m.next(sendOn(send(3))))
	work(c, send(4), send(5))
	early := c.Set()
	pop(t, "the second", c, m)
	work(c, send(4), sendOn(send(3)))
	tells(t, "behind work on a set behind Pop", c, *m)
	pop(t, "the first", c, m)
	work(c, send(3), claim())
	tells(t, "behind work on a set of no blocks again", c, *m)
	push(t, "the first again", c, m, m.next(send(3)))
	// An answer from earlier does not follow the chain.
	if o, is := early.Get(madeBy(sendOn(send(3)), 0)); !is || o.Amount != 83 {
		t.Errorf("an earlier set has %x, %v", o, is)
	}
}

// way is something that is done to a chain and its model.
type way struct {
	name string
	do   func(t *testing.T, c *Chain, m *model)
}

// ways are things that can be done to a grown chain.
func ways() []way {
	pushing := func(l ...coin.Tx) func(t *testing.T, c *Chain, m *model) {
		return func(t *testing.T, c *Chain, m *model) { push(t, "of a way", c, m, m.next(l...)) }
	}
	popping := func(n int, l ...coin.Tx) func(t *testing.T, c *Chain, m *model) {
		return func(t *testing.T, c *Chain, m *model) {
			for range n {
				pop(t, "of a way", c, m)
			}
			for _, x := range l {
				push(t, "of a way, behind Pop", c, m, m.next(x))
			}
		}
	}
	return []way{
		{"Push", pushing(send(3))}, {"Push of another", pushing(send(4), send(5))}, {"Push of nothing", pushing()},
		{"Pop", popping(1)}, {"Pop of all", popping(3)}, {"Pop and Push", popping(1, send(6))}, {"Pop and Push of another", popping(1, send(7), send(8))},
		{"Pop of all, and Push", popping(3, claim())}, {"Pop of two, and Push", popping(2, send(9), send(10), send(11))},
	}
}

func TestCopyGoesItsOwnWay(t *testing.T) {
	for _, a := range ways() {
		for _, b := range ways() {
			c, m := grown(t)
			// A block that was taken away leaves room behind the others.
			pop(t, "for room", c, m)
			push(t, "for room", c, m, m.next(send(12)))
			d, n := c.Copy(), m.copy()
			if d == c {
				t.Fatal("Copy answers the chain itself")
			}
			tells(t, "a copy", d, n)
			a.do(t, d, &n)
			tells(t, "the original, behind "+a.name+" on its copy", c, *m)
			b.do(t, c, m)
			tells(t, "the copy, behind "+b.name+" on its original", d, n)
			e, o := d.Copy(), n.copy()
			for len(o.blocks) > 0 {
				pop(t, "of a copy's copy", e, &o)
			}
			push(t, "on a copy's copy", e, &o, o.next(send(13)))
			tells(t, "the copy, behind Pop and Push on its own copy", d, n)
			tells(t, "the original, behind Pop and Push on a copy's copy", c, *m)
		}
	}
}

func TestCopyOfANewChain(t *testing.T) {
	c, m := begun(t)
	d, n := c.Copy(), m.copy()
	push(t, "on a copy", d, &n, n.next(send(0)))
	tells(t, "the original of a new one", c, *m)
	push(t, "on the original", c, m, m.next(send(1)))
	tells(t, "the copy of a new one", d, n)
	if _, e := d.Copy().Pop(); e != api.OK {
		t.Errorf("Pop of a copy of a copy: %d", int(e))
	}
	tells(t, "the copy, behind Pop of its copy", d, n)
}
