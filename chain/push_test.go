package chain

import (
	"fmt"
	"math"
	"slices"
	"testing"
	"unsafe"

	"turnstile/api"
	"turnstile/block"
	"turnstile/coin"
	"turnstile/note"
)

// P12.2

// refuses checks that Push answers an error, and that nothing is told otherwise then.
func refuses(t *testing.T, what string, c *Chain, m *model, b block.Block, e api.Errno) {
	t.Helper()
	before := copied(b)
	if f := c.Push(b); f != e {
		t.Errorf("Push, %s: %d; want %d", what, int(f), int(e))
	}
	if !block.Same(b, before) {
		t.Errorf("Push, %s, changes the block", what)
	}
	n := m.copy()
	n.gone = append(n.gone, b.Txs...)
	tells(t, "refused, "+what, c, n)
}

// change is what is wrong with a block.
type change struct {
	name string
	do   func(b *block.Block)
}

// wrongForms are changes behind which a block may not be.
func wrongForms() []change {
	var l []change
	for _, height := range []int{0, -1, -2, math.MinInt, 1 << 32, 1<<32 + 2, math.MaxInt} {
		l = append(l, change{fmt.Sprintf("the height %d", height), func(b *block.Block) { b.Height = height }})
	}
	for _, n := range []int{0, 1, 15, 17, 32} {
		l = append(l, change{fmt.Sprintf("a Prev of %d bytes", n), func(b *block.Block) { b.Prev = (b.Prev + text(16))[:n] }})
	}
	unsigned := send(3)
	unsigned.Ins[0].Sig = text(401)
	twice := send(4)
	twice.Ins = append(twice.Ins, twice.Ins[0])
	for i, x := range []coin.Tx{{}, {Ins: send(3).Ins}, {Outs: send(3).Outs}, unsigned, twice, tx("client", at(3), 4, pay(93, hash(1))), tx("client", at(3), coin.Plain, pay(0, hash(1)))} {
		l = append(l,
			change{fmt.Sprintf("first a transaction that may not be, %d", i), func(b *block.Block) { b.Txs = append([]coin.Tx{x}, b.Txs...) }},
			change{fmt.Sprintf("last a transaction that may not be, %d", i), func(b *block.Block) { b.Txs = append(slices.Clone(b.Txs), x) }})
	}
	return append(l, change{"9 transactions and more", func(b *block.Block) {
		for i := range 9 {
			b.Txs = append(slices.Clone(b.Txs), send(i+3))
		}
	}})
}

// wrongPlaces are changes behind which a block is not the next one of a chain of two blocks.
func wrongPlaces(m *model) []change {
	var l []change
	for _, height := range []int{1, 2, 4, 5, 259, 1<<32 - 1} {
		l = append(l, change{fmt.Sprintf("the height %d", height), func(b *block.Block) { b.Height = height }})
	}
	tip := m.tip()
	other := func(i int, bit byte) string {
		b := []byte(tip)
		b[i] ^= bit
		return string(b)
	}
	for i, prev := range []string{
		other(0, 1), other(0, 128), other(7, 16), other(15, 1), other(15, 128), hash(1), text(16),
		beginning(m.l), block.ID(m.blocks[0]), m.next().Prev[1:] + tip[:1], block.ID(m.next()), coin.ID(m.blocks[0].Txs[0]), root("client"),
	} {
		l = append(l, change{fmt.Sprintf("another Prev, %d", i), func(b *block.Block) { b.Prev = prev }})
	}
	return l
}

// undone is a transaction that may be, but that is not done, and why.
type undone struct {
	name string
	e    api.Errno
	x    coin.Tx
}

// undones are some that are not done at the heights 1 and 2, with each error of utxo.Apply's.
func undones() []undone {
	over := signed("client", coin.Tx{Ins: []coin.In{{From: at(huge), Path: coin.Plain}, {From: at(3), Path: coin.Plain}}, Outs: []coin.Out{pay(1, hash(1))}})
	paths := signed("client", coin.Tx{Ins: []coin.In{{From: at(3), Path: coin.Plain}, {From: at(lockB), Path: coin.Refund}}, Outs: []coin.Out{pay(173, hash(1))}})
	none := win(9, 20)
	none.T.Many = 0
	return []undone{
		{"a Tx that is not there", api.ErrNone, tx("client", api.Point{Tx: hash(1)}, coin.Plain, pay(90, hash(1)))},
		{"an Out that is not there", api.ErrNone, tx("client", at(many), coin.Plain, pay(90, hash(1)))},
		{"what is made later", api.ErrNone, sendOn(send(13))},
		{"one too much", api.ErrRule, tx("client", at(3), coin.Plain, pay(94, hash(1)))},
		{"one too little", api.ErrRule, tx("client", at(3), coin.Plain, pay(92, hash(1)))},
		{"a channel as a payment", api.ErrRule, tx("client", at(lockB), coin.Plain, pay(70, hash(1)))},
		{"two paths", api.ErrRule, paths},
		{"more for no channel", api.ErrRule, tx("client", at(3), coin.Plain, top(93, 9, hash(1)))},
		{"signed by another", api.ErrSig, tx("other", at(3), coin.Plain, pay(93, hash(1)))},
		{"a refund too early", api.ErrLate, refund(lockA)},
		{"another refund too early", api.ErrLate, refund(lockB)},
		{"a channel too late", api.ErrLate, open(3, 1)},
		{"amounts that find no room", api.ErrOver, over},
		{"a claim of 10", api.ErrLow, claiming(135, proof(10, ""))},
		{"a claim of too much", api.ErrLow, claiming(135, proof(151, ""))},
		{"a token too far", api.ErrForm, claiming(135, proof(70, token(5)))},
		{"a win twice", api.ErrTwice, claiming(135, proof(70, "", win(7, 20), win(7, 30)))},
		{"a win of none", api.ErrArg, claiming(135, proof(70, "", none))},
		{"a claim of another worth", api.ErrRule, claiming(134, claim().Proof)},
	}
}

// two is a chain of two blocks, with room for claims and refunds, and its model.
func two(t *testing.T) (*Chain, *model) {
	t.Helper()
	c, m := begun(t)
	push(t, "the first block", c, m, m.next(send(0)))
	pop(t, "the first block", c, m)
	push(t, "the first block", c, m, m.next(send(1)))
	push(t, "the second block", c, m, m.next(send(2)))
	return c, m
}

func TestPushOfWhatMayNotBe(t *testing.T) {
	c, m := two(t)
	for _, f := range wrongForms() {
		b := m.next()
		f.do(&b)
		refuses(t, f.name, c, m, b, api.ErrForm)
		for _, l := range [][]coin.Tx{{send(12)}, {sendOn(send(13))}, {send(12), tx("other", at(3), coin.Plain, pay(93, hash(1)))}} {
			b := m.next(l...)
			f.do(&b)
			refuses(t, f.name+", with transactions", c, m, b, api.ErrForm)
		}
		for _, g := range wrongPlaces(m) {
			b := m.next(send(12))
			g.do(&b)
			f.do(&b)
			refuses(t, f.name+", and "+g.name, c, m, b, api.ErrForm)
		}
	}
	refuses(t, "nothing", c, m, block.Block{}, api.ErrForm)
	push(t, "one that may be", c, m, m.next(send(12)))
}

func TestPushOfWhatIsNotNext(t *testing.T) {
	c, m := two(t)
	for _, f := range wrongPlaces(m) {
		for _, l := range [][]coin.Tx{nil, {send(12)}, {send(3), send(4)}} {
			b := m.next(l...)
			f.do(&b)
			refuses(t, f.name, c, m, b, api.ErrRule)
		}
		for _, x := range undones() {
			b := m.next(x.x)
			f.do(&b)
			refuses(t, f.name+", with "+x.name, c, m, b, api.ErrRule)
		}
		for _, g := range wrongPlaces(m) {
			b := m.next(send(12))
			f.do(&b)
			g.do(&b)
			refuses(t, f.name+", and "+g.name, c, m, b, api.ErrRule)
		}
	}
	// The last block again, and the first one.
	for _, b := range m.blocks {
		refuses(t, "one that is there", c, m, b, api.ErrRule)
	}
	push(t, "the next one", c, m, m.next(send(12)))
}

func TestPushOfWhatIsNotNextOfANewChain(t *testing.T) {
	c, m := begun(t)
	for _, height := range []int{2, 3, 257, 1<<32 - 1} {
		b := m.next()
		b.Height = height
		refuses(t, fmt.Sprintf("the height %d", height), c, m, b, api.ErrRule)
	}
	for _, prev := range []string{hash(1), block.ID(m.next()), beginning(payments(3))} {
		b := m.next()
		b.Prev = prev
		refuses(t, "another Prev", c, m, b, api.ErrRule)
	}
	push(t, "the next one", c, m, m.next())
}

// fillers are so many transactions that can be done, from one on.
func fillers(from, n int) []coin.Tx {
	var l []coin.Tx
	for i := range n {
		l = append(l, send(from+i))
	}
	return l
}

func TestPushOfWhatIsNotDone(t *testing.T) {
	for height := range 2 {
		c, m := begun(t)
		for range height {
			push(t, "an empty block", c, m, m.next())
		}
		for _, f := range undones() {
			for _, ahead := range []int{0, 1, 2, 6, 7} {
				for behind := range min(2, 8-ahead) {
					b := m.next(slices.Concat(fillers(4, ahead), []coin.Tx{f.x}, fillers(4+ahead, behind))...)
					refuses(t, fmt.Sprintf("%s, behind %d, ahead of %d", f.name, ahead, behind), c, m, b, f.e)
				}
			}
		}
		push(t, "what can be done", c, m, m.next(fillers(4, 8)...))
	}
}

func TestPushOfTwoThatAreNotDone(t *testing.T) {
	c, m := begun(t)
	for _, f := range undones() {
		for _, g := range undones() {
			refuses(t, f.name+", and "+g.name, c, m, m.next(f.x, g.x), f.e)
			refuses(t, f.name+", and later "+g.name, c, m, m.next(send(4), f.x, send(5), g.x), f.e)
		}
	}
	push(t, "what can be done", c, m, m.next(send(4), send(5)))
}

// What is refused leaves no trace of what was done ahead in the same block.
func TestWhatIsRefusedCanBePushedWithoutItsFault(t *testing.T) {
	for _, f := range undones() {
		c, m := begun(t)
		push(t, "the first block", c, m, m.next(send(0)))
		good := []coin.Tx{send(4), sendOn(send(4)), sendOn(send(0))}
		refuses(t, f.name, c, m, m.next(append(slices.Clone(good), f.x)...), f.e)
		push(t, "without "+f.name, c, m, m.next(good...))
		pop(t, "without "+f.name, c, m)
		refuses(t, "again, "+f.name, c, m, m.next(append(slices.Clone(good), f.x)...), f.e)
		pop(t, "the first block", c, m)
	}
}

func TestPushOfWhatSpendsItsOwn(t *testing.T) {
	a := send(0)
	b := sendOn(a)
	l := []coin.Tx{a}
	for range 7 {
		l = append(l, sendOn(l[len(l)-1]))
	}
	channel := open(2, 9)
	more := tx("client", at(3), coin.Plain, top(93, 9, nameOf(madeBy(channel, 0))))
	other := tx("client", at(0), coin.Plain, pay(90, hash(1)))
	for _, c := range []struct {
		name string
		l    []coin.Tx
		e    api.Errno
	}{
		{"one, and one of it", []coin.Tx{a, b}, api.OK},
		{"one of another, ahead of it", []coin.Tx{b, a}, api.ErrNone},
		{"eight in a row", l, api.OK},
		{"eight in a row, the last two in the wrong order", slices.Concat(l[:6], l[7:], l[6:7]), api.ErrNone},
		{"three in a row, without the middle", []coin.Tx{l[0], l[2]}, api.ErrNone},
		{"one twice", []coin.Tx{a, a}, api.ErrNone},
		{"one twice, with another between", []coin.Tx{a, send(1), a}, api.ErrNone},
		{"one twice, with one of it between", []coin.Tx{a, b, a}, api.ErrNone},
		{"two of the same", []coin.Tx{a, other}, api.ErrNone},
		{"two of the same, the other first", []coin.Tx{other, a}, api.ErrNone},
		{"two of what one makes", []coin.Tx{a, b, tx("client", madeBy(a, 0), coin.Plain, pay(80, hash(1)))}, api.ErrNone},
		{"one of what another, of the same place, makes", []coin.Tx{other, b}, api.ErrNone},
		{"a channel, and more for it", []coin.Tx{channel, more}, api.OK},
		{"more for a channel, ahead of it", []coin.Tx{more, channel}, api.ErrRule},
		{"a claim, and more for the channel", []coin.Tx{claim(), tx("client", at(3), coin.Plain, top(93, 3, nameOf(at(lockA))))}, api.ErrRule},
		{"more for the channel, and a claim", []coin.Tx{tx("client", at(3), coin.Plain, top(93, 3, nameOf(at(lockA)))), claim()}, api.OK},
	} {
		chain, m := begun(t)
		if c.e == api.OK {
			push(t, c.name, chain, m, m.next(c.l...))
		} else {
			refuses(t, c.name, chain, m, m.next(c.l...), c.e)
		}
	}
}

// Each transaction is done at the height of its block.
func TestPushAtEachHeight(t *testing.T) {
	for height := 1; height <= 7; height++ {
		what := fmt.Sprintf("at %d", height)
		from := func() (*Chain, *model) {
			c, m := begun(t)
			for range height - 1 {
				push(t, "an empty block", c, m, m.next())
			}
			return c, m
		}
		done := func(x coin.Tx, is bool) {
			c, m := from()
			if b := c.Make([]coin.Tx{x}); len(b.Txs) == 1 != is {
				t.Errorf("Make %s takes %d", what, len(b.Txs))
			}
			if is {
				push(t, what, c, m, m.next(x))
			} else {
				refuses(t, what, c, m, m.next(x), api.ErrLate)
			}
		}
		done(refund(lockA), height >= 3)
		done(refund(topA), height >= 3)
		done(refund(lockB), height >= 5)
		for _, expiry := range []int{1, 2, 4, 6, 7, 8, 1<<32 - 1} {
			done(open(1, expiry), expiry > height)
		}
		done(claim(), true)
		done(send(1), true)
	}
}

func TestPopOfEach(t *testing.T) {
	c, m := grown(t)
	var l []block.Block
	for len(m.blocks) > 0 {
		l = append(l, pop(t, fmt.Sprintf("%d blocks", len(m.blocks)), c, m))
	}
	for range 3 {
		if b, e := c.Pop(); e != api.ErrNone || !block.Same(b, block.Block{}) {
			t.Errorf("Pop of none = %x, %d; want nothing, %d", b, int(e), int(api.ErrNone))
		}
		tells(t, "behind Pop of none", c, *m)
	}
	if len(l) != 3 || l[0].Height != 3 || l[2].Height != 1 || l[2].Prev != beginning(first()) {
		t.Errorf("what was popped: %x", l)
	}
	slices.Reverse(l)
	for _, b := range l {
		push(t, "what was popped", c, m, b)
	}
	for i := range 20 {
		push(t, "and one more", c, m, m.next())
		for range i % 3 {
			pop(t, "and one less", c, m)
		}
	}
}

// What was spent in a block that is taken away can be spent in another one.
func TestPopGivesBackWhatWasSpent(t *testing.T) {
	c, m := grown(t)
	refuses(t, "spent", c, m, m.next(open(0, 9)), api.ErrNone)
	pop(t, "the third", c, m)
	pop(t, "the second", c, m)
	refuses(t, "still spent", c, m, m.next(open(0, 9)), api.ErrNone)
	refuses(t, "made in what is gone", c, m, m.next(sendOn(sendOn(send(0)))), api.ErrNone)
	pop(t, "the first", c, m)
	push(t, "spent no more", c, m, m.next(open(0, 9), send(1)))
	push(t, "the claim", c, m, m.next(claim()))
}

// Memory.

// roomy is a block in lists that have room behind them, with one more thing in each.
func roomy(b block.Block) block.Block {
	b = copied(b)
	for i, x := range b.Txs {
		x.Ins = append(x.Ins, coin.In{Path: 99})[:len(x.Ins)]
		x.Outs = append(x.Outs, coin.Out{Kind: 99})[:len(x.Outs)]
		x.Proof.Wins = append(x.Proof.Wins, note.Win{Drawn: 99})[:len(x.Proof.Wins)]
		b.Txs[i] = x
	}
	b.Txs = append(b.Txs, coin.Tx{Proof: note.Proof{Amount: 99}})[:len(b.Txs)]
	return b
}

// spoilTx writes over all lists of a transaction, and the room behind them.
func spoilTx(x coin.Tx) {
	for i := range x.Ins[:cap(x.Ins)] {
		x.Ins[:cap(x.Ins)][i] = coin.In{Path: 77}
	}
	for i := range x.Outs[:cap(x.Outs)] {
		x.Outs[:cap(x.Outs)][i] = coin.Out{Kind: 77}
	}
	for i := range x.Proof.Wins[:cap(x.Proof.Wins)] {
		x.Proof.Wins[:cap(x.Proof.Wins)][i] = note.Win{Drawn: 77}
	}
}

// spoil writes over all lists of transactions, and the room behind them.
func spoil(l []coin.Tx) {
	for _, x := range l {
		spoilTx(x)
	}
	for i := range l[:cap(l)] {
		l[:cap(l)][i] = coin.Tx{Proof: note.Proof{Amount: 77}}
	}
}

// isWhole tells whether the things behind a roomy block's lists are still there.
func isWhole(l []coin.Tx) bool {
	for _, x := range l {
		if x.Ins[:len(x.Ins)+1][len(x.Ins)].Path != 99 || x.Outs[:len(x.Outs)+1][len(x.Outs)].Kind != 99 || x.Proof.Wins[:len(x.Proof.Wins)+1][len(x.Proof.Wins)].Drawn != 99 {
			return false
		}
	}
	return l[:len(l)+1][len(l)].Proof.Amount == 99
}

func TestNewKeepsNoList(t *testing.T) {
	l := append(first(), pay(1, hash(1)))
	c, e := New(l[:many])
	if e != api.OK || !slices.Equal(l, append(first(), pay(1, hash(1)))) {
		t.Errorf("New changes its list, or the room behind it: %d", int(e))
	}
	for i := range l {
		l[i] = coin.Out{Kind: 77}
	}
	m := &model{l: first()}
	tells(t, "behind a change of New's list", c, *m)
	push(t, "behind a change of New's list", c, m, m.next(send(0)))
	pop(t, "behind a change of New's list", c, m)
}

func TestPushKeepsNoList(t *testing.T) {
	c, m := begun(t)
	for i, want := range []block.Block{m.next(send(0), claim(), send(1)), m.next(), m.next(send(2), sendOn(send(2)))} {
		want.Height, want.Prev = len(m.blocks)+1, m.tip()
		b := roomy(want)
		if e := c.Push(b); e != api.OK || !block.Same(b, want) || !isWhole(b.Txs) {
			t.Errorf("Push of block %d: %d; or it changes a list, or the room behind it", i, int(e))
		}
		spoil(b.Txs)
		m.blocks = append(m.blocks, want)
		tells(t, "behind a change of what was pushed", c, *m)
	}
	for len(m.blocks) > 0 {
		pop(t, "of what was changed behind Push", c, m)
	}
}

func TestAnswersAreNewMemory(t *testing.T) {
	c, m := grown(t)
	d, n := c.Copy(), m.copy()
	same := func(what string) {
		t.Helper()
		tells(t, "behind a change of what "+what+" answered", c, *m)
		tells(t, "on a copy, behind a change of what "+what+" answered", d, n)
	}
	for height := 1; height <= 3; height++ {
		a, _ := c.At(height)
		b, _ := c.At(height)
		spoil(a.Txs)
		if !block.Same(b, m.blocks[height-1]) {
			t.Errorf("two answers of At(%d) share a list", height)
		}
		same("At")
	}
	for i := range many {
		a, deep := c.Spent(at(i))
		b, _ := c.Spent(at(i))
		want := coin.Copy(b)
		spoilTx(a)
		if !coin.Same(b, want) || deep > 0 != (i < 3 || i == lockA || i == topA) {
			t.Errorf("two answers of Spent of output %d share a list, or it is %d deep", i, deep)
		}
		same("Spent")
	}
	for len(m.blocks) > 0 {
		b := pop(t, "on an original", c, m)
		spoil(b.Txs)
		same("Pop")
	}
	for range 3 {
		b, _ := d.At(len(m.blocks) + 1)
		push(t, "what its copy tells", c, m, b)
	}
	tells(t, "behind Push of what its copy tells", c, n)
}

func TestSetsAreNewMemory(t *testing.T) {
	c, m := grown(t)
	for _, e := range c.Set().All() {
		if o, is := c.Set().Get(e.P); !is || o != e.O {
			t.Errorf("Set has %x, %v at %x", o, is, e.P)
		}
	}
	l := c.Set().All()
	for i := range l {
		l[i].O.Amount = 77
	}
	tells(t, "behind a change of what a set answered", c, *m)
}

// textsOf are all texts of a block.
func textsOf(b block.Block) []string {
	l := []string{b.Prev}
	for _, x := range b.Txs {
		for _, in := range x.Ins {
			l = append(l, in.From.Tx, in.Sig)
		}
		for _, o := range x.Outs {
			l = append(l, o.Key, o.Gate, o.Anchor, o.Of)
		}
		l = append(l, x.Proof.Sig, x.Proof.Token)
		for _, w := range x.Proof.Wins {
			l = append(l, w.T.Chan, w.T.Commit, w.T.Sig, w.Salt)
		}
	}
	return l
}

// shares tells whether two texts that are not empty have bytes of memory in common.
func shares(a, b string) bool {
	if a == "" || b == "" {
		return false
	}
	at, from := uintptr(unsafe.Pointer(unsafe.StringData(a))), uintptr(unsafe.Pointer(unsafe.StringData(b)))
	return at < from+uintptr(len(b)) && from < at+uintptr(len(a))
}

// apart checks that no text of one block has memory of one of the other.
func apart(t *testing.T, what string, a, b block.Block) {
	t.Helper()
	for _, s := range textsOf(a) {
		for _, other := range textsOf(b) {
			if shares(s, other) {
				t.Fatalf("%s share the memory of %x", what, s)
			}
		}
	}
}

func TestTextsAreNewMemory(t *testing.T) {
	c, m := begun(t)
	b := copied(m.next(claim(), send(0), open(2, 9)))
	if e := c.Push(b); e != api.OK {
		t.Fatal(int(e))
	}
	kept := c.blocks[0].block
	apart(t, "what Push keeps and what it was handed", kept, b)
	told, _ := c.At(1)
	apart(t, "what Push was handed and what At answers", b, told)
	made := copied(m.next(send(4), open(5, 9)))
	apart(t, "what Make was handed and what it answers", made, c.Make(made.Txs))
}
