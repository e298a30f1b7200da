package chain

import (
	"fmt"
	"math"
	"testing"

	"turnstile/api"
	"turnstile/block"
	"turnstile/coin"
)

// P12.4

func TestDeep(t *testing.T) {
	c, m := begun(t)
	deepIs(t, "of a new chain", c, coin.ID(send(0)), 0)
	push(t, "the first", c, m, m.next(send(0), send(1), claim()))
	for _, x := range []coin.Tx{send(0), send(1), claim()} {
		deepIs(t, "in the last block", c, coin.ID(x), 1)
	}
	push(t, "the second", c, m, m.next(sendOn(send(1))))
	for _, x := range []coin.Tx{send(0), send(1), claim()} {
		deepIs(t, "one below", c, coin.ID(x), 2)
	}
	deepIs(t, "in the last block", c, coin.ID(sendOn(send(1))), 1)
	for i := range 9 {
		push(t, "one more", c, m, m.next())
		deepIs(t, "below", c, coin.ID(claim()), i+3)
		deepIs(t, "below", c, coin.ID(sendOn(send(1))), i+2)
	}
	name := coin.ID(send(0))
	for _, id := range []string{"", name[:15], name + "x", name[1:] + name[:1], hash(1), coin.ID(send(2)), coin.Core(send(0)), beginning(m.l), c.Tip(), block.ID(m.blocks[0]), nameOf(at(lockA)), root("client"), string(make([]byte, 16))} {
		deepIs(t, "in none", c, id, 0)
	}
	for i := range 9 {
		pop(t, "one less", c, m)
		deepIs(t, "behind Pop", c, coin.ID(claim()), 10-i)
	}
	pop(t, "the second", c, m)
	deepIs(t, "in what was popped", c, coin.ID(sendOn(send(1))), 0)
	deepIs(t, "behind Pop, in the last block", c, coin.ID(claim()), 1)
	pop(t, "the first", c, m)
	deepIs(t, "in all that was popped", c, coin.ID(claim()), 0)
}

// Signatures and proofs are no part of the name.
func TestDeepOfATransactionSignedOtherwise(t *testing.T) {
	c, _ := grown(t)
	for _, x := range []coin.Tx{send(0), claim(), send(1), open(2, 9)} {
		want := c.Deep(coin.ID(x))
		y := coin.Copy(x)
		y.Ins[0].Sig, y.Proof.Amount = "other", 5
		if want < 2 || c.Deep(coin.ID(y)) != want {
			t.Errorf("Deep = %d, of one signed otherwise %d", want, c.Deep(coin.ID(y)))
		}
	}
	deepIs(t, "of a transaction to another", c, coin.ID(tx("client", at(0), coin.Plain, pay(90, hash(1)))), 0)
}

// laidBy is a chain of blocks that are just laid there, and its model: Push takes no transaction twice, and no two of one place.
func laidBy(t *testing.T, blocks ...[]coin.Tx) (*Chain, *model) {
	t.Helper()
	c, m := begun(t)
	for _, l := range blocks {
		b := m.next(l...)
		c.blocks = append(c.blocks, laid{block: copied(b), ahead: c.now})
		m.blocks = append(m.blocks, b)
	}
	return c, m
}

// deepsAre checks how deep Deep tells a name, and Spent what spends a place.
func deepsAre(t *testing.T, what string, c *Chain, x coin.Tx, deep int, p api.Point, last coin.Tx, spent int) {
	t.Helper()
	deepIs(t, what, c, coin.ID(x), deep)
	if got, n := c.Spent(p); n != spent || !coin.Same(got, last) {
		t.Errorf("%s: Spent = %x, %d; want %x, %d", what, got, n, last, spent)
	}
}

func TestTheLastOfTwoCounts(t *testing.T) {
	a, b := send(0), tx("client", at(0), coin.Plain, pay(90, hash(1)))
	d := tx("client", at(0), coin.Plain, pay(90, hash(2)))
	c, _ := laidBy(t, []coin.Tx{a}, nil, []coin.Tx{a, send(1)}, []coin.Tx{send(2)})
	deepsAre(t, "in two blocks", c, a, 2, at(0), a, 2)
	c, _ = laidBy(t, []coin.Tx{a}, []coin.Tx{b}, nil)
	deepsAre(t, "two of a place", c, a, 3, at(0), b, 2)
	c, _ = laidBy(t, []coin.Tx{b}, []coin.Tx{a}, []coin.Tx{a})
	deepsAre(t, "in the last two blocks", c, a, 1, at(0), a, 1)
	deepsAre(t, "in the first block", c, b, 3, at(0), a, 1)
	c, _ = laidBy(t, []coin.Tx{a, send(1), b, send(2)}, []coin.Tx{send(3)})
	deepsAre(t, "two of a place in one block", c, a, 2, at(0), b, 2)
	c, _ = laidBy(t, []coin.Tx{d}, []coin.Tx{b, a}, []coin.Tx{send(1)})
	deepsAre(t, "three of a place", c, d, 3, at(0), a, 2)
	signed := coin.Copy(a)
	signed.Ins[0].Sig = "other"
	c, _ = laidBy(t, []coin.Tx{a}, []coin.Tx{signed})
	deepsAre(t, "signed otherwise later", c, a, 1, at(0), signed, 1)
	c, m := laidBy(t, []coin.Tx{a}, []coin.Tx{a, b}, []coin.Tx{b, a})
	for range 3 {
		deepIs(t, "in each block", c, coin.ID(a), 1)
		if _, e := c.Pop(); e != api.OK {
			t.Errorf("Pop: %d", int(e))
		}
		m.blocks = m.blocks[:len(m.blocks)-1]
	}
	tells(t, "behind Pop of all", c, *m)
}

func TestSpent(t *testing.T) {
	c, m := begun(t)
	spent := func(what string, p api.Point, x coin.Tx, deep int) {
		t.Helper()
		if got, n := c.Spent(p); n != deep || !coin.Same(got, x) {
			t.Errorf("Spent, %s = %x, %d; want %x, %d", what, got, n, x, deep)
		}
	}
	spent("of a new chain", at(0), coin.Tx{}, 0)
	push(t, "the first", c, m, m.next(send(0), send(1), claim()))
	spent("in the last block", at(0), send(0), 1)
	spent("in the last block", at(1), send(1), 1)
	spent("by a claim's first input", at(lockA), claim(), 1)
	spent("by a claim's second input", at(topA), claim(), 1)
	push(t, "the second", c, m, m.next(sendOn(send(1)), open(2, 9)))
	push(t, "the third", c, m, m.next())
	spent("in an earlier block", at(0), send(0), 3)
	spent("by a claim in an earlier block", at(topA), claim(), 3)
	spent("of what a block made", madeBy(send(1), 0), sendOn(send(1)), 2)
	spent("of a payment by one that makes a channel", at(2), open(2, 9), 2)
	for _, p := range []api.Point{
		at(3), at(lockB), at(huge), at(many), {Tx: at(0).Tx, Out: -1}, {Tx: at(0).Tx, Out: 256}, {Tx: at(0).Tx, Out: math.MinInt}, {Tx: at(0).Tx, Out: math.MaxInt},
		madeBy(send(0), 0), madeBy(send(1), 1), madeBy(claim(), 0), madeBy(claim(), 1), madeBy(open(2, 9), 0), madeBy(sendOn(send(1)), 0),
		madeBy(send(5), 0), {}, {Tx: hash(1)}, {Tx: at(0).Tx[:15]}, {Tx: at(0).Tx + "x"}, {Tx: "", Out: 1}, {Tx: c.Tip()}, {Tx: coin.ID(send(1)), Out: 256},
	} {
		spent(fmt.Sprintf("in none: %x", p), p, coin.Tx{}, 0)
	}
	pop(t, "the third", c, m)
	spent("behind Pop", at(0), send(0), 2)
	spent("behind Pop, in the last block", madeBy(send(1), 0), sendOn(send(1)), 1)
	pop(t, "the second", c, m)
	spent("in what was popped", madeBy(send(1), 0), coin.Tx{}, 0)
	spent("in what was popped", at(2), coin.Tx{}, 0)
	spent("behind Pop, in the last block", at(lockA), claim(), 1)
	push(t, "another second", c, m, m.next(send(2)))
	spent("by another one than what was popped", at(2), send(2), 1)
	pop(t, "another second", c, m)
	pop(t, "the first", c, m)
	spent("in all that was popped", at(lockA), coin.Tx{}, 0)
}

// Of all inputs of a transaction each is asked.
func TestSpentOfEachInput(t *testing.T) {
	c, m := begun(t)
	x := coin.Tx{Outs: []coin.Out{pay(100+101+102+103-10, root("client"))}}
	for i := range 4 {
		x.Ins = append(x.Ins, coin.In{From: at(3 - i), Path: coin.Plain})
	}
	x = signed("client", x)
	push(t, "four inputs", c, m, m.next(send(4), x, send(5)))
	for i := range 8 {
		got, deep := c.Spent(at(i))
		switch {
		case i < 4 && deep == 1 && coin.Same(got, x), i > 3 && i < 6 && deep == 1 && coin.Same(got, send(i)), i > 5 && deep == 0:
		default:
			t.Errorf("Spent of output %d = %x, %d", i, got, deep)
		}
	}
}
