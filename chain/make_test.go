package chain

import (
	"fmt"
	"slices"
	"testing"

	"turnstile/api"
	"turnstile/block"
	"turnstile/coin"
)

// P12.3

// makes checks that Make takes just those of a list whose places in it are told, that it changes nothing, and that what it makes can be pushed.
func makes(t *testing.T, what string, c *Chain, m *model, l []coin.Tx, taken ...int) {
	t.Helper()
	given := roomy(block.Block{Txs: l})
	var want []coin.Tx
	for _, i := range taken {
		want = append(want, l[i])
	}
	b := c.Make(given.Txs)
	if !block.Same(b, m.next(want...)) {
		t.Errorf("Make, %s, is at %d, of %x, and has %d; want %d at %d, of %x", what, b.Height, b.Prev, len(b.Txs), len(want), len(m.blocks)+1, m.tip())
	}
	if !slices.EqualFunc(given.Txs, l, coin.Same) || !isWhole(given.Txs) {
		t.Errorf("Make, %s, changes its list, or the room behind it", what)
	}
	tells(t, "behind Make, "+what, c, *m)
	again := c.Make(given.Txs)
	spoil(given.Txs)
	if !block.Same(b, m.next(want...)) {
		t.Errorf("what Make makes, %s, shares a list with what it was handed", what)
	}
	spoil(again.Txs)
	if !block.Same(b, m.next(want...)) {
		t.Errorf("two answers of Make, %s, share a list", what)
	}
	d, n := c.Copy(), m.copy()
	if e := d.Push(b); e != api.OK {
		t.Errorf("Push of what Make makes, %s: %d", what, int(e))
	}
	n.blocks = append(n.blocks, m.next(want...))
	tells(t, "behind Push of what Make makes, "+what, d, n)
	spoil(b.Txs)
	tells(t, "behind a change of what Make makes, "+what, c, *m)
	tells(t, "behind a change of what Make made and Push took, "+what, d, n)
}

func TestMakeOfNothing(t *testing.T) {
	c, m := grown(t)
	makes(t, "of no list", c, m, nil)
	makes(t, "of an empty list", c, m, []coin.Tx{})
	for len(m.blocks) > 0 {
		pop(t, "one more", c, m)
		makes(t, "of nothing", c, m, nil)
	}
}

func TestMakeOfSomeThatAreRefused(t *testing.T) {
	c, m := begun(t)
	for _, f := range undones() {
		makes(t, f.name, c, m, []coin.Tx{f.x})
		makes(t, f.name+", ahead", c, m, []coin.Tx{f.x, send(4), send(5)}, 1, 2)
		makes(t, f.name+", between", c, m, []coin.Tx{send(4), f.x, f.x, send(5)}, 0, 3)
		makes(t, f.name+", behind", c, m, []coin.Tx{send(5), send(4), f.x}, 0, 1)
	}
	var all []coin.Tx
	var taken []int
	for i, f := range undones() {
		all = append(all, f.x)
		if i%3 == 0 {
			taken = append(taken, len(all))
			all = append(all, send(4+i/3))
		}
	}
	makes(t, "all that are refused, with some between", c, m, all, taken...)
	for i, x := range []coin.Tx{{}, {Ins: send(0).Ins}, {Outs: send(0).Outs}, tx("client", at(0), 4, pay(90, hash(1)))} {
		makes(t, fmt.Sprintf("one that may not be, %d", i), c, m, []coin.Tx{x, send(1), x}, 1)
	}
}

func TestMakeOfMoreThanFindRoom(t *testing.T) {
	c, m := begun(t)
	for n := range 14 {
		want := []int{0, 1, 2, 3, 4, 5, 6, 7}[:min(n, 8)]
		makes(t, fmt.Sprintf("of %d", n), c, m, fillers(0, n), want...)
	}
	// Those that are refused take no room.
	bad := undones()
	l := slices.Concat([]coin.Tx{bad[0].x, bad[3].x}, fillers(0, 4), []coin.Tx{send(1), bad[8].x}, fillers(4, 9))
	makes(t, "with some that are refused", c, m, l, 2, 3, 4, 5, 8, 9, 10, 11)
	// Of one that finds no room, nothing is spent or made.
	l = append(fillers(0, 9), sendOn(send(8)), sendOn(send(0)))
	makes(t, "with some of those", c, m, l, 0, 1, 2, 3, 4, 5, 6, 7)
	l = append(fillers(0, 7), sendOn(send(7)), sendOn(send(0)), send(7), sendOn(send(7)))
	makes(t, "of which the last is one of another", c, m, l, 0, 1, 2, 3, 4, 5, 6, 8)
}

func TestMakeOfSomeOfOneAnother(t *testing.T) {
	c, m := begun(t)
	a := send(0)
	b := sendOn(a)
	d := sendOn(b)
	other := tx("client", at(0), coin.Plain, pay(90, hash(1)))
	channel := open(2, 9)
	more := tx("client", at(3), coin.Plain, top(93, 9, nameOf(madeBy(channel, 0))))
	for _, l := range []struct {
		name  string
		l     []coin.Tx
		taken []int
	}{
		{"one twice", []coin.Tx{a, a}, []int{0}},
		{"one often", []coin.Tx{a, a, send(1), a, send(1), a}, []int{0, 2}},
		{"one, and one of it", []coin.Tx{a, b}, []int{0, 1}},
		{"three in a row", []coin.Tx{a, b, d}, []int{0, 1, 2}},
		{"three in the wrong order", []coin.Tx{d, b, a}, []int{2}},
		{"three in the wrong order, twice", []coin.Tx{d, b, a, d, b, a, d}, []int{2, 4, 6}},
		{"two of the same", []coin.Tx{a, other}, []int{0}},
		{"two of the same, the other first", []coin.Tx{other, a}, []int{0}},
		{"two of the same, and one of the second", []coin.Tx{other, a, b}, []int{0}},
		{"a channel, and more for it", []coin.Tx{channel, more}, []int{0, 1}},
		{"more for a channel, ahead of it", []coin.Tx{more, channel}, []int{1}},
		{"a claim, twice", []coin.Tx{claim(), claiming(80, proof(80, "")), claim()}, []int{0}},
	} {
		makes(t, l.name, c, m, l.l, l.taken...)
	}
}

func TestMakeBehindBlocks(t *testing.T) {
	c, m := grown(t)
	l := []coin.Tx{claim(), send(0), send(1), send(3), sendOn(sendOn(send(0))), open(5, 4), refund(lockB), open(4, 5)}
	makes(t, "behind three blocks", c, m, l, 3, 4, 7)
	push(t, "an empty one", c, m, m.next())
	makes(t, "behind four blocks", c, m, l, 3, 4, 6)
	pop(t, "the fourth", c, m)
	pop(t, "the third", c, m)
	makes(t, "behind two blocks", c, m, l, 3, 4, 5, 7)
	pop(t, "the second", c, m)
	makes(t, "behind one block", c, m, l, 2, 3, 5, 7)
	pop(t, "the first", c, m)
	makes(t, "behind none", c, m, l, 0, 1, 2, 3, 5, 7)
}
