package chain

import (
	"fmt"
	"math/rand"
	"slices"
	"testing"

	"turnstile/api"
	"turnstile/block"
	"turnstile/coin"
	"turnstile/utxo"
)

// P12.5

func TestWhatIsPoppedAndPushedAgain(t *testing.T) {
	c, m := grown(t)
	push(t, "the fourth", c, m, m.next(send(5), sendOn(send(5))))
	push(t, "the fifth", c, m, m.next(refund(lockB), send(6)))
	all, tip := c.Set().All(), c.Tip()
	for n := 1; n <= 5; n++ {
		var l []block.Block
		for range n {
			l = append(l, pop(t, fmt.Sprintf("of %d", n), c, m))
		}
		slices.Reverse(l)
		for _, b := range l {
			push(t, fmt.Sprintf("again, of %d", n), c, m, b)
		}
		if !slices.Equal(c.Set().All(), all) || c.Tip() != tip || c.Height() != 5 {
			t.Errorf("behind Pop and Push of %d the chain is another one", n)
		}
	}
}

// What was popped can be pushed at its own place alone.
func TestWhatIsPoppedFitsItsPlaceAlone(t *testing.T) {
	c, m := grown(t)
	third := pop(t, "the third", c, m)
	second := pop(t, "the second", c, m)
	refuses(t, "the third, without the second", c, m, third, api.ErrRule)
	push(t, "another second", c, m, m.next(send(9)))
	refuses(t, "the third, behind another second", c, m, third, api.ErrRule)
	refuses(t, "the second, behind another second", c, m, second, api.ErrRule)
	pop(t, "another second", c, m)
	push(t, "the second", c, m, second)
	push(t, "the third", c, m, third)
	refuses(t, "the third, twice", c, m, third, api.ErrRule)
}

// walker goes ways by chance, on chains and their models.
type walker struct {
	r      *rand.Rand
	chains []*Chain
	models []model
	pool   []coin.Tx
	told   map[api.Errno]int // how often Push told what
	popped int
}

// seeds are all owners.
var seeds = []string{"client", "other"}

// owner is the seed of a root.
func owner(key string) string {
	for _, seed := range seeds {
		if root(seed) == key {
			return seed
		}
	}
	return "gate"
}

// spending is a transaction of something in a set, at times one that is not done.
func (w *walker) spending(all []utxo.Entry, height int) (coin.Tx, bool) {
	e := all[w.r.Intn(len(all))]
	if e.O.Amount < 40 || e.O.Kind == coin.Top {
		return coin.Tx{}, false
	}
	path := coin.Plain
	if e.O.Kind == coin.Lock {
		path = coin.Refund
	}
	by, whole := owner(e.O.Key), e.O.Amount-10
	half := whole / uint64(2+w.r.Intn(2))
	outs := []coin.Out{pay(half, root(seeds[w.r.Intn(2)])), pay(whole-half, root(seeds[w.r.Intn(2)]))}
	switch w.r.Intn(12) {
	case 0, 1, 2:
		outs[1] = lock(whole-half, height+w.r.Intn(4)+1)
	case 3:
		outs = []coin.Out{pay(whole, root("client"))}
	case 4:
		outs[0].Amount++
	case 5:
		by = "gate"
	}
	return tx(by, e.P, path, outs...), true
}

// fill puts more transactions into the pool, and takes some out.
func (w *walker) fill(m model) {
	all := m.set()
	for range 3 {
		if x, is := w.spending(all, len(m.blocks)+1); is {
			w.pool = append(w.pool, x)
			if w.r.Intn(3) == 0 {
				w.pool = append(w.pool, tx(owner(x.Outs[0].Key), madeBy(x, 0), coin.Plain, pay(x.Outs[0].Amount-10, root("other"))))
			}
		}
	}
	w.pool = w.pool[max(0, len(w.pool)-25):]
}

// some are up to so many of the pool, in an order by chance.
func (w *walker) some(n int) []coin.Tx {
	var l []coin.Tx
	for _, i := range w.r.Perm(len(w.pool))[:min(n, len(w.pool))] {
		l = append(l, w.pool[i])
	}
	return l
}

// judge is what Push tells of a block, and which of its transactions Make takes, by the blocks of a model done one by one.
func judge(t *testing.T, m model, b block.Block) (api.Errno, []coin.Tx) {
	t.Helper()
	s, _ := utxo.New(m.l)
	for _, ahead := range m.blocks {
		for _, x := range ahead.Txs {
			if e := s.Apply(x, ahead.Height); e != api.OK {
				t.Fatalf("what is in a block is not done: %d", int(e))
			}
		}
	}
	var first api.Errno
	var taken []coin.Tx
	for _, x := range b.Txs {
		if len(taken) == 8 {
			break
		}
		if e := s.Apply(x, len(m.blocks)+1); e == api.OK {
			taken = append(taken, x)
		} else if first == api.OK {
			first = e
		}
	}
	switch {
	case !block.Right(b):
		return api.ErrForm, taken
	case b.Height != len(m.blocks)+1 || b.Prev != m.tip():
		return api.ErrRule, taken
	}
	return first, taken
}

// step does one thing, to the i-th chain.
func (w *walker) step(t *testing.T, i int) {
	c, m := w.chains[i], &w.models[i]
	switch w.r.Intn(12) {
	case 0, 1, 2, 3:
		l := w.some(4)
		_, taken := judge(t, *m, m.next(l...))
		b := c.Make(l)
		if !block.Same(b, m.next(taken...)) {
			t.Fatalf("Make takes %d; want %d", len(b.Txs), len(taken))
		}
		push(t, "what was made", c, m, b)
	case 4, 5, 6:
		w.pushSome(t, c, m)
	case 7, 8:
		for n := w.r.Intn(3); n > 0 && len(m.blocks) > 0; n-- {
			b := pop(t, "by chance", c, m)
			w.popped++
			if w.r.Intn(2) == 0 {
				push(t, "again", c, m, b)
			}
		}
	case 9:
		other := w.r.Intn(len(w.chains))
		w.chains[other], w.models[other] = c.Copy(), m.copy()
	case 10:
		s := c.Set()
		for _, x := range w.some(5) {
			s.Apply(x, 9)
		}
	default:
		w.fill(*m)
	}
}

// pushSome pushes a block that may be refused.
func (w *walker) pushSome(t *testing.T, c *Chain, m *model) {
	b := m.next(w.some(w.r.Intn(4))...)
	switch w.r.Intn(12) {
	case 0:
		b.Height += w.r.Intn(5) - 2
	case 1:
		b.Prev = []string{beginning(m.l), hash(1), "", root("client")}[w.r.Intn(4)]
	case 2:
		b.Txs = append(b.Txs, coin.Tx{})
	}
	e, _ := judge(t, *m, b)
	w.told[e]++
	if e == api.OK {
		push(t, "by chance", c, m, b)
	} else {
		refuses(t, "by chance", c, m, b, e)
	}
}

func TestWaysByChance(t *testing.T) {
	told, popped, highest := map[api.Errno]int{}, 0, 0
	for round := range 5 {
		w := &walker{r: rand.New(rand.NewSource(int64(round))), told: told}
		var l []coin.Out
		for i := range 20 {
			l = append(l, pay(uint64(500+i), root(seeds[i%2])))
		}
		for range 3 {
			c, e := New(l)
			if e != api.OK {
				t.Fatal(int(e))
			}
			w.chains, w.models = append(w.chains, c), append(w.models, model{l: l})
		}
		for range 160 {
			i := w.r.Intn(3)
			if w.r.Intn(2) == 0 {
				w.fill(w.models[i])
			}
			w.step(t, i)
			highest = max(highest, len(w.models[i].blocks))
		}
		for i := range w.chains {
			// What is in none of a chain's blocks is told as 0.
			w.models[i].gone = w.pool
			tells(t, "at the end", w.chains[i], w.models[i])
		}
		popped += w.popped
	}
	for _, e := range []api.Errno{api.OK, api.ErrForm, api.ErrNone, api.ErrSig, api.ErrRule} {
		if told[e] < 5 {
			t.Errorf("Push tells %d %d times", int(e), told[e])
		}
	}
	if popped < 20 || highest < 8 {
		t.Errorf("%d blocks were popped; the highest was %d", popped, highest)
	}
}

func TestAnswersAreTheSameEachTime(t *testing.T) {
	c, m := grown(t)
	for range 20 {
		d, n := grown(t)
		tells(t, "the same again", d, *m)
		tells(t, "the same again", c, *n)
		l := []coin.Tx{send(0), send(5), sendOn(send(5)), undones()[3].x}
		if !block.Same(c.Make(l), d.Make(l)) || !block.Same(c.Make(l), c.Make(l)) {
			t.Error("Make of the same is told otherwise")
		}
	}
}
