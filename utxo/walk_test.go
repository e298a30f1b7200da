package utxo

import (
	"fmt"
	"math"
	"math/rand"
	"slices"
	"testing"

	"turnstile/api"
	"turnstile/coin"
	"turnstile/note"
)

// P11.4

func TestNothingIsSpentTwice(t *testing.T) {
	for name, d := range map[string]draft{"plain": plain(), "refund": refund(), "claim": claim()} {
		s, x := begun(t), d.tx()
		if e := s.Apply(x, d.height); e != api.OK {
			t.Fatal(int(e))
		}
		checks(t, name+", twice", s, x, d.height, api.ErrNone)
		for i, in := range d.ins {
			alone := draft{ins: []spend{in}, outs: []coin.Out{pay(1, hash(1))}}
			checks(t, fmt.Sprintf("input %d of %s, alone", i, name), s, alone.tx(), d.height, api.ErrNone)
			// The same place, twice in one transaction, may not be.
			twice := draft{ins: []spend{in, in}, outs: []coin.Out{pay(1, hash(1))}}
			drafted(t, fmt.Sprintf("input %d of %s, twice", i, name), twice, api.ErrForm)
		}
	}
}

// walker makes transactions that may be, of what is there.
type walker struct {
	r   *rand.Rand
	all []Entry
	at  int // the height
}

// seeds are all owners.
var seeds = []string{"client", "other", "gate"}

// owner is the seed of a root.
func owner(key string) string {
	for _, seed := range seeds {
		if root(seed) == key {
			return seed
		}
	}
	return ""
}

// pick are up to four of those that fit, in an order by chance.
func (w *walker) pick(fits func(e Entry) bool) []Entry {
	var l []Entry
	for _, i := range w.r.Perm(len(w.all)) {
		if len(l) < 1+w.r.Intn(4) && fits(w.all[i]) {
			l = append(l, w.all[i])
		}
	}
	return l
}

// spending is a draft that spends entries on a path.
func (w *walker) spending(l []Entry, path int) (draft, uint64) {
	d, whole := draft{height: w.at}, uint64(0)
	for _, e := range l {
		by := owner(e.O.Key)
		if path == coin.Claim {
			by = owner(e.O.Gate)
		}
		d.ins = append(d.ins, spend{from: e.P, path: path, by: by})
		whole += e.O.Amount
	}
	return d, whole
}

// outputs are some of so much together, of all kinds.
func (w *walker) outputs(whole uint64) []coin.Out {
	var l []coin.Out
	for n := w.r.Intn(4); n > 0 && whole > 1; n-- {
		amount := 1 + uint64(w.r.Int63n(int64(whole-1)))
		l, whole = append(l, w.output(amount)), whole-amount
	}
	return append(l, w.output(whole))
}

// output is one of so much.
func (w *walker) output(amount uint64) coin.Out {
	client := seeds[w.r.Intn(2)]
	switch w.r.Intn(4) {
	case 0:
		o := lock(amount, w.at+1+w.r.Intn(10))
		o.Key = root(client)
		return o
	case 1:
		for _, e := range w.pick(func(e Entry) bool { return e.O.Kind == coin.Lock }) {
			return coin.Out{Kind: coin.Top, Amount: amount, Key: e.O.Key, Gate: e.O.Gate, Expiry: e.O.Expiry, Of: nameOf(e.P)}
		}
	}
	return pay(amount, root(seeds[w.r.Intn(3)]))
}

// claim is one of what a lock and some more for it have together.
func (w *walker) claim() (draft, uint64, bool) {
	l := w.pick(func(e Entry) bool { return e.O.Kind == coin.Lock })
	if len(l) == 0 {
		return draft{}, 0, false
	}
	name := nameOf(l[0].P)
	more := w.pick(func(e Entry) bool { return e.O.Kind == coin.Top && e.O.Of == name })
	d, whole := w.spending(append(l[:1:1], more[:min(len(more), 3)]...), coin.Claim)
	if whole < 11 {
		return draft{}, 0, false
	}
	worth := 11 + uint64(w.r.Int63n(int64(whole-10)))
	if w.r.Intn(5) == 0 {
		worth = whole
	}
	d.proof = note.Proof{Amount: worth, Sig: signature(owner(l[0].O.Key), note.Voucher(name, worth))}
	d.outs = []coin.Out{pay(worth-10, l[0].O.Gate)}
	if whole > worth {
		d.outs = append(d.outs, pay(whole-worth, l[0].O.Key))
	}
	return d, worth, true
}

// draft is one that may be, what a claim's proof is worth, and whether there is one.
func (w *walker) draft() (draft, uint64, bool) {
	var d draft
	var whole uint64
	switch w.r.Intn(3) {
	case 0:
		d, whole = w.spending(w.pick(func(e Entry) bool { return e.O.Kind == coin.Pay }), coin.Plain)
	case 1:
		d, whole = w.spending(w.pick(func(e Entry) bool { return e.O.Kind != coin.Pay && e.O.Expiry <= w.at }), coin.Refund)
	default:
		return w.claim()
	}
	if whole < 11 {
		return d, 0, false
	}
	d.outs = w.outputs(whole - 10)
	return d, 0, true
}

func TestWhatIsAppliedMakesTheTotalLess(t *testing.T) {
	paths := [4]int{}
	for round := range 6 {
		var l []coin.Out
		for i := range 40 {
			l = append(l, pay(uint64(500+i), root(seeds[i%3])))
		}
		s := made(t, "payments", l)
		w := &walker{r: rand.New(rand.NewSource(int64(round))), all: s.All()}
		total, _ := s.Total()
		var done []coin.Tx
		for range 250 {
			w.at += w.r.Intn(2)
			d, worth, is := w.draft()
			if !is {
				continue
			}
			x := d.tx()
			checks(t, "a walk", s, x, w.at, api.OK)
			if e := s.Apply(x, w.at); e != api.OK {
				t.Fatalf("a walk: %d", int(e))
			}
			w.all = behind(w.all, x)
			paths[d.ins[0].path]++
			done = append(done, x)
			total -= 10
			if got, e := s.Total(); got != total || e != api.OK || !slices.Equal(s.All(), w.all) {
				t.Fatalf("Total = %d, %d; want %d", got, int(e), total)
			}
			if d.ins[0].path == coin.Claim && (x.Outs[0].Key != root("gate") || x.Outs[0].Amount != worth-10) {
				t.Errorf("a claim of %d pays %d", worth, x.Outs[0].Amount)
			}
		}
		// What was done is done no more: what it spends is spent.
		for _, x := range done {
			if e := s.Check(x, w.at); e != api.ErrNone {
				t.Errorf("done twice: %d", int(e))
			}
		}
	}
	if paths[coin.Plain] < 50 || paths[coin.Claim] < 50 || paths[coin.Refund] < 30 {
		t.Errorf("paths: %d", paths)
	}
}

// botch makes something in a draft another one, by chance.
func botch(r *rand.Rand, d *draft, all []Entry) {
	i, o := r.Intn(len(d.ins)), &d.outs[r.Intn(len(d.outs))]
	switch r.Intn(14) {
	case 0:
		d.ins[i].from = all[r.Intn(len(all))].P
	case 1:
		d.ins[i].from.Out += r.Intn(3) - 1
	case 2:
		d.ins[i].path = r.Intn(5)
	case 3:
		d.ins[i].by = []string{"client", "other", "gate", ""}[r.Intn(4)]
	case 4:
		o.Amount += uint64(r.Intn(3)) - 1
	case 5:
		o.Key = root(seeds[r.Intn(3)])
	case 6:
		o.Expiry += r.Intn(3) - 1
	case 7:
		o.Of = nameOf(all[r.Intn(len(all))].P)
	case 8:
		d.height += r.Intn(21) - 10
	case 9:
		d.proof.Amount += uint64(r.Intn(3)) - 1
	case 10:
		d.proof.Token = token("tokens", r.Intn(6))
	case 11:
		d.proof = note.Proof{}
	case 12:
		d.outs = append(d.outs, pay(1, root("gate")))
	case 13:
		o.Amount = math.MaxUint64 - uint64(r.Intn(12))
	}
}

func TestCheckOfManyThatWereBotched(t *testing.T) {
	seen := map[api.Errno]int{}
	for round := range 6 {
		s := begun(t)
		w := &walker{r: rand.New(rand.NewSource(int64(100 + round))), all: s.All()}
		// The greatest amount would leave no room for any other one.
		w.all = slices.DeleteFunc(w.all, func(e Entry) bool { return e.P == at(huge) })
		s = holding(w.all...)
		for range 400 {
			w.at += w.r.Intn(8) / 7
			d, _, is := w.draft()
			if !is {
				continue
			}
			for range 1 + w.r.Intn(3) {
				botch(w.r, &d, w.all)
			}
			x := d.tx()
			e := judge(w.all, x, d.height)
			seen[e]++
			checks(t, "botched", s, x, d.height, e)
			if w.r.Intn(60) == 0 && e == api.OK {
				s.Apply(x, d.height)
				w.all = s.All()
			}
		}
	}
	for _, e := range []api.Errno{api.OK, api.ErrOver, api.ErrForm, api.ErrNone, api.ErrSig, api.ErrLow, api.ErrLate, api.ErrRule} {
		if seen[e] < 10 {
			t.Errorf("the error %d is told %d times", int(e), seen[e])
		}
	}
}

func TestAnswersAreTheSameEachTime(t *testing.T) {
	for range 20 {
		s := begun(t)
		all, name := s.All(), chanA()
		where, _ := s.Lock(name)
		total, e := s.Total()
		for range 5 {
			if got, is := s.Lock(name); got != where || !is || !slices.Equal(s.All(), all) {
				t.Error("the set is told otherwise the second time")
			}
			if n, f := s.Total(); n != total || f != e {
				t.Errorf("Total = %d, %d", n, int(f))
			}
			if s.Check(claim().tx(), 99) != api.OK || s.Check(plain().tx(), 12) != api.ErrLate {
				t.Error("a transaction is told otherwise the second time")
			}
		}
		if again := begun(t).All(); !slices.Equal(again, all) {
			t.Error("another set of the same outputs is told otherwise")
		}
	}
}
