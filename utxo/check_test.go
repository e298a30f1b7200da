package utxo

import (
	"fmt"
	"math"
	"slices"
	"testing"

	"turnstile/api"
	"turnstile/coin"
	"turnstile/note"
)

// P11.3

// fault is what can be wrong with a draft, and in which part of it.
type fault struct {
	name, part string
	e          api.Errno
	do         func(d *draft)
}

// from, by, path and outs are changes of a draft.
func from(i int, p api.Point) func(d *draft) { return func(d *draft) { d.ins[i].from = p } }
func by(i int, seed, sig string) func(*draft) {
	return func(d *draft) { d.ins[i].by, d.ins[i].sig = seed, sig }
}
func path(i, n int) func(d *draft) { return func(d *draft) { d.ins[i].path = n } }
func height(n int) func(d *draft)  { return func(d *draft) { d.height = n } }
func proof(do func(p *note.Proof)) func(d *draft) {
	return func(d *draft) { do(&d.proof) }
}
func out(i int, do func(o *coin.Out)) func(d *draft) {
	return func(d *draft) { do(&d.outs[i]) }
}

// mayNotBe are faults of drafts that may not be.
func mayNotBe() []fault {
	return []fault{
		{"a Sig of 401 bytes", "by 2", api.ErrForm, by(2, "", text(401))},
		{"an Out of 256", "from 1", api.ErrForm, from(1, api.Point{Tx: at(0).Tx, Out: 256})},
		{"a Tx of 15 bytes", "from 2", api.ErrForm, from(2, api.Point{Tx: text(15)})},
		{"a path of 4", "path", api.ErrForm, path(1, 4)},
		{"an amount of 0", "outs", api.ErrForm, out(0, func(o *coin.Out) { o.Amount = 0 })},
		{"a token of 3 bytes", "proof", api.ErrForm, proof(func(p *note.Proof) { p.Token = "abc" })},
		{"no outputs", "outs", api.ErrForm, func(d *draft) { d.outs = nil }},
	}
}

// isNotThere are faults of drafts that spend what is not there.
func isNotThere() []fault {
	return []fault{
		{"another Tx in the first input", "from 0", api.ErrNone, from(0, api.Point{Tx: hash(9)})},
		{"another Out in the first input", "from 0", api.ErrNone, from(0, api.Point{Tx: at(0).Tx, Out: 255})},
		{"another Out in the second input", "from 1", api.ErrNone, from(1, api.Point{Tx: at(0).Tx, Out: many})},
		{"another Tx in the last input", "from 2", api.ErrNone, from(2, api.Point{Tx: hash(8), Out: 1})},
	}
}

// otherPaths are faults of drafts whose inputs are on paths that differ, or of which one shows a proof.
func otherPaths(right int) []fault {
	var l []fault
	for i := range 3 {
		for _, n := range []int{right%3 + 1, (right+1)%3 + 1} {
			l = append(l, fault{fmt.Sprintf("the path %d of input %d", n, i), "path", api.ErrRule, path(i, n)})
		}
	}
	if right == coin.Claim {
		return l
	}
	return append(l,
		fault{"an amount in the proof", "proof", api.ErrRule, proof(func(p *note.Proof) { p.Amount = 1 })},
		fault{"a signature in the proof", "proof", api.ErrRule, proof(func(p *note.Proof) { p.Sig = "x" })},
		fault{"a token in the proof", "proof", api.ErrRule, proof(func(p *note.Proof) { p.Token = hash(1) })},
		fault{"a win in the proof", "proof", api.ErrRule, proof(func(p *note.Proof) { p.Wins = []note.Win{win(7, 20)} })},
		fault{"a claim's proof", "proof", api.ErrRule, proof(func(p *note.Proof) { *p = claim().proof })},
	)
}

// input is faults of the i-th input, in order: of what it spends, of when, and of who signed it.
func input(i int, kinds []int, late []int, others ...string) []fault {
	part := func(s string) string { return fmt.Sprintf("%s %d", s, i) }
	var l []fault
	for _, n := range kinds {
		l = append(l, fault{fmt.Sprintf("output %d in input %d", n, i), part("from"), api.ErrRule, from(i, at(n))})
	}
	for _, n := range late {
		l = append(l, fault{fmt.Sprintf("a height of %d, for input %d", n, i), "height", api.ErrLate, height(n)})
	}
	for _, seed := range others {
		l = append(l, fault{fmt.Sprintf("input %d signed by %s", i, seed), part("by"), api.ErrSig, by(i, seed, "")})
	}
	return append(l,
		fault{part("no signature of"), part("by"), api.ErrSig, by(i, "", "")},
		fault{part("a signature of nothing, in"), part("by"), api.ErrSig, func(d *draft) { d.ins[i].sig = signature(d.ins[i].by, "") }},
		fault{part("a signature of another core, in"), part("by"), api.ErrSig, func(d *draft) {
			other := draft{ins: slices.Clone(d.ins), outs: []coin.Out{pay(1, hash(1))}}
			d.ins[i].sig = signature(d.ins[i].by, coin.Core(other.tx()))
		}})
}

// sums are faults of what the outputs have together: at present they have so much.
func sums(now uint64) []fault {
	add := func(n uint64) func(d *draft) { return out(0, func(o *coin.Out) { o.Amount += n }) }
	return []fault{
		{"outputs 9 below the inputs", "outs", api.ErrRule, add(1)},
		{"outputs 11 below the inputs", "outs", api.ErrRule, add(math.MaxUint64)},
		{"outputs as the inputs", "outs", api.ErrRule, add(10)},
		{"outputs above the inputs", "outs", api.ErrRule, add(11)},
		{"outputs that just find room with the fee", "outs", api.ErrRule, add(math.MaxUint64 - 10 - now)},
		{"outputs that find no room with the fee", "outs", api.ErrOver, add(math.MaxUint64 - 9 - now)},
		{"outputs that just find room", "outs", api.ErrOver, add(math.MaxUint64 - now)},
		{"outputs that find no room", "outs", api.ErrOver, add(math.MaxUint64 - now + 1)},
	}
}

// making are faults of a lock, the second output, and of more for one, the third: the lock at the height is late.
func making(at int, other string) []fault {
	change := func(do func(o *coin.Out)) func(d *draft) { return out(2, do) }
	return []fault{
		{"a height as the lock's Expiry", "height", api.ErrLate, height(at + 1)},
		{"a lock whose Expiry is at the height", "out 1", api.ErrLate, out(1, func(o *coin.Out) { o.Expiry = at })},
		{"a lock whose Expiry is below the height", "out 1", api.ErrLate, out(1, func(o *coin.Out) { o.Expiry = at - 1 })},
		{"a lock whose Expiry is 1", "out 1", api.ErrLate, out(1, func(o *coin.Out) { o.Expiry = 1 })},
		{"more for what is not there", "out 2", api.ErrRule, change(func(o *coin.Out) { o.Of = hash(5) })},
		{"more for a payment", "out 2", api.ErrRule, change(func(o *coin.Out) { o.Of = other })},
		{"more of another Key", "out 2", api.ErrRule, change(func(o *coin.Out) { o.Key = root("other") })},
		{"more of another Gate", "out 2", api.ErrRule, change(func(o *coin.Out) { o.Gate = root("other") })},
		{"more of Key and Gate in each other's place", "out 2", api.ErrRule, change(func(o *coin.Out) { o.Key, o.Gate = o.Gate, o.Key })},
		{"more of a later Expiry", "out 2", api.ErrRule, change(func(o *coin.Out) { o.Expiry++ })},
		{"more of an earlier Expiry", "out 2", api.ErrRule, change(func(o *coin.Out) { o.Expiry-- })},
	}
}

// proofs are faults of what a claim shows.
func proofs() []fault {
	show := func(do func(p *note.Proof)) func(d *draft) { return proof(do) }
	wins := func(l ...note.Win) func(d *draft) { return show(func(p *note.Proof) { p.Wins = l }) }
	return []fault{
		{"a voucher signed by another", "proof", api.ErrSig, show(func(p *note.Proof) { p.Sig = signature("gate", note.Voucher(chanA(), p.Amount)) })},
		{"a voucher of another amount", "proof", api.ErrSig, show(func(p *note.Proof) { p.Amount = 71 })},
		{"a voucher of another channel", "proof", api.ErrSig, show(func(p *note.Proof) { p.Sig = signature("client", note.Voucher(chanB(), p.Amount)) })},
		{"a signature without an amount", "proof", api.ErrSig, show(func(p *note.Proof) { p.Amount = 0 })},
		{"an amount without a signature", "proof", api.ErrSig, show(func(p *note.Proof) { p.Sig = "" })},
		{"a token too far", "proof", api.ErrForm, show(func(p *note.Proof) { p.Token = token("tokens", 5) })},
		{"a token of another chain", "proof", api.ErrForm, show(func(p *note.Proof) { p.Token = token("more tokens", 3) })},
		{"a win of another channel", "proof", api.ErrRule, wins(win(7, 20), win(8, 30, func(w *note.Win) { w.T.Chan = chanB() }))},
		{"a win twice", "proof", api.ErrTwice, wins(win(7, 20), win(7, 30))},
		{"a win of none", "proof", api.ErrArg, wins(win(7, 20), win(8, 30, func(w *note.Win) { w.T.Many = 0 }))},
		{"a win that is not signed", "proof", api.ErrSig, wins(note.Win{T: note.Ticket{Chan: chanA(), Wins: 1, Many: 4, Commit: hash(1)}})},
		{"a win that does not open", "proof", api.ErrForm, wins(win(7, 20, func(w *note.Win) { w.Salt = "pepper" }))},
		{"a win that does not win", "proof", api.ErrRule, wins(win(7, 20, func(w *note.Win) { w.T.Client = 6 }))},
		{"wins that find no room", "proof", api.ErrOver, wins(win(7, math.MaxUint64), win(8, 1))},
		{"nothing", "proof", api.ErrLow, show(func(p *note.Proof) { *p = note.Proof{} })},
		{"a worth of 10", "proof", api.ErrLow, show(func(p *note.Proof) { *p = vouched(10, "") })},
		{"a worth of one above the whole", "proof", api.ErrLow, show(func(p *note.Proof) { *p = vouched(176, "") })},
		{"a worth of 2^64 - 1", "proof", api.ErrLow, show(func(p *note.Proof) { *p = vouched(math.MaxUint64, "") })},
	}
}

// claimed are faults of a claim's outputs, whose sum is right.
func claimed() []fault {
	outs := func(l ...coin.Out) func(d *draft) { return func(d *draft) { d.outs = l } }
	gate, client := root("gate"), root("client")
	return []fault{
		{"outputs in the other order", "outs", api.ErrRule, outs(pay(40, client), pay(125, gate))},
		{"one more for the gate", "outs", api.ErrRule, outs(pay(126, gate), pay(39, client))},
		{"one more for the client", "outs", api.ErrRule, outs(pay(124, gate), pay(41, client))},
		{"amounts in each other's place", "outs", api.ErrRule, outs(pay(40, gate), pay(125, client))},
		{"another key for the gate", "outs", api.ErrRule, outs(pay(125, hash(1)), pay(40, client))},
		{"another key for the client", "outs", api.ErrRule, outs(pay(125, gate), pay(40, hash(1)))},
		{"all to the gate", "outs", api.ErrRule, outs(pay(165, gate))},
		{"all to the client", "outs", api.ErrRule, outs(pay(165, client))},
		{"three outputs", "outs", api.ErrRule, outs(pay(125, gate), pay(39, client), pay(1, client))},
		{"the gate's output in two", "outs", api.ErrRule, outs(pay(124, gate), pay(1, gate), pay(40, client))},
		{"a lock of another Key", "outs", api.ErrRule, outs(pay(125, gate), lock(40, 99999))},
		{"more for the channel", "outs", api.ErrRule, outs(pay(125, gate), top(40, 20, chanA()))},
		{"a lock that is late", "outs", api.ErrRule, outs(pay(125, gate), lock(40, 1))},
	}
}

// faults are all that can be wrong with a plain draft, a refund and a claim, in the order in which it is told.
func faults() (ofPlain, ofRefund, ofClaim []fault) {
	ofPlain = slices.Concat(mayNotBe(), isNotThere(), otherPaths(coin.Plain),
		input(0, []int{lockA, topA}, nil, "gate", "other"), input(1, []int{lockB, topB}, nil, "gate", "other"), input(2, []int{lockC, topC}, nil, "gate", "client"),
		sums(170), making(11, nameOf(at(payA))))
	ofRefund = slices.Concat(mayNotBe(), isNotThere(), otherPaths(coin.Refund),
		input(0, []int{payA}, []int{19, 0, -1}, "gate", "other"), input(1, []int{payB}, []int{29, 20}, "gate"), input(2, []int{payC}, nil, "gate"),
		sums(210), making(30, nameOf(at(topC))))
	another := fault{"another lock ahead", "from 0", api.ErrRule, from(0, at(lockB))}
	ofClaim = slices.Concat(mayNotBe(), isNotThere(), otherPaths(coin.Claim),
		input(0, []int{payA, topC}, nil, "client", "other"), []fault{another}, input(1, []int{payB, lockC, topD}, nil, "client"), input(2, []int{payC, huge, topE}, nil, "client", "other"),
		sums(165), proofs(), claimed())
	return ofPlain, ofRefund, ofClaim
}

func TestCheckOfWhatMayBe(t *testing.T) {
	for name, make := range map[string]func() draft{"plain": plain, "refund": refund, "claim": claim} {
		drafted(t, name, make(), api.OK)
	}
	d := plain()
	d.ins, d.outs[0].Amount = d.ins[:2], 10
	drafted(t, "plain, of two inputs", d, api.OK)
	d.ins, d.outs = d.ins[:1], []coin.Out{pay(90, root("client"))}
	drafted(t, "plain, of one input", d, api.OK)
	d = refund()
	d.ins, d.outs[0].Amount = append(d.ins, spend{from: at(topB), path: coin.Refund, by: "client"}), 125
	drafted(t, "a refund of four inputs", d, api.OK)
	d.ins, d.outs = d.ins[3:], []coin.Out{pay(1, hash(1)), pay(2, hash(2)), pay(3, hash(1)), pay(9, hash(1))}
	drafted(t, "a refund of more for a channel, to four", d, api.OK)
	drafted(t, "nothing", draft{}, api.ErrForm)
}

// eachFault checks each fault of a draft alone, and each two of them.
func eachFault(t *testing.T, make func() draft, l []fault) {
	t.Helper()
	for i, f := range l {
		d := make()
		f.do(&d)
		drafted(t, f.name, d, f.e)
		for _, g := range l[i+1:] {
			if g.part == f.part {
				continue
			}
			// What is told comes last, as it may take away what the other one is in.
			d := make()
			g.do(&d)
			f.do(&d)
			drafted(t, f.name+", and "+g.name, d, f.e)
		}
	}
}

func TestCheckOfAPlainOneWithFaults(t *testing.T) {
	l, _, _ := faults()
	eachFault(t, plain, l)
}

func TestCheckOfARefundWithFaults(t *testing.T) {
	_, l, _ := faults()
	eachFault(t, refund, l)
}

func TestCheckOfAClaimWithFaults(t *testing.T) {
	_, _, l := faults()
	eachFault(t, claim, l)
}

func TestCheckOfHeights(t *testing.T) {
	for _, height := range []int{math.MinInt, -1, 0, 1, 18, 19, 20, 21, 29, 30, 31, 1<<32 - 1, 1 << 32, math.MaxInt} {
		for i, expiry := range map[int]int{lockA: 20, topA: 20, lockB: 30, topC: 30} {
			whole := first()[i].Amount
			d := draft{ins: []spend{{from: at(i), path: coin.Refund, by: "client"}}, outs: []coin.Out{pay(whole-10, hash(1))}, height: height}
			e := api.OK
			if height < expiry {
				e = api.ErrLate
			}
			drafted(t, fmt.Sprintf("a refund of %d at %d", i, height), d, e)
		}
		for _, expiry := range []int{1, 2, 19, 20, 21, 30, 31, 1<<32 - 1} {
			e := api.OK
			if expiry <= height {
				e = api.ErrLate
			}
			for n := range 3 {
				d := draft{ins: []spend{{from: at(payA), path: coin.Plain, by: "client"}}, outs: []coin.Out{pay(20, hash(1)), pay(30, hash(2)), pay(40, hash(3))}, height: height}
				d.outs[n] = lock(d.outs[n].Amount, expiry)
				drafted(t, fmt.Sprintf("a lock up to %d at %d", expiry, height), d, e)
			}
		}
		// Of payments, of more for a channel, and of claims, no height is asked.
		d := draft{ins: []spend{{from: at(payA), path: coin.Plain, by: "client"}}, outs: []coin.Out{top(90, 20, chanA())}, height: height}
		drafted(t, fmt.Sprintf("more at %d", height), d, api.OK)
		d = claim()
		d.height = height
		drafted(t, fmt.Sprintf("a claim at %d", height), d, api.OK)
	}
}

// The amounts of what is spent find no room together, whatever is made of them.
func TestCheckOfInputsThatFindNoRoom(t *testing.T) {
	in := func(i, path int, by string) spend { return spend{from: at(i), path: path, by: by} }
	for _, n := range []uint64{1, 90, math.MaxUint64 - 10, math.MaxUint64} {
		d := draft{ins: []spend{in(huge, coin.Plain, "client"), in(payB, coin.Plain, "client")}, outs: []coin.Out{pay(n, hash(1))}}
		drafted(t, "payments", d, api.ErrOver)
		d.ins[0], d.ins[1] = d.ins[1], d.ins[0]
		drafted(t, "payments in the other order", d, api.ErrOver)
		d.outs = append(d.outs, lock(1, 1))
		drafted(t, "payments, to a lock that is late", d, api.ErrOver)
	}
	d := draft{ins: []spend{in(huge, coin.Plain, "client")}, outs: []coin.Out{pay(math.MaxUint64-10, hash(1))}}
	drafted(t, "the greatest amount", d, api.OK)
	for _, n := range []uint64{1, 2, 9, 10} {
		d.outs[0].Amount = math.MaxUint64 - 10 + n
		drafted(t, "too much of the greatest amount", d, api.ErrOver)
		d.outs[0].Amount = math.MaxUint64 - 10 - n
		drafted(t, "too little of the greatest amount", d, api.ErrRule)
	}
	// Sums that would be right modulo 2^64.
	l := []coin.Out{pay(1<<63, root("client")), pay(1<<63, root("client")), pay(110, root("client")), lock(1<<63, 5), lock(1<<63, 5)}
	for i, d := range []draft{
		{ins: []spend{{from: placeOf(l, 0), path: coin.Plain, by: "client"}, {from: placeOf(l, 1), path: coin.Plain, by: "client"}, {from: placeOf(l, 2), path: coin.Plain, by: "client"}}, outs: []coin.Out{pay(100, hash(1))}},
		{ins: []spend{{from: placeOf(l, 2), path: coin.Plain, by: "client"}}, outs: []coin.Out{pay(1<<63, hash(1)), pay(1<<63, hash(1)), pay(100, hash(1))}},
		{ins: []spend{{from: placeOf(l, 3), path: coin.Refund, by: "client"}, {from: placeOf(l, 4), path: coin.Refund, by: "client"}}, outs: []coin.Out{pay(1, hash(1))}, height: 5},
	} {
		checks(t, fmt.Sprintf("sums %d", i), made(t, "great amounts", l), d.tx(), d.height, api.ErrOver)
	}
}

func TestCheckOfTheFee(t *testing.T) {
	for _, c := range []struct {
		i    int
		path int
		by   string
	}{{payA, coin.Plain, "client"}, {payB, coin.Plain, "client"}, {payC, coin.Plain, "other"}, {lockA, coin.Refund, "client"}, {topC, coin.Refund, "client"}} {
		whole := first()[c.i].Amount
		for paid := uint64(1); paid <= whole+12; paid++ {
			e := api.ErrRule
			if paid == whole-10 {
				e = api.OK
			}
			d := draft{ins: []spend{{from: at(c.i), path: c.path, by: c.by}}, outs: []coin.Out{pay(paid, hash(1))}, height: 50}
			drafted(t, fmt.Sprintf("%d of %d", paid, whole), d, e)
		}
	}
	// Of 10 and less nothing can be paid.
	for amount := uint64(1); amount < 13; amount++ {
		l := []coin.Out{pay(amount, root("client"))}
		for paid := uint64(1); paid < 13; paid++ {
			e := api.ErrRule
			if paid+10 == amount {
				e = api.OK
			}
			d := draft{ins: []spend{{from: placeOf(l, 0), path: coin.Plain, by: "client"}}, outs: []coin.Out{pay(paid, hash(1))}}
			checks(t, fmt.Sprintf("%d of %d", paid, amount), made(t, "an amount", l), d.tx(), 1, e)
		}
	}
}

// What is signed binds all but the signatures and the proof.
func TestCheckOfWhatIsSigned(t *testing.T) {
	for name, make := range map[string]func() draft{"plain": plain, "refund": refund, "claim": claim} {
		d := make()
		x := d.tx()
		for i := range x.Ins {
			for j := range x.Ins {
				y := coin.Copy(x)
				y.Ins[i].Sig = x.Ins[j].Sig
				e := api.OK
				if d.ins[i].by != d.ins[j].by {
					e = api.ErrSig
				}
				checks(t, fmt.Sprintf("%s: input %d signed as %d", name, i, j), begun(t), y, d.height, e)
			}
			for at := range x.Ins[i].Sig {
				if at%37 != 0 {
					continue
				}
				y := coin.Copy(x)
				y.Ins[i].Sig = y.Ins[i].Sig[:at] + one(int(y.Ins[i].Sig[at])^1) + y.Ins[i].Sig[at+1:]
				checks(t, fmt.Sprintf("%s: another byte %d in the signature %d", name, at, i), begun(t), y, d.height, api.ErrSig)
			}
			for _, sig := range []string{"", "x", text(289), x.Ins[i].Sig[1:], x.Ins[i].Sig + "x", x.Ins[i].Sig + hash(1)} {
				y := coin.Copy(x)
				y.Ins[i].Sig = sig
				checks(t, fmt.Sprintf("%s: a signature of %d bytes at %d", name, len(sig), i), begun(t), y, d.height, api.ErrSig)
			}
		}
		for i := range x.Outs {
			y := coin.Copy(x)
			y.Outs[i].Key = hash(7)
			checks(t, fmt.Sprintf("%s: another key of output %d, behind the signing", name, i), begun(t), y, d.height, api.ErrSig)
		}
		y := coin.Copy(x)
		y.Ins[0], y.Ins[1] = y.Ins[1], y.Ins[0]
		e := api.ErrSig
		if name == "claim" {
			e = api.ErrRule
		}
		checks(t, name+": inputs in another order, behind the signing", begun(t), y, d.height, e)
	}
	// A claim's proof may be another one of the same worth.
	d := claim()
	x := d.tx()
	x.Proof = vouched(135, "")
	checks(t, "a claim with another proof", begun(t), x, d.height, api.OK)
}

// An input's faults come ahead of all of the next one's.
func TestCheckOfInputByInput(t *testing.T) {
	ours := func(i int) spend { return spend{from: at(i), path: coin.Claim, by: "gate"} }
	theirs := func(i int) spend { return spend{from: at(i), path: coin.Claim, by: "other"} }
	for i, c := range []struct {
		ins []spend
		e   api.Errno
	}{
		{[]spend{ours(lockA)}, 13}, {[]spend{theirs(lockA)}, 10}, {[]spend{ours(topA)}, 13}, {[]spend{theirs(topA)}, 13}, {[]spend{ours(payA)}, 13},
		{[]spend{theirs(lockA), ours(payA)}, 10}, {[]spend{ours(lockA), theirs(payA)}, 13}, {[]spend{theirs(lockA), ours(lockB)}, 10}, {[]spend{ours(lockA), theirs(lockB)}, 13},
		{[]spend{theirs(lockA), ours(topC)}, 10}, {[]spend{ours(lockA), theirs(topC)}, 13}, {[]spend{ours(lockA), theirs(topA), ours(payA)}, 10}, {[]spend{ours(lockA), ours(topA), theirs(payA)}, 13},
		{[]spend{ours(topA), ours(lockA)}, 13}, {[]spend{ours(topA), ours(topB)}, 13}, {[]spend{ours(lockA), ours(topA), theirs(topB)}, 10}, {[]spend{ours(lockB), ours(topC), ours(topD), theirs(topE)}, 10}, {[]spend{ours(lockB), ours(topC), ours(topD), theirs(topA)}, 13},
	} {
		d := draft{ins: c.ins, outs: []coin.Out{pay(1, hash(1))}}
		drafted(t, fmt.Sprintf("a claim, %d", i), d, c.e)
	}
	back := func(i int, by string) spend { return spend{from: at(i), path: coin.Refund, by: by} }
	for i, c := range []struct {
		ins []spend
		e   api.Errno
	}{
		{[]spend{back(payA, "client")}, 13}, {[]spend{back(lockA, "other"), back(lockB, "client")}, 10}, {[]spend{back(lockA, "client"), back(lockB, "other")}, 12}, {[]spend{back(lockB, "other"), back(payA, "client")}, 12},
		{[]spend{back(lockA, "other"), back(payA, "client")}, 10}, {[]spend{back(lockA, "client"), back(payA, "other")}, 13}, {[]spend{back(lockA, "gate")}, 10}, {[]spend{back(topA, "gate")}, 10}, {[]spend{back(topC, "gate")}, 12},
	} {
		d := draft{ins: c.ins, outs: []coin.Out{pay(1, hash(1))}, height: 20}
		drafted(t, fmt.Sprintf("a refund, %d", i), d, c.e)
	}
}

// claimOf is a claim of a worth out of channel A, by a voucher alone, of so many of its outputs.
func claimOf(t *testing.T, worth uint64, n int) draft {
	t.Helper()
	d := claim()
	d.ins, d.proof, d.outs = d.ins[:n], vouched(worth, ""), nil
	whole := []uint64{0, 100, 150, 175}[n]
	switch {
	case worth > 10 && worth < whole:
		d.outs = []coin.Out{pay(worth-10, root("gate")), pay(whole-worth, root("client"))}
	case worth == whole || whole < 11:
		d.outs = []coin.Out{pay(whole-10, root("gate"))}
	default:
		d.outs = []coin.Out{pay(1, root("gate")), pay(whole-11, root("client"))}
	}
	return d
}

func TestClaimsOfEachWorth(t *testing.T) {
	for n := 1; n <= 3; n++ {
		whole := []uint64{0, 100, 150, 175}[n]
		for worth := range whole + 5 {
			e := api.OK
			if worth <= 10 || worth > whole {
				e = api.ErrLow
			}
			drafted(t, fmt.Sprintf("a claim of %d of %d", worth, whole), claimOf(t, worth, n), e)
		}
	}
}

func TestClaimsOfEachPartOfAProof(t *testing.T) {
	for i, c := range []struct {
		p     note.Proof
		worth uint64
	}{
		{vouched(50, ""), 50}, {vouched(0, token("tokens", 4)), 20}, {vouched(0, token("tokens", 3)), 15}, {vouched(1, token("tokens", 2)), 11}, {vouched(0, "", win(1, 11)), 11},
		{vouched(50, token("tokens", 1), win(1, 5), win(2, 6), win(3, 7)), 73}, {vouched(20, token("tokens", 0)), 20}, {vouched(100, token("tokens", 4), win(1, 30), win(2, 25)), 175},
	} {
		d := claim()
		d.proof, d.outs = c.p, []coin.Out{pay(c.worth-10, root("gate"))}
		if c.worth < 175 {
			d.outs = append(d.outs, pay(175-c.worth, root("client")))
		}
		drafted(t, fmt.Sprintf("proof %d", i), d, api.OK)
		d.outs[0].Amount++
		drafted(t, fmt.Sprintf("proof %d, one more for the gate", i), d, api.ErrRule)
	}
}

// What a token is worth finds no room: note.Worth's error is told.
func TestClaimOfTokensThatFindNoRoom(t *testing.T) {
	o := lock(100, 20)
	o.Unit = 1 << 63
	l := []coin.Out{o}
	for steps, e := range []api.Errno{api.ErrLow, api.ErrLow, api.ErrOver, api.ErrOver, api.ErrOver, api.ErrForm} {
		d := draft{ins: []spend{{from: placeOf(l, 0), path: coin.Claim, by: "gate"}}, outs: []coin.Out{pay(90, root("gate"))}, proof: note.Proof{Token: token("tokens", steps)}}
		checks(t, fmt.Sprintf("%d steps", steps), made(t, "a lock", l), d.tx(), 1, e)
	}
}

// A top is for a lock that is there ahead of the transaction.
func TestCheckOfMoreForALock(t *testing.T) {
	// One that is spent by the same transaction is there.
	d := draft{ins: []spend{{from: at(lockA), path: coin.Refund, by: "client"}}, outs: []coin.Out{top(90, 20, chanA())}, height: 20}
	drafted(t, "more for what is spent", d, api.OK)
	s := begun(t)
	if e := s.Apply(d.tx(), 20); e != api.OK {
		t.Fatal(int(e))
	}
	again := draft{ins: []spend{{from: api.Point{Tx: coin.ID(d.tx())}, path: coin.Refund, by: "client"}}, outs: []coin.Out{top(80, 20, chanA())}, height: 20}
	checks(t, "more for what was spent", s, again.tx(), 20, api.ErrRule)
	again.outs = []coin.Out{pay(80, hash(1))}
	checks(t, "more for what was spent, brought back", s, again.tx(), 20, api.OK)

	// One that the same transaction makes is not: it has no name ahead of it.
	d = draft{ins: []spend{{from: at(payA), path: coin.Plain, by: "client"}}, outs: []coin.Out{lock(50, 40), top(40, 40, hash(1))}, height: 5}
	for range 5 {
		d.outs[1].Of = nameOf(api.Point{Tx: coin.ID(d.tx())})
		drafted(t, "more for what is made", d, api.ErrRule)
	}
	// It is there behind it.
	s = begun(t)
	d.outs = []coin.Out{lock(90, 40)}
	if e := s.Apply(d.tx(), 5); e != api.OK {
		t.Fatal(int(e))
	}
	name := nameOf(api.Point{Tx: coin.ID(d.tx())})
	d = draft{ins: []spend{{from: at(payB), path: coin.Plain, by: "client"}}, outs: []coin.Out{top(20, 40, name)}, height: 90}
	checks(t, "more for what was made", s, d.tx(), 90, api.OK)
	drafted(t, "more for what was not made", d, api.ErrRule)
}

// Who pays more for a channel need not be its client.
func TestCheckOfMoreByAnother(t *testing.T) {
	d := draft{ins: []spend{{from: at(payC), path: coin.Plain, by: "other"}}, outs: []coin.Out{top(10, 20, chanA()), top(10, 30, chanB()), top(10, 20, chanA()), top(10, 30, chanB())}}
	drafted(t, "more for two channels", d, api.OK)
	for i := range d.outs {
		for _, c := range []func(o *coin.Out){func(o *coin.Out) { o.Of = at(lockA).Tx }, func(o *coin.Out) { o.Of = nameOf(at(topA)) }, func(o *coin.Out) { o.Key = root("other") }, func(o *coin.Out) { o.Gate = root("client") }, func(o *coin.Out) { o.Expiry = 25 }} {
			l := slices.Clone(d.outs)
			c(&l[i])
			drafted(t, fmt.Sprintf("another %d", i), draft{ins: d.ins, outs: l}, api.ErrRule)
		}
	}
}

func TestCheckOfOutputByOutput(t *testing.T) {
	late, off := lock(30, 5), top(30, 21, chanA())
	for i, c := range []struct {
		outs []coin.Out
		e    api.Errno
	}{
		{[]coin.Out{late, off, pay(30, hash(1))}, 12}, {[]coin.Out{off, late, pay(30, hash(1))}, 13}, {[]coin.Out{pay(30, hash(1)), late, off}, 12}, {[]coin.Out{pay(30, hash(1)), off, late}, 13},
		{[]coin.Out{late, pay(30, hash(1)), pay(30, hash(1))}, 12}, {[]coin.Out{pay(30, hash(1)), pay(30, hash(1)), off}, 13},
	} {
		d := draft{ins: []spend{{from: at(payA), path: coin.Plain, by: "client"}}, outs: c.outs, height: 5}
		drafted(t, fmt.Sprintf("outputs %d", i), d, c.e)
	}
}

// Places at which an output is there already are not to be had by transactions in a test's time: one is put there.
func TestApplyReplacesWhatIsThere(t *testing.T) {
	d := plain()
	x := d.tx()
	for _, taken := range [][]int{{0}, {1}, {2}, {0, 1, 2}, {3}, {0, 3}} {
		s := begun(t)
		all := s.All()
		for _, out := range taken {
			e := Entry{api.Point{Tx: coin.ID(x), Out: out}, pay(7, hash(out))}
			all = append(all, e)
		}
		s = holding(all...)
		if e := s.Apply(x, d.height); e != api.OK {
			t.Fatal(int(e))
		}
		for i, o := range x.Outs {
			if got, is := s.Get(api.Point{Tx: coin.ID(x), Out: i}); !is || got != o {
				t.Errorf("%d taken: at %d is %x; want %x", taken, i, got, o)
			}
		}
		want := many - 3 + 3
		if slices.Contains(taken, 3) {
			want++
		}
		if got := s.All(); len(got) != want || !slices.Equal(got, behind(all, x)) {
			t.Errorf("%d taken: %x", taken, got)
		}
	}
}
