package utxo

import (
	"crypto/sha256"
	"encoding/binary"
	"fmt"
	"math"
	"math/big"
	"math/rand"
	"slices"
	"strings"
	"testing"
	"unsafe"

	"turnstile/api"
	"turnstile/block"
	"turnstile/coin"
	"turnstile/draw"
	"turnstile/merkle"
	"turnstile/note"
	"turnstile/payword"
)

// text is n bytes of all kinds, no two neighbours alike.
func text(n int) string {
	b := make([]byte, n)
	for i := range b {
		b[i] = byte(i*31 + i>>8*7 + 0xf9)
	}
	return string(b)
}

// hash is the i-th of hashes of which no two are alike.
func hash(i int) string { return text(16 + i)[i:] }

// one is a number as a byte.
func one(n int) string { return string([]byte{byte(n)}) }

// eight is a number as 8 bytes, the highest first, by the library.
func eight(n uint64) string { return string(binary.BigEndian.AppendUint64(nil, n)) }

// tagged is a word's sum of parts, by the library.
func tagged(word string, parts ...string) string {
	s := one(len(word)) + word
	for _, p := range parts {
		s += string(binary.BigEndian.AppendUint16(nil, uint16(len(p)))) + p
	}
	sum := sha256.Sum256([]byte(s))
	return string(sum[:16])
}

// placeOf is the place of the i-th of the outputs that are there at first, by hand.
func placeOf(l []coin.Out, i int) api.Point {
	all := ""
	for _, o := range l {
		all += eight(o.Amount) + o.Key
	}
	return api.Point{Tx: tagged("first", all), Out: i}
}

// nameOf is the name of the channel at a place, by hand.
func nameOf(p api.Point) string { return tagged("lock", p.Tx, one(p.Out)) }

// Keys and what they signed are kept, as making them takes long. Each message is signed by a key of its own of that seed: the tests sign one and the same leaf.
var (
	roots      = map[string]string{}
	signatures = map[[2]string]string{}
)

// root is the root of a seed's key.
func root(seed string) string {
	if _, is := roots[seed]; !is {
		k, e := merkle.New(seed, 0)
		if e != api.OK {
			panic(e)
		}
		roots[seed] = k.Root()
	}
	return roots[seed]
}

// signature is what a seed's key signs; of no seed it is empty.
func signature(seed, msg string) string {
	if seed == "" {
		return ""
	}
	at := [2]string{seed, msg}
	if _, is := signatures[at]; !is {
		k, _ := merkle.New(seed, 0)
		sig, e := k.Sign(msg)
		if e != api.OK {
			panic(e)
		}
		signatures[at] = sig
	}
	return signatures[at]
}

// token is the token i steps from the anchor of a seed, of which there are 6.
func token(seed string, i int) string {
	c, e := payword.New(seed, 6)
	if e != api.OK {
		panic(e)
	}
	s, e := c.Token(i)
	if e != api.OK {
		panic(e)
	}
	return s
}

// pay, lock and top are outputs that may be.
func pay(amount uint64, key string) coin.Out {
	return coin.Out{Kind: coin.Pay, Amount: amount, Key: key}
}

func lock(amount uint64, expiry int) coin.Out {
	return coin.Out{Kind: coin.Lock, Amount: amount, Key: root("client"), Gate: root("gate"), Expiry: expiry, Anchor: token("tokens", 0), Unit: 5, Tokens: 4}
}

func top(amount uint64, expiry int, of string) coin.Out {
	return coin.Out{Kind: coin.Top, Amount: amount, Key: root("client"), Gate: root("gate"), Expiry: expiry, Of: of}
}

// Which of the outputs that are there at first are what.
const (
	payA  = iota // 100 of the client's
	payB         // 30 of the client's
	payC         // 50 of another one's
	lockA        // 100, up to 20
	topA         // 50 more for it
	topB         // 25 more for it
	lockB        // 80, up to 30
	topC         // 40 more for that
	topD         // 41 more for that
	topE         // 42 more for that
	lockC        // 90, up to 30
	huge         // 2^64 - 1 of the client's
	many         // how many there are
)

// first are the outputs that are there at first.
func first() []coin.Out {
	l := []coin.Out{
		pay(100, root("client")), pay(30, root("client")), pay(50, root("other")),
		lock(100, 20), top(50, 20, ""), top(25, 20, ""), lock(80, 30), top(40, 30, ""), top(41, 30, ""), top(42, 30, ""), lock(90, 30),
		pay(math.MaxUint64, root("client")),
	}
	l[lockB].Anchor, l[lockB].Unit, l[lockB].Tokens = token("more tokens", 0), 7, 6
	for i := range l {
		switch i {
		case topA, topB:
			l[i].Of = nameOf(placeOf(l, lockA))
		case topC, topD, topE:
			l[i].Of = nameOf(placeOf(l, lockB))
		}
	}
	return l
}

// at is the place of one of the outputs that are there at first.
func at(i int) api.Point { return placeOf(first(), i) }

// chanA and chanB are the channels' names.
func chanA() string { return nameOf(at(lockA)) }
func chanB() string { return nameOf(at(lockB)) }

// begun is the set of the outputs that are there at first.
func begun(t testing.TB) *Set {
	t.Helper()
	s, e := New(first())
	if e != api.OK {
		t.Fatalf("New: %d", int(e))
	}
	return s
}

// holding is a set of just these outputs, at places that New and Apply give to none, or not in a test's time.
func holding(l ...Entry) *Set {
	s := &Set{outs: map[api.Point]coin.Out{}}
	for _, e := range l {
		s.outs[e.P] = e.O
	}
	return s
}

// ordered are entries by their places, by hand.
func ordered(l []Entry) []Entry {
	l = slices.Clone(l)
	slices.SortFunc(l, func(a, b Entry) int {
		for i := range min(len(a.P.Tx), len(b.P.Tx)) {
			if a.P.Tx[i] != b.P.Tx[i] {
				return int(a.P.Tx[i]) - int(b.P.Tx[i])
			}
		}
		if len(a.P.Tx) != len(b.P.Tx) {
			return len(a.P.Tx) - len(b.P.Tx)
		}
		if a.P.Out < b.P.Out {
			return -1
		}
		return 1
	})
	return l
}

// spend is an input of a draft: of what, on which path, signed by whom.
type spend struct {
	from api.Point
	path int
	by   string
	sig  string // stands instead of what is signed, if it is not empty
}

// draft is a transaction that is not yet signed, and the height at which it is looked at.
type draft struct {
	ins    []spend
	outs   []coin.Out
	proof  note.Proof
	height int
}

// tx is a draft's transaction, signed.
func (d draft) tx() coin.Tx {
	t := coin.Tx{Outs: d.outs, Proof: d.proof}
	for _, in := range d.ins {
		t.Ins = append(t.Ins, coin.In{From: in.from, Path: in.path})
	}
	core := coin.Core(t)
	for i, in := range d.ins {
		if in.sig != "" {
			t.Ins[i].Sig = in.sig
		} else if core != "" {
			t.Ins[i].Sig = signature(in.by, core)
		}
	}
	return t
}

// plain spends three payments; it pays, makes a channel, and more for another one.
func plain() draft {
	return draft{
		ins:    []spend{{from: at(payA), path: coin.Plain, by: "client"}, {from: at(payB), path: coin.Plain, by: "client"}, {from: at(payC), path: coin.Plain, by: "other"}},
		outs:   []coin.Out{pay(60, hash(1)), lock(70, 12), top(40, 20, chanA())},
		height: 11,
	}
}

// refund brings back two channels, and more for one; it pays, makes a channel, and more for one of those that it spends.
func refund() draft {
	return draft{
		ins:    []spend{{from: at(lockA), path: coin.Refund, by: "client"}, {from: at(topC), path: coin.Refund, by: "client"}, {from: at(lockB), path: coin.Refund, by: "client"}},
		outs:   []coin.Out{pay(100, hash(1)), lock(70, 31), top(40, 30, chanB())},
		height: 30,
	}
}

// claim claims 135 of the 175 of a channel: 70 by a voucher, 15 by a token, 50 by two tickets.
func claim() draft {
	return draft{
		ins:    []spend{{from: at(lockA), path: coin.Claim, by: "gate"}, {from: at(topA), path: coin.Claim, by: "gate"}, {from: at(topB), path: coin.Claim, by: "gate"}},
		outs:   []coin.Out{pay(125, root("gate")), pay(40, root("client"))},
		proof:  vouched(70, token("tokens", 3), win(7, 20), win(8, 30)),
		height: 99,
	}
}

// vouched is a proof of an amount on the channel A, a token, and wins.
func vouched(amount uint64, token string, wins ...note.Win) note.Proof {
	p := note.Proof{Amount: amount, Token: token, Wins: wins}
	if amount != 0 {
		p.Sig = signature("client", note.Voucher(chanA(), amount))
	}
	return p
}

// win is a ticket of the channel A that won, changed, and then signed.
func win(serial, face uint64, changes ...func(w *note.Win)) note.Win {
	w := note.Win{T: note.Ticket{Chan: chanA(), Serial: serial, Face: face, Wins: 1, Many: 4, Commit: draw.Commit("salt", 3), Client: 5}, Salt: "salt", Drawn: 3}
	for _, c := range changes {
		c(&w)
	}
	w.T.Sig = signature("client", note.Text(w.T))
	return w
}

// found is the output at a place, by hand.
func found(all []Entry, p api.Point) (coin.Out, bool) {
	for _, e := range all {
		if e.P == p {
			return e.O, true
		}
	}
	return coin.Out{}, false
}

// together are amounts, without end.
func together(l []coin.Out) *big.Int {
	n := new(big.Int)
	for _, o := range l {
		n.Add(n, new(big.Int).SetUint64(o.Amount))
	}
	return n
}

// judge is what Check tells of a set of these outputs, by the document's words, step by step.
func judge(all []Entry, x coin.Tx, height int) api.Errno {
	if !coin.Right(x) {
		return 4
	}
	var from []coin.Out
	for _, in := range x.Ins {
		o, is := found(all, in.From)
		if !is {
			return 6
		}
		from = append(from, o)
	}
	path := x.Ins[0].Path
	for _, in := range x.Ins {
		if in.Path != path {
			return 13
		}
	}
	if p := x.Proof; path != 2 && (p.Amount != 0 || p.Sig != "" || p.Token != "" || len(p.Wins) > 0) {
		return 13
	}
	for i, o := range from {
		if e := judgeInput(x, from, i, height); e != api.OK {
			return e
		}
		key := o.Key
		if path == 2 {
			key = o.Gate
		}
		if !merkle.Verify(key, coin.Core(x), x.Ins[i].Sig) {
			return 10
		}
	}
	whole, paid := together(from), together(x.Outs)
	paid.Add(paid, big.NewInt(10))
	if !whole.IsUint64() || !paid.IsUint64() {
		return 2
	}
	if whole.Cmp(paid) != 0 {
		return 13
	}
	if path == 2 {
		if e := judgeClaim(x, from[0], whole.Uint64()); e != api.OK {
			return e
		}
	}
	return judgeOutputs(all, x.Outs, height)
}

// judgeInput is what is wrong with the i-th input, but for its signature.
func judgeInput(x coin.Tx, from []coin.Out, i, height int) api.Errno {
	kind := from[i].Kind
	switch path := x.Ins[0].Path; {
	case path == 1 && kind != 1, path == 3 && kind == 1:
		return 13
	case path == 3 && height < from[i].Expiry:
		return 12
	case path == 2 && i == 0 && kind != 2, path == 2 && i > 0 && kind != 3:
		return 13
	case path == 2 && i > 0 && from[i].Of != nameOf(x.Ins[0].From):
		return 13
	}
	return 0
}

// judgeClaim is what is wrong with a claim's outputs.
func judgeClaim(x coin.Tx, o coin.Out, whole uint64) api.Errno {
	worth, e := note.Worth(note.Terms{Chan: nameOf(x.Ins[0].From), Client: o.Key, Anchor: o.Anchor, Unit: o.Unit, Tokens: o.Tokens}, x.Proof)
	if e != api.OK {
		return e
	}
	if worth <= 10 || worth > whole {
		return 11
	}
	want := []coin.Out{{Kind: 1, Amount: worth - 10, Key: o.Gate}}
	if worth < whole {
		want = append(want, coin.Out{Kind: 1, Amount: whole - worth, Key: o.Key})
	}
	if !slices.Equal(x.Outs, want) {
		return 13
	}
	return 0
}

// judgeOutputs is what is wrong with outputs that are made.
func judgeOutputs(all []Entry, outs []coin.Out, height int) api.Errno {
	for _, o := range outs {
		if o.Kind == 2 && o.Expiry <= height {
			return 12
		}
		if o.Kind != 3 {
			continue
		}
		fits := false
		for _, e := range ordered(all) {
			if e.O.Kind == 2 && nameOf(e.P) == o.Of {
				fits = e.O.Key == o.Key && e.O.Gate == o.Gate && e.O.Expiry == o.Expiry
				break
			}
		}
		if !fits {
			return 13
		}
	}
	return 0
}

// behind is what is there behind a transaction, by hand.
func behind(all []Entry, x coin.Tx) []Entry {
	var l []Entry
	for _, e := range all {
		if !slices.ContainsFunc(x.Ins, func(in coin.In) bool { return in.From == e.P }) {
			l = append(l, e)
		}
	}
	for i, o := range x.Outs {
		p := api.Point{Tx: coin.ID(x), Out: i}
		l = slices.DeleteFunc(l, func(e Entry) bool { return e.P == p })
		l = append(l, Entry{p, o})
	}
	return ordered(l)
}

// checks checks what Check and Apply tell of a transaction, that the same is told by hand, and what is there behind it.
func checks(t *testing.T, what string, s *Set, x coin.Tx, height int, e api.Errno) {
	t.Helper()
	all, before := s.All(), coin.Copy(x)
	if f := judge(all, x, height); f != e {
		t.Fatalf("%s: by hand %d; want %d", what, int(f), int(e))
	}
	if f := s.Check(x, height); f != e {
		t.Errorf("Check, %s: %d; want %d", what, int(f), int(e))
	}
	other, want := s.Copy(), all
	if e == api.OK {
		want = behind(all, x)
	}
	if f := other.Apply(x, height); f != e {
		t.Errorf("Apply, %s: %d; want %d", what, int(f), int(e))
	}
	if !slices.Equal(other.All(), want) {
		t.Errorf("Apply, %s: %x; want %x", what, other.All(), want)
	}
	if !slices.Equal(s.All(), all) || !coin.Same(x, before) {
		t.Errorf("%s: the set, or the transaction, is another one", what)
	}
}

// drafted checks a draft on the set of the first outputs.
func drafted(t *testing.T, what string, d draft, e api.Errno) {
	t.Helper()
	checks(t, what, begun(t), d.tx(), d.height, e)
}

// The chapter's example.

func TestExample(t *testing.T) {
	d := draft{ins: []spend{{from: at(lockA), path: coin.Refund, by: "client"}}, outs: []coin.Out{pay(90, hash(1))}, height: 19}
	drafted(t, "a refund at a height below the expiry", d, api.ErrLate)
	d.height = 20
	drafted(t, "a refund at the expiry", d, api.OK)
}

// P11.1

// payments are n outputs, no two alike but for each tenth.
func payments(n int) []coin.Out {
	var l []coin.Out
	for i := range n {
		l = append(l, pay(uint64(i%10+1), hash(i%10)))
	}
	return l
}

// refused checks that New answers ErrArg, and nothing beside it.
func refused(t *testing.T, what string, l []coin.Out) {
	t.Helper()
	if s, e := New(l); s != nil || e != api.ErrArg {
		t.Errorf("New of %s answers a set: %v, %d; want none, %d", what, s != nil, int(e), int(api.ErrArg))
	}
}

// made checks that New answers a set of just these.
func made(t *testing.T, what string, l []coin.Out) *Set {
	t.Helper()
	s, e := New(l)
	if s == nil || e != api.OK {
		t.Fatalf("New of %s: %d", what, int(e))
	}
	var want []Entry
	for i, o := range l {
		p := placeOf(l, i)
		want = append(want, Entry{p, o})
		if got, is := s.Get(p); got != o || !is || p != block.Begin(l, i) {
			t.Errorf("New of %s: at %d is %x, %v; want %x", what, i, got, is, o)
		}
	}
	if got := s.All(); !slices.Equal(got, want) {
		t.Errorf("New of %s = %x; want %x", what, got, want)
	}
	return s
}

func TestNewOfHowMany(t *testing.T) {
	for n := range 130 {
		if n < 1 || n > 64 {
			refused(t, fmt.Sprintf("%d outputs", n), payments(n))
		} else {
			made(t, fmt.Sprintf("%d outputs", n), payments(n))
		}
	}
	refused(t, "no list", nil)
	refused(t, "an empty list", []coin.Out{})
	for _, n := range []int{256, 257, 320, 65536 + 1} {
		refused(t, fmt.Sprintf("%d outputs", n), payments(n))
	}
	made(t, "64 alike", slices.Repeat([]coin.Out{pay(1, hash(1))}, 64))
	made(t, "one of each kind", first())
}

func TestNewOfOneThatMayNotBe(t *testing.T) {
	for n := 1; n <= 64; n += 7 {
		for at := range n {
			for i, o := range []coin.Out{
				{}, pay(0, hash(1)), pay(1, ""), pay(1, text(15)), pay(1, text(17)), {Amount: 1, Key: hash(1)}, {Kind: 4, Amount: 1, Key: hash(1)}, {Kind: -1, Amount: 1, Key: hash(1)},
				{Kind: coin.Pay, Amount: 1, Key: hash(1), Gate: hash(2)}, {Kind: coin.Pay, Amount: 1, Key: hash(1), Of: hash(2)}, lock(0, 5), lock(1, 0), lock(1, -1), lock(1, 1<<32), top(0, 5, hash(1)), top(1, 0, hash(1)), top(1, 5, ""), top(1, 5, text(17)),
			} {
				l := payments(n)
				l[at] = o
				refused(t, fmt.Sprintf("%d outputs, with %d at %d", n, i, at), l)
			}
		}
	}
	// Too many, of which one may not be.
	l := payments(65)
	l[64] = coin.Out{}
	refused(t, "65 outputs, of which one may not be", l)
}

func TestNewOfEachKindAtEachPlace(t *testing.T) {
	for _, n := range []int{1, 2, 17, 64} {
		for at := range n {
			for i, o := range []coin.Out{lock(1, 1), lock(math.MaxUint64, 1<<32-1), top(1, 1, hash(2)), pay(math.MaxUint64, hash(1))} {
				l := payments(n)
				l[at] = o
				made(t, fmt.Sprintf("%d outputs, with %d at %d", n, i, at), l)
			}
		}
	}
}

func TestGet(t *testing.T) {
	s := begun(t)
	for i, o := range first() {
		if got, is := s.Get(at(i)); got != o || !is {
			t.Errorf("Get of %d = %x, %v; want %x", i, got, is, o)
		}
	}
	name := at(0).Tx
	for _, out := range []int{math.MinInt, -256, -255, -1, many, many + 1, 63, 64, 255, 256, 257, 1 << 32, math.MaxInt} {
		if o, is := s.Get(api.Point{Tx: name, Out: out}); is || o != (coin.Out{}) {
			t.Errorf("Get of %d = %x, %v; want none", out, o, is)
		}
	}
	for _, tx := range []string{"", name[:15], name + "\x00", name[1:], name[:15] + one(int(name[15])+1), one(int(name[0])^0x80) + name[1:], hash(1), chanA()} {
		for i := range many {
			if o, is := s.Get(api.Point{Tx: tx, Out: i}); is || o != (coin.Out{}) {
				t.Errorf("Get of %x, %d = %x, %v; want none", tx, i, o, is)
			}
		}
	}
}

func TestGetOfWhatIsSpentAndMade(t *testing.T) {
	for i, d := range []draft{plain(), refund(), claim()} {
		s, x := begun(t), d.tx()
		if e := s.Apply(x, d.height); e != api.OK {
			t.Fatalf("draft %d: %d", i, int(e))
		}
		for _, in := range x.Ins {
			if o, is := s.Get(in.From); is || o != (coin.Out{}) {
				t.Errorf("draft %d: what is spent is there: %x", i, o)
			}
		}
		for j, o := range x.Outs {
			if got, is := s.Get(api.Point{Tx: coin.ID(x), Out: j}); !is || got != o {
				t.Errorf("draft %d: at %d is %x, %v; want %x", i, j, got, is, o)
			}
		}
		for _, out := range []int{-1, len(x.Outs), 255, 256} {
			if o, is := s.Get(api.Point{Tx: coin.ID(x), Out: out}); is || o != (coin.Out{}) {
				t.Errorf("draft %d: at %d is %x", i, out, o)
			}
		}
	}
}

// entries are so many entries, at places of names that differ in their first, a middle and their last byte, and of Outs of one digit and more.
func entries() []Entry {
	var l []Entry
	for _, first := range []int{0, 1, 0x7f, 0x80, 0xff} {
		for _, middle := range []int{0, 0x7f, 0x80} {
			for _, last := range []int{0, 9, 0x80, 0xff} {
				for _, out := range []int{0, 2, 3, 10, 255} {
					tx := one(first) + strings.Repeat("m", 7) + one(middle) + strings.Repeat("m", 6) + one(last)
					l = append(l, Entry{api.Point{Tx: tx, Out: out}, pay(uint64(len(l)+1), hash(1))})
				}
			}
		}
	}
	return l
}

func TestAllIsInOrder(t *testing.T) {
	// They are written down in their order.
	want := entries()
	r := rand.New(rand.NewSource(1))
	for range 20 {
		l := slices.Clone(want)
		r.Shuffle(len(l), func(i, j int) { l[i], l[j] = l[j], l[i] })
		if got := holding(l...).All(); !slices.Equal(got, want) {
			t.Fatalf("All = %x; want %x", got, want)
		}
	}
	for n := range want {
		if got := holding(want[n:]...).All(); !slices.Equal(got, want[n:]) {
			t.Errorf("All without %d = %x; want %x", n, got, want[n:])
		}
	}
}

// Whichever of two transactions comes first, the same is there behind both.
func TestAllHangsOnNoOrder(t *testing.T) {
	l := payments(40)
	for i := range l {
		l[i] = pay(100, root("client"))
	}
	var all []coin.Tx
	for i := range l {
		d := draft{ins: []spend{{from: placeOf(l, i), path: coin.Plain, by: "client"}}, outs: []coin.Out{pay(30, hash(i)), pay(60, hash(i+1))}}
		all = append(all, d.tx())
	}
	apply := func(order []int) []Entry {
		s := made(t, "40 outputs", l)
		for _, i := range order {
			if e := s.Apply(all[i], 1); e != api.OK {
				t.Fatalf("transaction %d: %d", i, int(e))
			}
		}
		return s.All()
	}
	r := rand.New(rand.NewSource(2))
	want := apply(r.Perm(40))
	if len(want) != 80 || !slices.Equal(want, ordered(want)) {
		t.Errorf("All = %x", want)
	}
	for range 10 {
		if got := apply(r.Perm(40)); !slices.Equal(got, want) {
			t.Errorf("All in another order = %x; want %x", got, want)
		}
	}
}

func TestTotal(t *testing.T) {
	for i, c := range []struct {
		amounts []uint64
		want    uint64
		e       api.Errno
	}{
		{[]uint64{1}, 1, 0}, {[]uint64{100, 30}, 130, 0}, {[]uint64{math.MaxUint64}, math.MaxUint64, 0}, {[]uint64{math.MaxUint64 - 1, 1}, math.MaxUint64, 0},
		{[]uint64{math.MaxUint64, 1}, 0, api.ErrOver}, {[]uint64{1, math.MaxUint64}, 0, api.ErrOver}, {[]uint64{1 << 63, 1 << 63}, 0, api.ErrOver}, {[]uint64{1 << 63, 1<<63 - 1}, math.MaxUint64, 0},
		{[]uint64{1 << 63, 1<<63 - 1, 1}, 0, api.ErrOver}, {[]uint64{1 << 62, 1 << 62, 1 << 62, 1 << 62}, 0, api.ErrOver}, {[]uint64{1 << 62, 1 << 62, 1 << 62, 1<<62 - 1}, math.MaxUint64, 0}, {[]uint64{math.MaxUint64, math.MaxUint64, 2}, 0, api.ErrOver},
	} {
		var l []coin.Out
		for j, n := range c.amounts {
			l = append(l, []coin.Out{pay(n, hash(j)), lock(n, 5), top(n, 5, hash(j))}[j%3])
		}
		s := made(t, fmt.Sprintf("amounts %d", i), l)
		for range 4 {
			if got, e := s.Total(); got != c.want || e != c.e {
				t.Errorf("Total of %d = %d, %d; want %d, %d", c.amounts, got, int(e), c.want, int(c.e))
			}
		}
	}
	if got, e := begun(t).Total(); got != 0 || e != api.ErrOver {
		t.Errorf("Total of the first outputs = %d, %d", got, int(e))
	}
	if got, e := made(t, "64 outputs", payments(64)).Total(); got != 340 || e != api.OK {
		t.Errorf("Total of 64 outputs = %d, %d", got, int(e))
	}
}

// locked checks what Lock tells.
func locked(t *testing.T, what string, s *Set, name string, want Entry, there bool) {
	t.Helper()
	if got, is := s.Lock(name); got != want || is != there {
		t.Errorf("Lock, %s = %x, %v; want %x, %v", what, got, is, want, there)
	}
}

func TestLock(t *testing.T) {
	s := begun(t)
	for i, o := range first() {
		if o.Kind == coin.Lock {
			locked(t, fmt.Sprintf("output %d", i), s, nameOf(at(i)), Entry{at(i), o}, true)
			if got := coin.Name(at(i)); got != nameOf(at(i)) {
				t.Errorf("coin.Name = %x", got)
			}
		} else {
			locked(t, fmt.Sprintf("output %d", i), s, nameOf(at(i)), Entry{}, false)
		}
	}
	name := chanA()
	for _, other := range []string{"", name[:15], name + "x", name[1:], hash(1), at(lockA).Tx, nameOf(api.Point{Tx: at(0).Tx, Out: many}), nameOf(api.Point{Tx: at(0).Tx, Out: 255}), root("client"), first()[lockA].Anchor} {
		locked(t, fmt.Sprintf("the name %x", other), s, other, Entry{}, false)
	}
	locked(t, "of a set without a channel", made(t, "payments", payments(9)), nameOf(placeOf(payments(9), 1)), Entry{}, false)
}

func TestLockOfWhatIsMadeAndSpent(t *testing.T) {
	s := begun(t)
	x := plain().tx()
	p := api.Point{Tx: coin.ID(x), Out: 1}
	locked(t, "ahead", s, nameOf(p), Entry{}, false)
	if e := s.Apply(x, 11); e != api.OK {
		t.Fatal(int(e))
	}
	locked(t, "what is made", s, nameOf(p), Entry{p, x.Outs[1]}, true)
	for _, out := range []int{0, 2} {
		locked(t, "beside it", s, nameOf(api.Point{Tx: p.Tx, Out: out}), Entry{}, false)
	}
	locked(t, "not yet spent", s, chanA(), Entry{at(lockA), first()[lockA]}, true)
	if e := s.Apply(claim().tx(), 11); e != api.OK {
		t.Fatal(int(e))
	}
	locked(t, "what is spent", s, chanA(), Entry{}, false)
	locked(t, "another one", s, chanB(), Entry{at(lockB), first()[lockB]}, true)
}

// Outputs 256 apart have one name: the first one of them in order that is a lock is told.
func TestLockOfTheFirstOfAName(t *testing.T) {
	point := func(out int) api.Point { return api.Point{Tx: hash(3), Out: out} }
	var l []Entry
	for i, out := range []int{515, 3, 259, 771} {
		l = append(l, Entry{point(out), lock(uint64(i+1), 5)})
	}
	name := nameOf(point(3))
	for range 30 {
		locked(t, "four of a name", holding(l...), name, l[1], true)
		locked(t, "three of a name", holding(l[0], l[2], l[3]), name, l[2], true)
		locked(t, "two of a name", holding(l[3], l[0]), name, l[0], true)
		locked(t, "a payment ahead", holding(l[3], l[2], Entry{point(3), pay(1, hash(1))}), name, l[2], true)
		locked(t, "more for one ahead", holding(l[3], l[0], Entry{point(3), top(1, 5, name)}), name, l[0], true)
	}
}

func TestCopyGoesItsOwnWay(t *testing.T) {
	drafts := []draft{plain(), refund(), claim()}
	for i, d := range drafts {
		for j, f := range drafts {
			s := begun(t)
			all := s.All()
			c := s.Copy()
			if c == s || !slices.Equal(c.All(), all) {
				t.Fatalf("a copy = %x; want %x", c.All(), all)
			}
			if e := c.Apply(d.tx(), d.height); e != api.OK {
				t.Fatal(int(e))
			}
			if !slices.Equal(s.All(), all) {
				t.Errorf("what is applied to the copy, %d, changes the original", i)
			}
			ofCopy := c.All()
			if e := s.Apply(f.tx(), f.height); e != api.OK {
				t.Errorf("%d behind %d on a copy: %d", j, i, int(e))
			}
			if !slices.Equal(c.All(), ofCopy) {
				t.Errorf("what is applied to the original, %d, changes the copy", j)
			}
			if !slices.Equal(ofCopy, behind(all, d.tx())) || !slices.Equal(s.All(), behind(all, f.tx())) {
				t.Errorf("%d and %d: not what is told by hand", i, j)
			}
			if again := c.Copy(); !slices.Equal(again.All(), ofCopy) {
				t.Errorf("a copy of a copy = %x; want %x", again.All(), ofCopy)
			}
		}
	}
}

func TestCopyTellsTheSame(t *testing.T) {
	s := begun(t)
	if e := s.Apply(plain().tx(), 11); e != api.OK {
		t.Fatal(int(e))
	}
	c := s.Copy()
	n, e := c.Total()
	if m, f := s.Total(); n != m || e != f {
		t.Errorf("Total of a copy = %d, %d; want %d, %d", n, int(e), m, int(f))
	}
	for _, entry := range s.All() {
		if o, is := c.Get(entry.P); !is || o != entry.O {
			t.Errorf("Get of a copy = %x, %v; want %x", o, is, entry.O)
		}
	}
	locked(t, "of a copy", c, chanA(), Entry{at(lockA), first()[lockA]}, true)
	d := claim()
	checks(t, "of a copy", c, d.tx(), d.height, api.OK)
	checks(t, "of a copy", c, plain().tx(), 11, api.ErrNone)
}

// P11.2

func TestTermsOfAnyEntry(t *testing.T) {
	outs := append(first(), coin.Out{}, coin.Out{Kind: 99, Amount: 1, Key: "a", Gate: "b", Expiry: -1, Anchor: "c", Unit: math.MaxUint64, Tokens: math.MinInt, Of: "d"},
		coin.Out{Key: text(5000), Anchor: text(70000), Tokens: math.MaxInt})
	for i, o := range outs {
		for _, tx := range []string{hash(1), hash(2), "", "x", text(17), text(4096)} {
			for _, out := range []int{0, 1, 63, 255, 256, 257, -1, math.MinInt, math.MaxInt} {
				p := api.Point{Tx: tx, Out: out}
				want := note.Terms{Chan: nameOf(p), Client: o.Key, Anchor: o.Anchor, Unit: o.Unit, Tokens: o.Tokens}
				if got := Terms(Entry{p, o}); got != want {
					t.Errorf("Terms of %d at %x, %d = %x; want %x", i, tx, out, got, want)
				}
			}
		}
	}
	want := note.Terms{Chan: chanA(), Client: root("client"), Anchor: token("tokens", 0), Unit: 5, Tokens: 4}
	if e, is := begun(t).Lock(chanA()); !is || Terms(e) != want {
		t.Errorf("Terms of a lock = %x; want %x", Terms(e), want)
	}
}

// pays checks what Pays tells of what goes to a gate and a key.
func pays(t *testing.T, e Entry, worth, whole uint64) {
	t.Helper()
	var want []coin.Out
	f := api.ErrLow
	if worth >= 11 && worth <= whole {
		f, want = api.OK, []coin.Out{{Kind: 1, Amount: worth - 10, Key: e.O.Gate}}
		if worth != whole {
			want = append(want, coin.Out{Kind: 1, Amount: whole - worth, Key: e.O.Key})
		}
	}
	if got, g := Pays(e, worth, whole); !slices.Equal(got, want) || g != f || f != api.OK && got != nil {
		t.Errorf("Pays of %d of %d = %x, %d; want %x, %d", worth, whole, got, int(g), want, int(f))
	}
}

func TestPaysAtEachBound(t *testing.T) {
	numbers := []uint64{0, 1, 9, 10, 11, 12, 13, 20, 21, 22, 99, 100, 101, 1<<32 - 1, 1 << 32, math.MaxInt64, math.MaxInt64 + 1, math.MaxInt64 + 2, math.MaxUint64 - 11, math.MaxUint64 - 10, math.MaxUint64 - 9, math.MaxUint64 - 1, math.MaxUint64}
	for i := range many {
		for _, worth := range numbers {
			for _, whole := range append(numbers, worth-1, worth+1) {
				pays(t, Entry{at(i), first()[i]}, worth, whole)
			}
		}
	}
	// Of entries that are none too.
	for _, o := range []coin.Out{{}, {Key: "a", Gate: "b"}, {Key: text(5000), Gate: text(70000), Amount: 5}} {
		for worth := range uint64(30) {
			for whole := range uint64(30) {
				pays(t, Entry{O: o}, worth, whole)
			}
		}
	}
}

func TestPays(t *testing.T) {
	e := Entry{O: lock(5, 5)}
	to, back := root("gate"), root("client")
	for _, c := range []struct {
		worth, whole uint64
		want         []coin.Out
		e            api.Errno
	}{
		{10, 100, nil, 11}, {11, 100, []coin.Out{pay(1, to), pay(89, back)}, 0}, {99, 100, []coin.Out{pay(89, to), pay(1, back)}, 0}, {100, 100, []coin.Out{pay(90, to)}, 0}, {101, 100, nil, 11},
		{10, 10, nil, 11}, {11, 11, []coin.Out{pay(1, to)}, 0}, {11, 10, nil, 11}, {0, 0, nil, 11}, {0, math.MaxUint64, nil, 11}, {math.MaxUint64, math.MaxUint64, []coin.Out{pay(math.MaxUint64-10, to)}, 0},
	} {
		if got, f := Pays(e, c.worth, c.whole); !slices.Equal(got, c.want) || f != c.e {
			t.Errorf("Pays of %d of %d = %x, %d; want %x, %d", c.worth, c.whole, got, int(f), c.want, int(c.e))
		}
	}
}

// Memory.

// spoilOuts writes over a list, and the room behind it.
func spoilOuts(l []coin.Out) {
	for i := range l[:cap(l)] {
		l[:cap(l)][i] = coin.Out{Kind: 99}
	}
}

func TestNewKeepsNoList(t *testing.T) {
	for n := range many {
		l := append(first(), payments(3)...)
		whole := slices.Clone(l)
		s, e := New(l[:n+1])
		if e != api.OK || !slices.Equal(l, whole) {
			t.Errorf("New of %d changes its list, or the room behind it: %d", n+1, int(e))
		}
		all := s.All()
		spoilOuts(l)
		if !slices.Equal(s.All(), all) || len(all) != n+1 {
			t.Errorf("New of %d keeps its list", n+1)
		}
	}
}

func TestApplyKeepsNoList(t *testing.T) {
	for name, d := range map[string]draft{"plain": plain(), "refund": refund(), "claim": claim()} {
		x := d.tx()
		x.Ins, x.Outs, x.Proof.Wins = append(x.Ins, x.Ins[0]), append(x.Outs, pay(5, hash(5))), append(x.Proof.Wins, win(9, 9))
		y := coin.Copy(x)
		roomy := x
		roomy.Ins, roomy.Outs, roomy.Proof.Wins = x.Ins[:len(x.Ins)-1], x.Outs[:len(x.Outs)-1], x.Proof.Wins[:len(x.Proof.Wins)-1]
		s := begun(t)
		want := behind(s.All(), d.tx())
		if e := s.Check(roomy, d.height); e != api.OK || !coin.Same(x, y) {
			t.Errorf("Check, %s: %d; or it changes a list, or the room behind it", name, int(e))
		}
		if e := s.Apply(roomy, d.height); e != api.OK || !coin.Same(x, y) {
			t.Errorf("Apply, %s: %d; or it changes a list, or the room behind it", name, int(e))
		}
		spoilOuts(x.Outs)
		for i := range x.Ins {
			x.Ins[i] = coin.In{}
		}
		for i := range x.Proof.Wins {
			x.Proof.Wins[i] = note.Win{}
		}
		if !slices.Equal(s.All(), want) {
			t.Errorf("Apply keeps a list of %s", name)
		}
	}
}

func TestAnswersAreNewMemory(t *testing.T) {
	s := begun(t)
	want := s.All()
	for range 2 {
		l := s.All()
		l = l[:cap(l)]
		for i := range l {
			l[i] = Entry{}
		}
		if !slices.Equal(s.All(), want) {
			t.Error("All answers what the set keeps")
		}
	}
	e, _ := s.Lock(chanA())
	one, _ := Pays(e, 50, 100)
	two, _ := Pays(e, 50, 100)
	spoilOuts(one)
	if !slices.Equal(two, []coin.Out{pay(40, root("gate")), pay(50, root("client"))}) || !slices.Equal(s.All(), want) {
		t.Errorf("two answers of Pays share their memory: %x", two)
	}
	c := s.Copy()
	l := c.All()
	for i := range l {
		l[i] = Entry{}
	}
	if !slices.Equal(s.All(), want) || !slices.Equal(c.All(), want) {
		t.Error("All of a copy answers what the set keeps")
	}
}

// textsOf are all texts of entries.
func textsOf(all []Entry) []string {
	var l []string
	for _, e := range all {
		l = append(l, e.P.Tx, e.O.Key, e.O.Gate, e.O.Anchor, e.O.Of)
	}
	return l
}

// shares tells whether two texts that are not empty have bytes of memory in common.
func shares(a, b string) bool {
	if a == "" || b == "" {
		return false
	}
	at, from := uintptr(unsafe.Pointer(unsafe.StringData(a))), uintptr(unsafe.Pointer(unsafe.StringData(b)))
	return at < from+uintptr(len(b)) && from < at+uintptr(len(a))
}

// apart checks that no text of one list has memory of one of the other.
func apart(t *testing.T, what string, l, others []string) {
	t.Helper()
	for _, a := range l {
		for _, b := range others {
			if shares(a, b) {
				t.Fatalf("%s share the memory of %x", what, a)
			}
		}
	}
}

func TestTextsAreNewMemory(t *testing.T) {
	l := first()
	var given []string
	for _, o := range l {
		given = append(given, o.Key, o.Gate, o.Anchor, o.Of)
	}
	s := made(t, "the first outputs", l)
	apart(t, "what New keeps and what it was handed", textsOf(s.All()), given)
	d := plain()
	x := d.tx()
	if e := s.Apply(x, d.height); e != api.OK {
		t.Fatal(int(e))
	}
	for _, in := range x.Ins {
		given = append(given, in.From.Tx)
	}
	for _, o := range x.Outs {
		given = append(given, o.Key, o.Gate, o.Anchor, o.Of)
	}
	apart(t, "what Apply keeps and what it was handed", textsOf(s.All()), given)
	e, _ := s.Lock(chanA())
	terms := Terms(e)
	apart(t, "terms and their entry", []string{terms.Chan, terms.Client, terms.Anchor}, textsOf([]Entry{e}))
	outs, _ := Pays(e, 50, 100)
	apart(t, "outputs of a claim and their entry", []string{outs[0].Key, outs[1].Key}, textsOf([]Entry{e}))
}
