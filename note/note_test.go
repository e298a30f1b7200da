package note

import (
	"encoding/binary"
	"fmt"
	"math"
	"math/big"
	"slices"
	"strings"
	"testing"
	"unsafe"

	"turnstile/api"
	"turnstile/draw"
	"turnstile/merkle"
	"turnstile/payword"
)

const (
	channel   = "the channel's ab" // 16 bytes
	elsewhere = "another one's cd" // 16 bytes
)

// text is n bytes of all kinds, no two neighbours alike.
func text(n int) string {
	b := make([]byte, n)
	for i := range b {
		b[i] = byte(i*31 + i>>8*7 + 0xf9)
	}
	return string(b)
}

// eight is a number as 8 bytes, the highest first, by the library.
func eight(n uint64) string { return string(binary.BigEndian.AppendUint64(nil, n)) }

// behind is a text behind its length in two bytes.
func behind(s string) string {
	return string(binary.BigEndian.AppendUint16(nil, uint16(len(s)))) + s
}

// key is the client's key, of which no leaf is used.
func key(t testing.TB) *merkle.Key {
	t.Helper()
	k, e := merkle.New("client", 1)
	if e != api.OK {
		t.Fatalf("no key: %d", int(e))
	}
	return k
}

// signature is the client's signature of a message.
func signature(t testing.TB, msg string) string {
	t.Helper()
	sig, e := key(t).Sign(msg)
	if e != api.OK {
		t.Fatalf("no signature: %d", int(e))
	}
	return sig
}

// change is what is done to a win.
type change func(w *Win)

// win is a win of the client's, changed, and then signed.
func win(t testing.TB, changes ...change) Win {
	t.Helper()
	w := Win{T: Ticket{Chan: channel, Serial: 7, Face: 100, Wins: 1, Many: 4, Commit: draw.Commit("salt", 3), Client: 5}, Salt: "salt", Drawn: 3}
	for _, c := range changes {
		c(&w)
	}
	w.T.Sig = signature(t, Text(w.T))
	return w
}

// numbered is a change of a win's serial and face.
func numbered(serial, face uint64) change {
	return func(w *Win) { w.T.Serial, w.T.Face = serial, face }
}

// tokens is the channel's chain of 9 tokens.
func tokens(t testing.TB) *payword.Chain {
	t.Helper()
	c, e := payword.New("tokens", 9)
	if e != api.OK {
		t.Fatalf("no chain: %d", int(e))
	}
	return c
}

// token is the token i steps from the channel's anchor.
func token(t testing.TB, i int) string {
	t.Helper()
	s, e := tokens(t).Token(i)
	if e != api.OK {
		t.Fatalf("no token %d: %d", i, int(e))
	}
	return s
}

// terms are the channel's terms: its first 5 tokens count, each worth 3.
func terms(t testing.TB) Terms {
	t.Helper()
	return Terms{Chan: channel, Client: key(t).Root(), Anchor: tokens(t).Anchor(), Unit: 3, Tokens: 5}
}

// vouch is a proof of an amount alone, which is signed.
func vouch(t testing.TB, amount uint64) Proof {
	t.Helper()
	return Proof{Amount: amount, Sig: signature(t, Voucher(channel, amount))}
}

// full is a proof of all its parts.
func full(t testing.TB) Proof {
	t.Helper()
	p := vouch(t, 40)
	p.Token = token(t, 4)
	p.Wins = []Win{win(t), win(t, numbered(8, 1000)), win(t, numbered(9, 10000))}
	return p
}

// filled is a proof with so many wins, which may be, of which no field is like another.
func filled(wins int) Proof {
	p := Proof{Amount: 0x0102030405060708, Sig: text(300), Token: text(16)}
	for i := range wins {
		at := uint64(i+1) << 56
		p.Wins = append(p.Wins, Win{
			T: Ticket{
				Chan: text(17 + i)[1+i:], Serial: at + 11, Face: at + 22, Wins: at + 33, Many: at + 44,
				Commit: text(27 + i)[11+i:], Client: at + 55, Sig: text(289 + 16*i),
			},
			Salt: text(7 + i), Drawn: at + 66,
		})
	}
	return p
}

// ticketBytes are a ticket's bytes in a proof, by hand.
func ticketBytes(t Ticket) string {
	return t.Chan + eight(t.Serial) + eight(t.Face) + eight(t.Wins) + eight(t.Many) + t.Commit + eight(t.Client) + behind(t.Sig)
}

// proofBytes are a proof's bytes, by hand, with so many wins said, whether it may be or not.
func proofBytes(p Proof, said int) string {
	s := eight(p.Amount) + behind(p.Sig) + behind(p.Token) + string([]byte{byte(said)})
	for _, w := range p.Wins {
		s += ticketBytes(w.T) + behind(w.Salt) + eight(w.Drawn)
	}
	return s
}

// won checks what Won tells of the client's win.
func won(t *testing.T, what string, w Win, want uint64, e api.Errno) {
	t.Helper()
	if got, f := Won(key(t).Root(), w); got != want || f != e {
		t.Errorf("Won, %s = %d, %d; want %d, %d", what, got, int(f), want, int(e))
	}
}

// worth checks what Worth tells.
func worth(t *testing.T, what string, terms Terms, p Proof, want uint64, e api.Errno) {
	t.Helper()
	if got, f := Worth(terms, p); got != want || f != e {
		t.Errorf("Worth, %s = %d, %d; want %d, %d", what, got, int(f), want, int(e))
	}
}

// right checks what Right tells, and that Encode tells something of just the same.
func right(t *testing.T, what string, p Proof, want bool) {
	t.Helper()
	if Right(p) != want {
		t.Errorf("Right, %s: %v; want %v", what, !want, want)
	}
	coded := ""
	if want {
		coded = proofBytes(p, len(p.Wins))
	}
	if got := Encode(p); got != coded {
		t.Errorf("Encode, %s = %x; want %x", what, got, coded)
	}
}

// fails checks that Decode answers an error, and nothing beside it.
func fails(t *testing.T, what, s string, e api.Errno) {
	t.Helper()
	if p, f := Decode(s); f != e || p.Amount != 0 || p.Sig != "" || p.Token != "" || len(p.Wins) != 0 {
		t.Errorf("Decode, %s = %x, %d; want nothing, %d", what, p, int(f), int(e))
	}
}

// decodes checks that Decode tells a proof, field by field.
func decodes(t *testing.T, what, s string, want Proof) {
	t.Helper()
	p, e := Decode(s)
	if e != api.OK || p.Amount != want.Amount || p.Sig != want.Sig || p.Token != want.Token || !slices.Equal(p.Wins, want.Wins) {
		t.Errorf("Decode, %s = %x, %d; want %x", what, p, int(e), want)
	}
}

// The chapter's example.

func TestExample(t *testing.T) {
	worth(t, "nothing", terms(t), Proof{}, 0, api.OK)
	worth(t, "nothing, of no terms", Terms{}, Proof{}, 0, api.OK)
	worth(t, "nothing, no list", terms(t), Proof{Wins: []Win{}}, 0, api.OK)
}

// P8.1

func TestVoucherByItsBytes(t *testing.T) {
	for _, n := range []int{0, 1, 15, 16, 17, 255, 256, 257, 400, 4095, 4096} {
		for _, amount := range []uint64{0, 1, 255, 256, 0x0102030405060708, math.MaxInt64, math.MaxInt64 + 1, math.MaxUint64} {
			if got, want := Voucher(text(n), amount), "V"+behind(text(n))+eight(amount); got != want {
				t.Errorf("Voucher of %d bytes, %d = %x; want %x", n, amount, got, want)
			}
		}
	}
	if got, want := Voucher("ab", 258), "\x56\x00\x02ab\x00\x00\x00\x00\x00\x00\x01\x02"; got != want {
		t.Errorf("Voucher(ab, 258) = %x; want %x", got, want)
	}
}

func TestVoucherThatFindsNoRoom(t *testing.T) {
	for _, n := range []int{4097, 4098, 8192, 65535, 65536, 65536 + 16} {
		if got := Voucher(text(n), 5); got != "" {
			t.Errorf("Voucher of %d bytes = %d bytes; want none", n, len(got))
		}
	}
}

func TestTextByItsBytes(t *testing.T) {
	for _, n := range []int{0, 1, 15, 16, 17, 255, 256, 4095, 4096} {
		for _, m := range []int{0, 1, 15, 16, 17, 4096} {
			x := Ticket{text(n), 1, 0x0203, 0x040506, math.MaxUint64, text(m + 3)[3:], 0x0708090a0b0c0d0e, "sig"}
			want := "T" + behind(x.Chan) + eight(1) + eight(0x0203) + eight(0x040506) + eight(math.MaxUint64) + behind(x.Commit) + eight(0x0708090a0b0c0d0e)
			if got := Text(x); got != want {
				t.Errorf("Text of %d and %d bytes = %x; want %x", n, m, got, want)
			}
		}
	}
	want := "\x54\x00\x02ab\x00\x00\x00\x00\x00\x00\x00\x01\x00\x00\x00\x00\x00\x00\x00\x02\x00\x00\x00\x00\x00\x00\x00\x03" +
		"\x00\x00\x00\x00\x00\x00\x00\x04\x00\x01c\x00\x00\x00\x00\x00\x00\x01\x05"
	if got := Text(Ticket{Chan: "ab", Serial: 1, Face: 2, Wins: 3, Many: 4, Commit: "c", Client: 261}); got != want {
		t.Errorf("Text = %x; want %x", got, want)
	}
	if got, want := Text(Ticket{}), "T"+strings.Repeat("\x00", 44); got != want {
		t.Errorf("Text of nothing = %x; want %x", got, want)
	}
}

func TestTextThatFindsNoRoom(t *testing.T) {
	for _, n := range []int{4097, 4098, 65535, 65536, 65536 + 16} {
		for _, x := range []Ticket{{Chan: text(n)}, {Commit: text(n)}, {Chan: text(n), Commit: text(n)}, {Chan: text(16), Commit: text(n)}, {Chan: text(n), Commit: text(16)}} {
			if got := Text(x); got != "" {
				t.Errorf("Text of %d and %d bytes = %d bytes; want none", len(x.Chan), len(x.Commit), len(got))
			}
		}
	}
}

func TestTextIsWithoutTheSignature(t *testing.T) {
	x := filled(1).Wins[0].T
	want := Text(x)
	for _, sig := range []string{"", "x", text(400), text(401), text(5000)} {
		x.Sig = sig
		if Text(x) != want {
			t.Errorf("Text hangs on a signature of %d bytes", len(sig))
		}
	}
}

func TestSigned(t *testing.T) {
	root, w := key(t).Root(), win(t)
	if !Signed(root, w.T) {
		t.Error("what the client signed is not signed")
	}
	for name, c := range map[string]change{
		"Chan": func(w *Win) { w.T.Chan = elsewhere }, "Serial": func(w *Win) { w.T.Serial++ }, "Face": func(w *Win) { w.T.Face++ },
		"Wins": func(w *Win) { w.T.Wins++ }, "Many": func(w *Win) { w.T.Many++ }, "Commit": func(w *Win) { w.T.Commit = elsewhere },
		"Client": func(w *Win) { w.T.Client++ }, "Sig, cut": func(w *Win) { w.T.Sig = w.T.Sig[1:] }, "Sig, longer": func(w *Win) { w.T.Sig += "x" },
		"Sig, none": func(w *Win) { w.T.Sig = "" }, "Sig of a voucher": func(w *Win) { w.T.Sig = signature(t, Voucher(channel, 100)) },
		"Sig of nothing": func(w *Win) { w.T.Sig = signature(t, "") }, "Sig, 401 bytes": func(w *Win) { w.T.Sig = text(401) },
	} {
		other := w
		c(&other)
		if Signed(root, other.T) {
			t.Errorf("signed with another %s", name)
		}
	}
	strange, _ := merkle.New("strange", 1)
	for _, client := range []string{"", root[1:], root + "x", strange.Root(), channel, "client"} {
		if Signed(client, w.T) {
			t.Errorf("signed by %q", client)
		}
	}
	for range 3 {
		if !Signed(root, w.T) {
			t.Error("signed no more")
		}
	}
}

// Signed asks nothing of a ticket but its text and its signature.
func TestSignedOfATicketThatMayNotBe(t *testing.T) {
	for _, n := range []int{0, 1, 15, 17, 4096} {
		w := win(t, func(w *Win) { w.T.Chan, w.T.Commit, w.T.Many = text(n), text(4096-n), 0 })
		if !Signed(key(t).Root(), w.T) {
			t.Errorf("not signed, with a channel of %d bytes", n)
		}
	}
}

func TestSignedOfATicketWithoutAText(t *testing.T) {
	for _, n := range []int{4097, 65536} {
		for _, x := range []Ticket{{Chan: text(n), Commit: channel}, {Chan: channel, Commit: text(n)}, {Chan: text(n), Commit: text(n)}} {
			x.Sig = signature(t, Text(x))
			if !merkle.Verify(key(t).Root(), "", x.Sig) || Signed(key(t).Root(), x) {
				t.Errorf("signed, with %d and %d bytes", len(x.Chan), len(x.Commit))
			}
		}
	}
}

// P8.2

func TestWon(t *testing.T) {
	for _, face := range []uint64{0, 1, 100, math.MaxInt64, math.MaxUint64} {
		won(t, "any face", win(t, numbered(7, face)), face, api.OK)
	}
	for _, serial := range []uint64{0, 1, math.MaxUint64} {
		won(t, "any serial", win(t, numbered(serial, 5)), 5, api.OK)
	}
}

// Won asks nothing of a salt but that it opens.
func TestWonOfSalts(t *testing.T) {
	for _, n := range []int{0, 1, 31, 32, 33, 400, 5000} {
		salted := func(w *Win) { w.Salt, w.T.Commit = text(n), draw.Commit(text(n), 3) }
		won(t, "a salt", win(t, salted), 100, api.OK)
		w := win(t, salted)
		w.Salt += "x"
		won(t, "another salt", w, 0, api.ErrForm)
	}
}

func TestWonOfAllDrawn(t *testing.T) {
	for many := range uint64(5) {
		for wins := range many + 2 {
			for drawn := range many + 2 {
				for client := range many + 2 {
					w := win(t, func(w *Win) {
						w.T.Wins, w.T.Many, w.T.Client, w.Drawn, w.T.Commit = wins, many, client, drawn, draw.Commit("salt", drawn)
					})
					what := fmt.Sprintf("%d of %d, %d drawn, client %d", wins, many, drawn, client)
					switch {
					case many == 0 || wins > many || drawn >= many:
						won(t, what, w, 0, api.ErrArg)
					case (drawn+client)%many < wins:
						won(t, what, w, 100, api.OK)
					default:
						won(t, what, w, 0, api.ErrRule)
					}
				}
			}
		}
	}
}

func TestWonWhereDrawHasAnError(t *testing.T) {
	for _, x := range []struct {
		wins, many, drawn uint64
		want              uint64
		e                 api.Errno
	}{
		{0, 0, 0, 0, api.ErrArg}, {1, 0, 0, 0, api.ErrArg}, {1, 1, 0, 100, api.OK}, {2, 1, 0, 0, api.ErrArg}, {1, 1, 1, 0, api.ErrArg},
		{4, 4, 3, 100, api.OK}, {5, 4, 3, 0, api.ErrArg}, {4, 4, 4, 0, api.ErrArg}, {math.MaxUint64, 4, 3, 0, api.ErrArg}, {4, 4, math.MaxUint64, 0, api.ErrArg},
		{1 << 32, 1 << 32, 3, 100, api.OK}, {1 << 32, 1 << 32, 1<<32 - 1, 100, api.OK}, {1<<32 + 1, 1 << 32, 3, 0, api.ErrArg}, {1 << 32, 1 << 32, 1 << 32, 0, api.ErrArg},
		{1 << 32, 1<<32 + 1, 3, 0, api.ErrArg}, {1, 1<<32 + 1, 3, 0, api.ErrArg}, {math.MaxUint64, math.MaxUint64, 3, 0, api.ErrArg},
		{4, 1<<32 + 4, 3, 0, api.ErrArg}, {1<<32 + 4, 4, 3, 0, api.ErrArg}, {4, 4, 1<<32 + 3, 0, api.ErrArg},
	} {
		w := win(t, func(w *Win) {
			w.T.Wins, w.T.Many, w.Drawn, w.T.Commit = x.wins, x.many, x.drawn, draw.Commit("salt", x.drawn)
		})
		won(t, fmt.Sprintf("%d of %d, %d drawn", x.wins, x.many, x.drawn), w, x.want, x.e)
	}
	// drawn and client together find no room in 64 bits: 3 and 2^64 - 1 leave 2.
	for wins, e := range map[uint64]api.Errno{2: api.ErrRule, 3: api.OK} {
		w := win(t, func(w *Win) { w.T.Client, w.T.Wins = math.MaxUint64, wins })
		if face, f := Won(key(t).Root(), w); f != e || (face == 100) != (e == api.OK) {
			t.Errorf("Won of the greatest client's number, %d win = %d, %d; want %d", wins, face, int(f), int(e))
		}
	}
}

func TestWonOfWidths(t *testing.T) {
	for _, n := range []int{0, 1, 15, 16, 17, 32, 4096, 4097, 65552} {
		e, face := api.ErrArg, uint64(0)
		if n == 16 {
			e, face = api.OK, 100
		}
		won(t, fmt.Sprintf("a channel of %d bytes", n), win(t, func(w *Win) { w.T.Chan = text(n) }), face, e)

		// Of 16 bytes that hide something else the salt opens nothing.
		if n == 16 {
			e = api.ErrForm
		}
		won(t, fmt.Sprintf("a commit of %d bytes", n), win(t, func(w *Win) { w.T.Commit = text(n) }), 0, e)
	}
	for n, e := range map[int]api.Errno{0: api.ErrSig, 1: api.ErrSig, 289: api.ErrSig, 353: api.ErrSig, 399: api.ErrSig, 400: api.ErrSig, 401: api.ErrArg, 402: api.ErrArg, 4096: api.ErrArg, 65536: api.ErrArg} {
		w := win(t)
		w.T.Sig = strings.Repeat("\x00", n)
		won(t, fmt.Sprintf("a signature of %d bytes", n), w, 0, e)
	}
}

func TestWonOfAnotherClient(t *testing.T) {
	strange, _ := merkle.New("strange", 1)
	for _, client := range []string{"", "client", channel, strange.Root()} {
		if face, e := Won(client, win(t)); face != 0 || e != api.ErrSig {
			t.Errorf("Won by %q = %d, %d; want ErrSig", client, face, int(e))
		}
	}
}

// fault is an error of Won's, made alone: ahead of signing, or behind it.
type fault struct {
	name          string
	e             api.Errno
	ahead, behind change
}

// faults are Won's, in its order; those of the same error are told one after the other.
func faults() []fault {
	none := func(w *Win) {}
	return []fault{
		{"Chan", api.ErrArg, func(w *Win) { w.T.Chan = text(15) }, none},
		{"Commit", api.ErrArg, func(w *Win) { w.T.Commit += "x" }, none},
		{"Sig's length", api.ErrArg, none, func(w *Win) { w.T.Sig += text(401) }},
		{"Many", api.ErrArg, func(w *Win) { w.T.Many = 1<<32 + 1 }, none},
		{"Wins", api.ErrArg, func(w *Win) { w.T.Wins = 1 << 33 }, none},
		{"Drawn", api.ErrArg, none, func(w *Win) { w.Drawn = 1 << 34 }},
		{"Sig", api.ErrSig, none, func(w *Win) { w.T.Sig += "x" }},
		{"Salt", api.ErrForm, none, func(w *Win) { w.Salt = "pepper" }},
		{"Client", api.ErrRule, func(w *Win) { w.T.Client++ }, none},
	}
}

func TestWonOfAnyFaultsTogether(t *testing.T) {
	all := faults()
	for set := range 1 << len(all) {
		var ahead, behind []change
		names, e := "", api.OK
		for i, f := range all {
			if set>>i&1 == 1 {
				ahead, behind, names = append(ahead, f.ahead), append(behind, f.behind), names+f.name+" "
				if e == api.OK {
					e = f.e
				}
			}
		}
		w := win(t, ahead...)
		for _, c := range behind {
			c(&w)
		}
		face := uint64(0)
		if e == api.OK {
			face = 100
		}
		won(t, "with faults "+names, w, face, e)
	}
}

// P8.3

func TestWorthOfEachPart(t *testing.T) {
	all := full(t)
	for set := range 16 {
		p, want := Proof{}, uint64(0)
		if set&1 > 0 {
			p.Amount, p.Sig, want = all.Amount, all.Sig, want+40
		}
		if set&2 > 0 {
			p.Token, want = all.Token, want+12
		}
		if set&4 > 0 {
			p.Wins, want = append(p.Wins, all.Wins[0]), want+100
		}
		if set&8 > 0 {
			p.Wins, want = append(p.Wins, all.Wins[1], all.Wins[2]), want+11000
		}
		worth(t, fmt.Sprintf("parts %b", set), terms(t), p, want, api.OK)
	}
}

func TestWorthOfVouchers(t *testing.T) {
	for _, amount := range []uint64{1, 2, 40, math.MaxInt64, math.MaxUint64} {
		p := vouch(t, amount)
		worth(t, "signed", terms(t), p, amount, api.OK)
		for _, other := range []uint64{amount - 1, amount + 1, 0} {
			worth(t, "of another amount", terms(t), Proof{Amount: other, Sig: p.Sig}, 0, api.ErrSig)
		}
		worth(t, "not signed", terms(t), Proof{Amount: amount}, 0, api.ErrSig)
		worth(t, "signed by a ticket", terms(t), Proof{Amount: amount, Sig: win(t).T.Sig}, 0, api.ErrSig)
		for _, n := range []int{1, 289, 305, 400} {
			worth(t, "signed by something", terms(t), Proof{Amount: amount, Sig: strings.Repeat("\x00", n)}, 0, api.ErrSig)
		}
		worth(t, "of another channel", Terms{Chan: elsewhere, Client: key(t).Root()}, p, 0, api.ErrSig)
		worth(t, "of another client", Terms{Chan: channel, Client: elsewhere}, p, 0, api.ErrSig)
		worth(t, "of no client", Terms{Chan: channel}, p, 0, api.ErrSig)
		worth(t, "of a channel and a client alone", Terms{Chan: channel, Client: key(t).Root()}, p, amount, api.OK)
	}
}

func TestWorthOfNoAmountThatIsSigned(t *testing.T) {
	for _, sig := range []string{signature(t, Voucher(channel, 0)), signature(t, ""), "x", text(400)} {
		worth(t, "0, signed", terms(t), Proof{Sig: sig}, 0, api.ErrSig)
	}
	worth(t, "0, not signed, with a token", terms(t), Proof{Token: token(t, 1)}, 3, api.OK)
}

// A voucher needs no channel of 16 bytes. One whose text finds no room is
// signed by what signs the empty text, as Worth asks merkle.Verify alone.
func TestWorthOfVouchersOfAnyChannel(t *testing.T) {
	for _, n := range []int{0, 1, 15, 17, 4096, 4097} {
		x := terms(t)
		x.Chan = text(n)
		p := Proof{Amount: 40, Sig: signature(t, Voucher(x.Chan, 40))}
		worth(t, fmt.Sprintf("on a channel of %d bytes", n), x, p, 40, api.OK)
	}
}

func TestWorthOfTokens(t *testing.T) {
	for most := range 10 {
		x := terms(t)
		x.Tokens = most
		for i := range 10 {
			if i <= most {
				worth(t, "a token", x, Proof{Token: token(t, i)}, uint64(3*i), api.OK)
			} else {
				worth(t, "a token too far", x, Proof{Token: token(t, i)}, 0, api.ErrForm)
			}
		}
	}
	for _, n := range []int{1, 15, 16, 17, 32, 65552} {
		e := api.ErrArg
		if n == 16 {
			e = api.ErrForm
		}
		worth(t, fmt.Sprintf("a token of %d bytes", n), terms(t), Proof{Token: text(n)}, 0, e)
	}
	worth(t, "a token of 0 bytes", terms(t), Proof{Token: ""}, 0, api.OK)
}

func TestWorthOfTermsThatAreNone(t *testing.T) {
	for _, most := range []int{-1, 4097, math.MinInt, math.MaxInt} {
		x := terms(t)
		x.Tokens = most
		worth(t, fmt.Sprintf("of %d tokens, with one", most), x, Proof{Token: token(t, 2)}, 0, api.ErrArg)
		worth(t, fmt.Sprintf("of %d tokens, with none", most), x, Proof{}, 0, api.OK)
		x.Unit = math.MaxUint64
		worth(t, fmt.Sprintf("of %d tokens, with a voucher", most), x, vouch(t, 40), 40, api.OK)
	}
	for _, n := range []int{0, 1, 15, 17, 32} {
		x := terms(t)
		x.Anchor = text(n)
		worth(t, fmt.Sprintf("of an anchor of %d bytes, with a token", n), x, Proof{Token: token(t, 2)}, 0, api.ErrArg)
		worth(t, fmt.Sprintf("of an anchor of %d bytes, with none", n), x, Proof{}, 0, api.OK)
		worth(t, fmt.Sprintf("of an anchor of %d bytes, with a win", n), x, Proof{Wins: []Win{win(t)}}, 100, api.OK)
	}
	x := terms(t)
	x.Anchor, x.Tokens = elsewhere, 4096
	worth(t, "of another anchor", x, Proof{Token: token(t, 2)}, 0, api.ErrForm)
}

func TestWorthOfUnits(t *testing.T) {
	for _, unit := range []uint64{0, 1, 1 << 32, math.MaxUint64 / 5, math.MaxUint64/5 + 1, math.MaxUint64/4 + 1, math.MaxUint64 / 2, math.MaxUint64/2 + 1, math.MaxUint64} {
		for steps := range uint64(6) {
			x := terms(t)
			x.Unit = unit
			product := new(big.Int).Mul(new(big.Int).SetUint64(unit), new(big.Int).SetUint64(steps))
			what := fmt.Sprintf("%d tokens, each %d", steps, unit)
			if product.IsUint64() {
				worth(t, what, x, Proof{Token: token(t, int(steps))}, product.Uint64(), api.OK)
			} else {
				worth(t, what, x, Proof{Token: token(t, int(steps))}, 0, api.ErrOver)
			}
		}
	}
}

func TestWorthOfHowManyWins(t *testing.T) {
	var wins []Win
	for i := range uint64(5) {
		wins = append(wins, win(t, numbered(i, 1<<(4*i))))
	}
	for n, want := range []uint64{0, 0x1, 0x11, 0x111} {
		worth(t, fmt.Sprintf("%d wins", n), terms(t), Proof{Wins: wins[:n]}, want, api.OK)
	}
	worth(t, "4 wins", terms(t), Proof{Wins: wins[:4]}, 0, api.ErrArg)
	worth(t, "5 wins", terms(t), Proof{Wins: wins}, 0, api.ErrArg)
	worth(t, "3 other wins", terms(t), Proof{Wins: wins[2:]}, 0x11100, api.OK)
	slices.Reverse(wins)
	worth(t, "3 wins, the last one first", terms(t), Proof{Wins: wins[2:]}, 0x111, api.OK)
}

func TestWorthOfWinsOfAnotherChannel(t *testing.T) {
	here, there := win(t), win(t, numbered(8, 5), func(w *Win) { w.T.Chan = elsewhere })
	for _, wins := range [][]Win{{there}, {here, there}, {there, here}, {here, win(t, numbered(9, 5)), there}} {
		worth(t, fmt.Sprintf("%d wins, one of another channel", len(wins)), terms(t), Proof{Wins: wins}, 0, api.ErrRule)
	}
	x := terms(t)
	x.Chan = elsewhere
	worth(t, "a win, on its own channel", x, Proof{Wins: []Win{there}}, 5, api.OK)
	worth(t, "a win, on another channel", x, Proof{Wins: []Win{here}}, 0, api.ErrRule)
	x.Chan = channel + "x"
	worth(t, "a win, on no channel", x, Proof{Wins: []Win{here}}, 0, api.ErrRule)
}

func TestWorthOfSerialsThatComeTwice(t *testing.T) {
	for _, serial := range []uint64{0, 1, 7, 1 << 32, math.MaxUint64} {
		a, b, c := win(t, numbered(serial, 1)), win(t, numbered(serial+1, 2)), win(t, numbered(serial, 4))
		high := win(t, numbered(serial^1<<63, 8))
		for _, wins := range [][]Win{{a, a}, {a, c}, {a, a, a}, {a, a, b}, {b, a, a}, {a, b, a}, {a, b, c}, {c, b, a}} {
			worth(t, "a serial twice", terms(t), Proof{Wins: wins}, 0, api.ErrTwice)
		}
		worth(t, "serials once", terms(t), Proof{Wins: []Win{a, b, high}}, 11, api.OK)
		// Each call begins anew: what an earlier one saw is not kept.
		worth(t, "serials once, again", terms(t), Proof{Wins: []Win{c, b}}, 6, api.OK)
	}
}

// Of one win the errors come in the order ErrRule, ErrTwice, Won's; of several
// wins the first one's come first.
func TestWorthOfTheFirstErrorOfWins(t *testing.T) {
	good, bare := win(t), win(t)
	bare.T.Sig = ""
	there := win(t, func(w *Win) { w.T.Chan = elsewhere })
	bareThere := there
	bareThere.T.Sig = ""
	lost := win(t, numbered(8, 1), func(w *Win) { w.T.Client++ })
	hidden := win(t, numbered(9, 1))
	hidden.Salt = "pepper"
	odd := win(t, numbered(10, 1), func(w *Win) { w.T.Many = 0 })
	for i, x := range []struct {
		wins []Win
		e    api.Errno
	}{
		{[]Win{bare}, api.ErrSig}, {[]Win{lost}, api.ErrRule}, {[]Win{hidden}, api.ErrForm}, {[]Win{odd}, api.ErrArg},
		{[]Win{good, bare}, api.ErrTwice}, {[]Win{good, there}, api.ErrRule}, {[]Win{good, bareThere}, api.ErrRule}, {[]Win{bareThere}, api.ErrRule},
		{[]Win{bare, there}, api.ErrSig}, {[]Win{bare, good}, api.ErrSig}, {[]Win{there, bare}, api.ErrRule}, {[]Win{hidden, hidden}, api.ErrForm},
		{[]Win{hidden, odd}, api.ErrForm}, {[]Win{odd, hidden}, api.ErrArg}, {[]Win{good, lost, good}, api.ErrRule}, {[]Win{good, good, lost}, api.ErrTwice},
		{[]Win{good, hidden, there}, api.ErrForm}, {[]Win{good, there, hidden}, api.ErrRule},
	} {
		worth(t, fmt.Sprintf("wins %d", i), terms(t), Proof{Wins: x.wins}, 0, x.e)
	}
}

func TestWorthOfSumsThatFindRoomOrNot(t *testing.T) {
	for i, x := range []struct {
		amount, unit uint64
		faces        []uint64
	}{
		{0, 0, []uint64{math.MaxUint64}}, {0, 0, []uint64{math.MaxUint64, 0}}, {0, 0, []uint64{math.MaxUint64, 1}}, {0, 0, []uint64{1, math.MaxUint64}},
		{0, 0, []uint64{math.MaxUint64, math.MaxUint64, math.MaxUint64}}, {0, 0, []uint64{1 << 63, 1<<63 - 1}}, {0, 0, []uint64{1 << 63, 1 << 63}}, {0, 0, []uint64{1 << 63, 1<<63 - 1, 1}},
		{math.MaxUint64, 0, nil}, {math.MaxUint64, 1, nil}, {math.MaxUint64 - 4, 1, nil}, {math.MaxUint64 - 3, 1, nil}, {1, 1 << 62, nil},
		{math.MaxUint64, 0, []uint64{0}}, {math.MaxUint64, 0, []uint64{1}}, {1, 0, []uint64{math.MaxUint64}}, {1, 0, []uint64{math.MaxUint64 - 1}},
		{0, math.MaxUint64 / 4, []uint64{3}}, {0, math.MaxUint64 / 4, []uint64{4}}, {1, math.MaxUint64 / 4, []uint64{2}}, {1, math.MaxUint64 / 4, []uint64{3}},
		{1, 1, []uint64{1, 1, math.MaxUint64 - 7}}, {1, 1, []uint64{1, 1, math.MaxUint64 - 6}},
	} {
		p, sum := Proof{Token: token(t, 4)}, new(big.Int).Mul(big.NewInt(4), new(big.Int).SetUint64(x.unit))
		if x.amount > 0 {
			p.Amount, p.Sig = x.amount, vouch(t, x.amount).Sig
			sum.Add(sum, new(big.Int).SetUint64(x.amount))
		}
		for serial, face := range x.faces {
			p.Wins = append(p.Wins, win(t, numbered(uint64(serial), face)))
			sum.Add(sum, new(big.Int).SetUint64(face))
		}
		on := terms(t)
		on.Unit = x.unit
		if sum.IsUint64() {
			worth(t, fmt.Sprintf("sum %d", i), on, p, sum.Uint64(), api.OK)
		} else {
			worth(t, fmt.Sprintf("sum %d", i), on, p, 0, api.ErrOver)
		}
	}
}

func TestWorthOfProofsThatMayNotBe(t *testing.T) {
	for name, c := range map[string]func(p *Proof){
		"Sig": func(p *Proof) { p.Sig = text(401) }, "Token": func(p *Proof) { p.Token += "x" }, "Token, short": func(p *Proof) { p.Token = "x" },
		"Wins": func(p *Proof) { p.Wins = append(p.Wins, win(t, numbered(10, 1))) }, "a Salt": func(p *Proof) { p.Wins[2].Salt = text(33) },
		"a Chan": func(p *Proof) { p.Wins[2].T.Chan += "x" }, "a Commit": func(p *Proof) { p.Wins[0].T.Commit = "" }, "a Sig": func(p *Proof) { p.Wins[1].T.Sig = text(401) },
	} {
		p := full(t)
		c(&p)
		worth(t, "with another "+name, terms(t), p, 0, api.ErrArg)
	}
	// A salt of 33 bytes that opens wins, but stands in no proof.
	long := win(t, func(w *Win) { w.Salt, w.T.Commit = text(33), draw.Commit(text(33), 3) })
	won(t, "a salt of 33 bytes", long, 100, api.OK)
	worth(t, "a salt of 33 bytes", terms(t), Proof{Wins: []Win{long}}, 0, api.ErrArg)
	whole := win(t, func(w *Win) { w.Salt, w.T.Commit = text(32), draw.Commit(text(32), 3) })
	worth(t, "a salt of 32 bytes", terms(t), Proof{Wins: []Win{whole}}, 100, api.OK)
}

// Errors of Worth, made on a full proof, in its order. Those of one part
// exclude each other, so each group has one or none in a proof.
func TestWorthOfTheFirstOfSeveralErrors(t *testing.T) {
	type wrong struct {
		name string
		e    api.Errno
		do   func(x *Terms, p *Proof)
	}
	fine := wrong{"", api.OK, func(x *Terms, p *Proof) {}}
	groups := [][]wrong{
		{fine, {"a salt too long", api.ErrArg, func(x *Terms, p *Proof) { p.Wins[2].Salt = text(33) }}},
		{fine, {"another amount", api.ErrSig, func(x *Terms, p *Proof) { p.Amount++ }}, {"no amount", api.ErrSig, func(x *Terms, p *Proof) { p.Amount = 0 }}},
		{fine,
			{"another token", api.ErrForm, func(x *Terms, p *Proof) { p.Token = elsewhere }},
			{"an anchor too short", api.ErrArg, func(x *Terms, p *Proof) { x.Anchor = "x" }},
			{"tokens too dear", api.ErrOver, func(x *Terms, p *Proof) { x.Unit = 1 << 62 }}},
		{fine,
			{"win 0 of another channel", api.ErrRule, func(x *Terms, p *Proof) { p.Wins[0].T.Chan = elsewhere }},
			{"win 0 opens nothing", api.ErrForm, func(x *Terms, p *Proof) { p.Wins[0].Salt = "pepper" }},
			{"win 0 of no many", api.ErrArg, func(x *Terms, p *Proof) { p.Wins[0].T.Many = 0 }}},
		{fine,
			{"win 1 as win 0", api.ErrTwice, func(x *Terms, p *Proof) { p.Wins[1].T.Serial = 7 }},
			{"win 1 of another face", api.ErrSig, func(x *Terms, p *Proof) { p.Wins[1].T.Face++ }}},
		{fine, {"win 2 of too much", api.ErrOver, func(x *Terms, p *Proof) { p.Wins[2] = win(t, numbered(9, math.MaxUint64)) }}},
	}
	whole, on := full(t), terms(t)
	for set := range 2 * 3 * 4 * 4 * 3 * 2 {
		x, p, what, e := on, whole, "", api.OK
		p.Wins = slices.Clone(whole.Wins)
		// The last group goes first, as it lays a whole win, whose salt the first one changes.
		var picked []wrong
		for _, g := range groups {
			picked, set = append(picked, g[set%len(g)]), set/len(g)
		}
		for _, w := range slices.Backward(picked) {
			w.do(&x, &p)
		}
		for _, w := range picked {
			what += w.name + " "
			if e == api.OK {
				e = w.e
			}
		}
		want := uint64(0)
		if e == api.OK {
			want = 11152
		}
		worth(t, what, x, p, want, e)
	}
}

// P8.4

func TestRightAtItsBounds(t *testing.T) {
	right(t, "nothing", Proof{}, true)
	for _, n := range []int{0, 1, 399, 400, 401, 402, 4096, 4097, 65536} {
		right(t, fmt.Sprintf("Sig of %d bytes", n), Proof{Sig: text(n)}, n <= 400)
	}
	for _, n := range []int{0, 1, 8, 15, 16, 17, 32, 4097, 65552} {
		right(t, fmt.Sprintf("Token of %d bytes", n), Proof{Token: text(n)}, n == 0 || n == 16)
	}
	for n := range 6 {
		right(t, fmt.Sprintf("%d wins", n), filled(n), n <= 3)
	}
	right(t, "300 wins", filled(300), false)
}

func TestRightOfEachWin(t *testing.T) {
	for wins := 1; wins <= 3; wins++ {
		for at := range wins {
			for _, n := range []int{0, 1, 15, 16, 17, 31, 32, 33, 399, 400, 401, 4097, 65552} {
				for name, x := range map[string]struct {
					do   func(w *Win)
					want bool
				}{
					"Chan":   {func(w *Win) { w.T.Chan = text(n) }, n == 16},
					"Commit": {func(w *Win) { w.T.Commit = text(n) }, n == 16},
					"Sig":    {func(w *Win) { w.T.Sig = text(n) }, n <= 400},
					"Salt":   {func(w *Win) { w.Salt = text(n) }, n <= 32},
				} {
					p := filled(wins)
					x.do(&p.Wins[at])
					right(t, fmt.Sprintf("win %d of %d, %s of %d bytes", at, wins, name, n), p, x.want)
				}
			}
		}
	}
}

// Right asks of numbers nothing, and of signatures nothing but their length.
func TestRightOfAnyNumbers(t *testing.T) {
	for _, n := range []uint64{0, 1, 1 << 32, 1<<32 + 1, math.MaxUint64} {
		w := Win{T: Ticket{Chan: channel, Serial: n, Face: n, Wins: n, Many: n, Commit: channel, Client: n}, Drawn: n}
		right(t, fmt.Sprintf("all %d", n), Proof{Amount: n, Wins: []Win{w, w, w}}, true)
	}
}

func TestEncodeByItsBytes(t *testing.T) {
	if got, want := Encode(Proof{}), strings.Repeat("\x00", 13); got != want {
		t.Errorf("Encode of nothing = %x; want %x", got, want)
	}
	p := Proof{Amount: 258, Sig: "sg", Token: elsewhere, Wins: []Win{{
		T:    Ticket{Chan: channel, Serial: 1, Face: 2, Wins: 3, Many: 4, Commit: elsewhere, Client: 5, Sig: "sig"},
		Salt: "salt", Drawn: 6,
	}}}
	want := "\x00\x00\x00\x00\x00\x00\x01\x02" + "\x00\x02sg" + "\x00\x10another one's cd" + "\x01" +
		"the channel's ab" + "\x00\x00\x00\x00\x00\x00\x00\x01" + "\x00\x00\x00\x00\x00\x00\x00\x02" + "\x00\x00\x00\x00\x00\x00\x00\x03" + "\x00\x00\x00\x00\x00\x00\x00\x04" +
		"another one's cd" + "\x00\x00\x00\x00\x00\x00\x00\x05" + "\x00\x03sig" + "\x00\x04salt" + "\x00\x00\x00\x00\x00\x00\x00\x06"
	if got := Encode(p); got != want {
		t.Errorf("Encode = %x; want %x", got, want)
	}
	for n := range 4 {
		if got, want := Encode(filled(n)), proofBytes(filled(n), n); got != want {
			t.Errorf("Encode of %d wins = %x; want %x", n, got, want)
		}
	}
}

func TestDecodeOfWhatWasEncoded(t *testing.T) {
	longest := filled(3)
	longest.Sig = text(400)
	for i := range longest.Wins {
		longest.Wins[i].T.Sig, longest.Wins[i].Salt = text(400), text(32)
	}
	for i, p := range []Proof{{}, {Amount: 1}, {Amount: math.MaxUint64}, {Sig: "s"}, {Sig: text(400)}, {Token: text(16)}, {Wins: []Win{}}, filled(0), filled(1), filled(2), filled(3), longest, full(t)} {
		decodes(t, fmt.Sprintf("proof %d", i), proofBytes(p, len(p.Wins)), p)
		decodes(t, fmt.Sprintf("proof %d, encoded", i), Encode(p), p)
	}
}

func TestDecodeOfWhatIsCutOff(t *testing.T) {
	for n := range 4 {
		for _, p := range []Proof{filled(n), {Wins: filled(n).Wins}} {
			s := proofBytes(p, n)
			for end := range len(s) {
				fails(t, fmt.Sprintf("%d of %d bytes", end, len(s)), s[:end], api.ErrShort)
			}
			decodes(t, "the whole", s, p)
		}
	}
	fails(t, "nothing", "", api.ErrShort)
}

func TestDecodeOfBytesThatAreLeft(t *testing.T) {
	for n := range 4 {
		for _, more := range []string{"\x00", "x", text(16), text(500), proofBytes(filled(n), n), proofBytes(Proof{}, 0)} {
			fails(t, fmt.Sprintf("%d wins and %d bytes", n, len(more)), proofBytes(filled(n), n)+more, api.ErrForm)
		}
	}
}

func TestDecodeOfHowManyWinsAreSaid(t *testing.T) {
	for has := range 7 {
		for said := range 256 {
			what, s := fmt.Sprintf("%d wins, %d said", has, said), proofBytes(filled(has), said)
			switch {
			case has < min(said, 4):
				fails(t, what, s, api.ErrShort)
			case has == said && said <= 3:
				decodes(t, what, s, filled(has))
			default:
				fails(t, what, s, api.ErrForm)
			}
		}
	}
}

// Of more than four wins the fifth is not read: what is wrong there is not told.
func TestDecodeReadsFourWinsAtMost(t *testing.T) {
	five := filled(5)
	five.Wins[4].Salt = text(33)
	fails(t, "a fifth salt too long", proofBytes(five, 5), api.ErrForm)
	s := proofBytes(filled(5), 5)
	fails(t, "a fifth win cut off", s[:len(s)-1], api.ErrForm)
	four := filled(4)
	four.Wins[3].Salt = text(33)
	for _, said := range []int{4, 5, 255} {
		fails(t, "a fourth salt too long", proofBytes(four, said), api.ErrBig)
		s := proofBytes(filled(4), said)
		fails(t, "a fourth win cut off", s[:len(s)-1], api.ErrShort)
	}
}

func TestDecodeOfLengths(t *testing.T) {
	for _, n := range []int{0, 1, 15, 16, 17, 31, 32, 33, 255, 256, 399, 400, 401, 4095, 4096, 4097, 65535} {
		for name, x := range map[string]struct {
			do   func(p *Proof)
			most int
		}{
			"Sig":            {func(p *Proof) { p.Sig = text(n) }, 400},
			"Token":          {func(p *Proof) { p.Token = text(n) }, 16},
			"the first Sig":  {func(p *Proof) { p.Wins[0].T.Sig = text(n) }, 400},
			"the last Sig":   {func(p *Proof) { p.Wins[2].T.Sig = text(n) }, 400},
			"the first Salt": {func(p *Proof) { p.Wins[0].Salt = text(n) }, 32},
			"the last Salt":  {func(p *Proof) { p.Wins[2].Salt = text(n) }, 32},
		} {
			p := filled(3)
			x.do(&p)
			what, s := fmt.Sprintf("%s of %d bytes", name, n), proofBytes(p, 3)
			switch {
			case n > x.most:
				fails(t, what, s, api.ErrBig)
				fails(t, what+", and a byte", s+"x", api.ErrBig)
			case name == "Token" && n != 0 && n != 16:
				fails(t, what, s, api.ErrForm)
			default:
				decodes(t, what, s, p)
			}
		}
	}
}

// The Reader's first error comes ahead of what may not be.
func TestDecodeOfTheFirstError(t *testing.T) {
	p := filled(2)
	p.Token = "x"
	s := proofBytes(p, 2)
	fails(t, "a token of 1 byte", s, api.ErrForm)
	for end := range len(s) {
		fails(t, fmt.Sprintf("a token of 1 byte, %d of %d bytes", end, len(s)), s[:end], api.ErrShort)
	}
	p.Wins[1].Salt = text(33)
	fails(t, "a token of 1 byte, a salt of 33", proofBytes(p, 2), api.ErrBig)
	p.Token = text(17)
	s = proofBytes(p, 2)
	fails(t, "a token of 17 bytes, cut off behind its length", s[:8+2+300+2], api.ErrBig)
	fails(t, "a token of 17 bytes, cut off", s[:len(s)-1], api.ErrBig)
	p.Sig = text(401)
	fails(t, "a Sig of 401 bytes, cut off ahead of its length", proofBytes(p, 2)[:9], api.ErrShort)
	fails(t, "a Sig of 401 bytes, cut off behind its length", proofBytes(p, 2)[:10], api.ErrBig)
}

func TestWhatIsDecodedEncodedAreTheseBytes(t *testing.T) {
	s := proofBytes(filled(2), 2)
	texts := []string{s, proofBytes(Proof{}, 0), proofBytes(filled(1), 1), proofBytes(filled(3), 3)}
	for at := range len(s) {
		for _, turn := range []byte{1, 0x80, 0xff} {
			b := []byte(s)
			b[at] ^= turn
			texts = append(texts, string(b))
		}
	}
	decoded := 0
	for _, s := range texts {
		if p, e := Decode(s); e == api.OK {
			decoded++
			if !Right(p) || Encode(p) != s {
				t.Errorf("Decode of %x, encoded, are other bytes", s)
			}
		} else {
			fails(t, "a changed byte", s, e)
		}
	}
	if decoded < len(s) {
		t.Errorf("%d of %d texts are decoded", decoded, len(texts))
	}
}

func TestSame(t *testing.T) {
	for n := range 4 {
		if !Same(filled(n), filled(n)) {
			t.Errorf("two proofs of the same %d wins differ", n)
		}
		for m := range 5 {
			if Same(filled(n), filled(m)) != (n == m) {
				t.Errorf("proofs of %d and of %d wins", n, m)
			}
		}
	}
	if !Same(Proof{}, Proof{Wins: []Win{}}) || !Same(Proof{Wins: []Win{}}, Proof{}) || !Same(Proof{Wins: make([]Win, 0, 5)}, Proof{Wins: nil}) {
		t.Error("no list and an empty one differ")
	}
	a, b := filled(3), filled(3)
	b.Wins[0], b.Wins[1] = b.Wins[1], b.Wins[0]
	if Same(a, b) {
		t.Error("wins in another order are the same")
	}
	b = filled(3)
	b.Wins[2] = b.Wins[1]
	if Same(a, b) {
		t.Error("a win twice is another one")
	}
}

func TestSameOfOneFieldAlone(t *testing.T) {
	for name, do := range map[string]func(p *Proof){
		"Amount": func(p *Proof) { p.Amount++ }, "Amount, high": func(p *Proof) { p.Amount ^= 1 << 63 }, "Sig": func(p *Proof) { p.Sig = text(301) }, "Sig, cut": func(p *Proof) { p.Sig = p.Sig[1:] }, "Token": func(p *Proof) { p.Token = elsewhere }, "Token, none": func(p *Proof) { p.Token = "" },
	} {
		differ(t, name, do)
	}
	for at := range 3 {
		for name, do := range map[string]change{
			"Chan": func(w *Win) { w.T.Chan = elsewhere }, "Serial": func(w *Win) { w.T.Serial++ }, "Face": func(w *Win) { w.T.Face++ }, "Wins": func(w *Win) { w.T.Wins++ }, "Many": func(w *Win) { w.T.Many++ },
			"Commit": func(w *Win) { w.T.Commit = elsewhere }, "Client": func(w *Win) { w.T.Client++ }, "Sig": func(w *Win) { w.T.Sig += "x" }, "Salt": func(w *Win) { w.Salt += "x" }, "Drawn": func(w *Win) { w.Drawn++ },
		} {
			differ(t, fmt.Sprintf("%s of win %d", name, at), func(p *Proof) { do(&p.Wins[at]) })
		}
	}
}

// differ checks that a proof and the one that it is changed to are not the
// same, and are encoded to other bytes, each of which is decoded as it was.
func differ(t *testing.T, what string, do func(p *Proof)) {
	t.Helper()
	a, b := filled(3), filled(3)
	do(&b)
	if Same(a, b) || Same(b, a) || !Same(b, b) {
		t.Errorf("the same with another %s", what)
	}
	if Encode(a) == Encode(b) {
		t.Errorf("the same bytes with another %s", what)
	}
	decodes(t, "another "+what, Encode(b), b)
}

// Same asks not whether proofs may be.
func TestSameOfProofsThatMayNotBe(t *testing.T) {
	if !Same(Proof{Sig: text(401), Token: "x", Wins: make([]Win, 5)}, Proof{Sig: text(401), Token: "x", Wins: make([]Win, 5)}) {
		t.Error("two that may not be differ")
	}
	if Same(Proof{Token: "x"}, Proof{Token: "y"}) || Same(Proof{Sig: text(401)}, Proof{Sig: text(402)}) {
		t.Error("two that may not be are the same")
	}
	if a, b := filled(4), filled(5); Same(a, b) || Same(b, a) {
		t.Error("4 and 5 wins are the same")
	}
}

// Memory.

func TestListsAreNotChanged(t *testing.T) {
	room := append(full(t).Wins, filled(3).Wins...)
	kept := slices.Clone(room)
	for n := range len(room) + 1 {
		p := full(t)
		p.Wins = room[:n]
		Worth(terms(t), p)
		Right(p)
		Encode(p)
		Same(p, full(t))
		Same(full(t), p)
		if !slices.Equal(room, kept) {
			t.Fatalf("a list of %d wins, or the room behind it, is changed", n)
		}
	}
}

func TestDecodedIsNewMemory(t *testing.T) {
	for n := range 4 {
		s := Encode(filled(n))
		first, _ := Decode(s)
		second, _ := Decode(s)
		room := first.Wins[:cap(first.Wins)]
		for i := range room {
			room[i] = Win{}
		}
		if !Same(second, filled(n)) || s != proofBytes(filled(n), n) {
			t.Errorf("a list of %d wins shares its memory", n)
		}
		decodes(t, "again", s, filled(n))
	}
}

// shares tells whether a text that is not empty lies within another one's memory.
func shares(part, whole string) bool {
	if part == "" || whole == "" {
		return false
	}
	at, from := uintptr(unsafe.Pointer(unsafe.StringData(part))), uintptr(unsafe.Pointer(unsafe.StringData(whole)))
	return at < from+uintptr(len(whole)) && from < at+uintptr(len(part))
}

func TestTextsAreNewMemory(t *testing.T) {
	p := filled(3)
	s := Encode(p)
	q, _ := Decode(s)
	answered := []string{q.Sig, q.Token}
	for _, w := range q.Wins {
		answered = append(answered, w.T.Chan, w.T.Commit, w.T.Sig, w.Salt)
	}
	for i, a := range answered {
		if shares(a, s) {
			t.Errorf("the text %d of a proof is the memory that it was decoded of", i)
		}
		for _, b := range answered[:i] {
			if shares(a, b) {
				t.Errorf("the text %d of a proof is another one's memory", i)
			}
		}
	}
	x := p.Wins[0].T
	if shares(Voucher(x.Chan, 5), x.Chan) || shares(Text(x), x.Chan) || shares(Text(x), x.Commit) || shares(s, p.Sig) {
		t.Error("a text shares the memory of what it was made of")
	}
}

// P8.5

func TestNothingIsWorthMoreForBeingShownTwice(t *testing.T) {
	p := full(t)
	once := Proof{Wins: p.Wins[:1]}
	first, e := Worth(terms(t), once)
	if e != api.OK || first != 100 {
		t.Fatalf("Worth of a win = %d, %d", first, int(e))
	}
	// All lists of at most 3 of the wins: worth is what each of them is worth, once.
	for n := range 4 {
		for set := range []int{1, 3, 9, 27}[n] {
			var wins []Win
			seen, want := map[int]bool{}, uint64(0)
			for range n {
				wins, want, set = append(wins, p.Wins[set%3]), want+p.Wins[set%3].T.Face, set/3
				seen[int(wins[len(wins)-1].T.Serial)] = true
			}
			if len(seen) == n {
				worth(t, "each win once", terms(t), Proof{Wins: wins}, want, api.OK)
			} else {
				worth(t, "a win twice", terms(t), Proof{Wins: wins}, 0, api.ErrTwice)
			}
		}
	}
	for range 3 {
		worth(t, "the same again", terms(t), p, 11152, api.OK)
	}
	// Two tickets of one serial are worth one of them, whatever else they say.
	other := win(t, func(w *Win) { w.T.Face, w.T.Client = 1000, 9 })
	worth(t, "another ticket of the serial", terms(t), Proof{Wins: []Win{other}}, 1000, api.OK)
	worth(t, "two tickets of the serial", terms(t), Proof{Wins: []Win{p.Wins[0], other}}, 0, api.ErrTwice)
}

func TestWhatIsEncodedIsWorthTheSame(t *testing.T) {
	p := full(t)
	q, e := Decode(Encode(p))
	if e != api.OK || !Same(p, q) {
		t.Fatalf("Decode = %d", int(e))
	}
	worth(t, "decoded", terms(t), q, 11152, api.OK)
}

func FuzzDecode(f *testing.F) {
	f.Add("")
	f.Add(strings.Repeat("\x00", 13))
	for n := range 6 {
		f.Add(proofBytes(filled(n), n))
	}
	f.Add(proofBytes(Proof{Token: "x"}, 0))
	f.Add(proofBytes(Proof{Wins: make([]Win, 3)}, 255))
	f.Add(Encode(full(f)))
	f.Fuzz(func(t *testing.T, s string) {
		p, e := Decode(s)
		if e != api.OK {
			if !Same(p, Proof{}) || e != api.ErrShort && e != api.ErrForm && e != api.ErrBig {
				t.Errorf("Decode of %x = %x, %d", s, p, int(e))
			}
			return
		}
		if !Right(p) || Encode(p) != s || proofBytes(p, len(p.Wins)) != s {
			t.Errorf("Decode of %x is another proof", s)
		}
		if n, e := Worth(terms(t), p); e != api.OK && n != 0 {
			t.Errorf("Worth = %d, %d", n, int(e))
		}
	})
}
