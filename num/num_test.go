package num

import (
	"encoding/binary"
	"math"
	"math/big"
	"strings"
	"testing"

	"turnstile/api"
)

const top = math.MaxUint64

// edges are numbers round which a half, a sign or the whole overflows, and some with no pattern.
func edges() []uint64 {
	l := []uint64{0, 1, 2, 3, 7, 10, 255, 256, 0x0123456789abcdef, 0xfedcba9876543210, 0xdeadbeefcafef00d, 6700417, 641}
	for _, bit := range []int{16, 31, 32, 33, 40, 48, 62, 63} {
		n := uint64(1) << bit
		l = append(l, n-1, n, n+1)
	}
	return append(l, top-2, top-1, top, 3<<62, mask<<half, mask<<half+1)
}

func bigOf(n uint64) *big.Int { return new(big.Int).SetUint64(n) }

// checkBig holds an answer against a whole number without end.
func checkBig(t *testing.T, call string, args []uint64, got uint64, e api.Errno, want *big.Int) {
	t.Helper()
	if !want.IsUint64() {
		if got != 0 || e != api.ErrOver {
			t.Errorf("%s%v = %d, %d; want 0, ErrOver", call, args, got, int(e))
		}
		return
	}
	if got != want.Uint64() || e != api.OK {
		t.Errorf("%s%v = %d, %d; want %v, OK", call, args, got, int(e), want)
	}
}

// P1.1

func TestAddSubMulRoundTheirEdges(t *testing.T) {
	for _, x := range []struct {
		name string
		f    func(a, b uint64) (uint64, api.Errno)
		a, b uint64
		want uint64
		e    api.Errno
	}{
		{"Add", Add, 0, 0, 0, api.OK},
		{"Add", Add, 1, 2, 3, api.OK},
		{"Add", Add, top - 1, 1, top, api.OK},
		{"Add", Add, 0, top, top, api.OK},
		{"Add", Add, top, 1, 0, api.ErrOver},
		{"Add", Add, 1, top, 0, api.ErrOver},
		{"Add", Add, top, top, 0, api.ErrOver},
		{"Add", Add, 1 << 63, 1<<63 - 1, top, api.OK},
		{"Add", Add, 1 << 63, 1 << 63, 0, api.ErrOver},
		{"Sub", Sub, 5, 2, 3, api.OK},
		{"Sub", Sub, 0, 0, 0, api.OK},
		{"Sub", Sub, top, top, 0, api.OK},
		{"Sub", Sub, top, 0, top, api.OK},
		{"Sub", Sub, 2, 3, 0, api.ErrOver},
		{"Sub", Sub, 0, 1, 0, api.ErrOver},
		{"Sub", Sub, 0, top, 0, api.ErrOver},
		{"Mul", Mul, 6, 7, 42, api.OK},
		{"Mul", Mul, 0, top, 0, api.OK},
		{"Mul", Mul, top, 1, top, api.OK},
		{"Mul", Mul, 1<<32 + 1, 1<<32 - 1, top, api.OK},
		{"Mul", Mul, 641, 6700417, 1<<32 + 1, api.OK},
		{"Mul", Mul, 1 << 32, 1 << 32, 0, api.ErrOver},
		{"Mul", Mul, 1 << 63, 2, 0, api.ErrOver},
		{"Mul", Mul, 2, 1 << 63, 0, api.ErrOver},
		{"Mul", Mul, top, 2, 0, api.ErrOver},
		{"Mul", Mul, top, top, 0, api.ErrOver},
	} {
		if got, e := x.f(x.a, x.b); got != x.want || e != x.e {
			t.Errorf("%s(%d, %d) = %d, %d; want %d, %d", x.name, x.a, x.b, got, int(e), x.want, int(x.e))
		}
	}
}

func TestAddSubMulAreWholeNumbers(t *testing.T) {
	for _, a := range edges() {
		for _, b := range edges() {
			args := []uint64{a, b}
			got, e := Add(a, b)
			checkBig(t, "Add", args, got, e, new(big.Int).Add(bigOf(a), bigOf(b)))
			got, e = Sub(a, b)
			checkBig(t, "Sub", args, got, e, new(big.Int).Sub(bigOf(a), bigOf(b)))
			got, e = Mul(a, b)
			checkBig(t, "Mul", args, got, e, new(big.Int).Mul(bigOf(a), bigOf(b)))
		}
	}
}

func TestSum(t *testing.T) {
	for _, x := range []struct {
		l    []uint64
		want uint64
		e    api.Errno
	}{
		{nil, 0, api.OK},
		{[]uint64{}, 0, api.OK},
		{[]uint64{0}, 0, api.OK},
		{[]uint64{top}, top, api.OK},
		{[]uint64{1, 2, 3, 4}, 10, api.OK},
		{[]uint64{1 << 63, 1 << 62, 1<<62 - 1}, top, api.OK},
		{[]uint64{1 << 63, 1 << 62, 1 << 62}, 0, api.ErrOver},
		{[]uint64{top, 0, 1}, 0, api.ErrOver},
		{[]uint64{top, 1, 5}, 0, api.ErrOver},
		{[]uint64{top, top, 2}, 0, api.ErrOver},
		{[]uint64{0, top, 0}, top, api.OK},
	} {
		if got, e := Sum(x.l...); got != x.want || e != x.e {
			t.Errorf("Sum(%v) = %d, %d; want %d, %d", x.l, got, int(e), x.want, int(x.e))
		}
	}
	if got, e := Sum(); got != 0 || e != api.OK {
		t.Errorf("Sum() = %d, %d", got, int(e))
	}
}

func TestSumAddsLongListsAndLeavesThemAlone(t *testing.T) {
	l := make([]uint64, 1000, 1001)
	for i := range l {
		l[i] = uint64(i)
	}
	if got, e := Sum(l...); got != 499500 || e != api.OK {
		t.Errorf("Sum of 0 to 999 = %d, %d", got, int(e))
	}
	for i, n := range l[:1001] {
		if i < 1000 && n != uint64(i) || i == 1000 && n != 0 {
			t.Fatalf("item %d of the list is now %d", i, n)
		}
	}
}

// P1.2

func TestMulDivAndRemRoundTheirEdges(t *testing.T) {
	for _, x := range []struct {
		a, b, c uint64
		want    uint64
		e       api.Errno
		left    uint64
	}{
		{7, 3, 2, 10, api.OK, 1},
		{7, 3, 21, 1, api.OK, 0},
		{7, 3, 22, 0, api.OK, 21},
		{0, 5, 3, 0, api.OK, 0},
		{0, 0, 1, 0, api.OK, 0},
		{1 << 63, 6, 4, 13835058055282163712, api.OK, 0},
		{top, top, top, top, api.OK, 0},
		{top, 1, 1, top, api.OK, 0},
		{top, top, top - 1, 0, api.ErrOver, 1},
		{1 << 32, 1 << 32, 1, 0, api.ErrOver, 0},
		{1 << 32, 1 << 32, 2, 1 << 63, api.OK, 0},
		{1 << 63, 4, 2, 0, api.ErrOver, 0},
		{1 << 63, 4, 3, 12297829382473034410, api.OK, 2},
		{top, 10, 7, 0, api.ErrOver, 3},
		{top, 10, 10, top, api.OK, 0},
		{top, 10, 9, 0, api.ErrOver, 6},
		{top, 10, 11, 16769767339735956013, api.OK, 7},
	} {
		if got, e := MulDiv(x.a, x.b, x.c); got != x.want || e != x.e {
			t.Errorf("MulDiv(%d, %d, %d) = %d, %d; want %d, %d", x.a, x.b, x.c, got, int(e), x.want, int(x.e))
		}
		if got, e := Rem(x.a, x.b, x.c); got != x.left || e != api.OK {
			t.Errorf("Rem(%d, %d, %d) = %d, %d; want %d, OK", x.a, x.b, x.c, got, int(e), x.left)
		}
	}
}

func TestNothingGoesIntoNone(t *testing.T) {
	for _, a := range edges() {
		for _, b := range edges() {
			if got, e := MulDiv(a, b, 0); got != 0 || e != api.ErrArg {
				t.Errorf("MulDiv(%d, %d, 0) = %d, %d", a, b, got, int(e))
			}
			if got, e := Rem(a, b, 0); got != 0 || e != api.ErrArg {
				t.Errorf("Rem(%d, %d, 0) = %d, %d", a, b, got, int(e))
			}
		}
	}
}

func TestMulDivAndRemAreWholeNumbers(t *testing.T) {
	for _, a := range edges() {
		for _, b := range edges() {
			whole := new(big.Int).Mul(bigOf(a), bigOf(b))
			for _, c := range edges() {
				if c == 0 {
					continue
				}
				args := []uint64{a, b, c}
				often, left := new(big.Int).QuoRem(whole, bigOf(c), new(big.Int))
				got, e := MulDiv(a, b, c)
				checkBig(t, "MulDiv", args, got, e, often)
				got, e = Rem(a, b, c)
				checkBig(t, "Rem", args, got, e, left)
			}
		}
	}
}

// P1.3

func TestPutIsTheHighestByteFirst(t *testing.T) {
	for _, x := range []struct {
		n    uint64
		want string
	}{
		{0, "\x00\x00\x00\x00\x00\x00\x00\x00"},
		{1, "\x00\x00\x00\x00\x00\x00\x00\x01"},
		{0x0102030405060708, "\x01\x02\x03\x04\x05\x06\x07\x08"},
		{1 << 63, "\x80\x00\x00\x00\x00\x00\x00\x00"},
		{top, "\xff\xff\xff\xff\xff\xff\xff\xff"},
	} {
		if got := Put(x.n); got != x.want {
			t.Errorf("Put(%d) = %q; want %q", x.n, got, x.want)
		}
	}
	for _, n := range edges() {
		if got, want := Put(n), string(binary.BigEndian.AppendUint64(nil, n)); got != want {
			t.Errorf("Put(%d) = %q; want %q", n, got, want)
		}
	}
}

func TestGetTakesTheFirstEightBytes(t *testing.T) {
	for _, x := range []struct {
		s    string
		want uint64
		e    api.Errno
	}{
		{"", 0, api.ErrShort},
		{"\x01", 0, api.ErrShort},
		{"\xff\xff\xff\xff\xff\xff\xff", 0, api.ErrShort},
		{"\xff\xff\xff\xff\xff\xff\xff\xfe", top - 1, api.OK},
		{"\x01\x02\x03\x04\x05\x06\x07\x08", 0x0102030405060708, api.OK},
		{"\x01\x02\x03\x04\x05\x06\x07\x08\x09", 0x0102030405060708, api.OK},
		{"\x00\x00\x00\x00\x00\x00\x00\x01\xff", 1, api.OK},
		{strings.Repeat("\x00", 8) + strings.Repeat("\xff", 100), 0, api.OK},
		{"ééééé", 0xc3a9c3a9c3a9c3a9, api.OK},
	} {
		if got, e := Get(x.s); got != x.want || e != x.e {
			t.Errorf("Get(%q) = %d, %d; want %d, %d", x.s, got, int(e), x.want, int(x.e))
		}
	}
}

func TestIntEndsAtTheHighestInt(t *testing.T) {
	for _, x := range []struct {
		n    uint64
		want int
		e    api.Errno
	}{
		{0, 0, api.OK},
		{42, 42, api.OK},
		{1 << 32, 1 << 32, api.OK},
		{1<<63 - 2, 1<<63 - 2, api.OK},
		{1<<63 - 1, 1<<63 - 1, api.OK},
		{1 << 63, 0, api.ErrOver},
		{1<<63 + 1, 0, api.ErrOver},
		{top, 0, api.ErrOver},
	} {
		if got, e := Int(x.n); got != x.want || e != x.e {
			t.Errorf("Int(%d) = %d, %d; want %d, %d", x.n, got, int(e), x.want, int(x.e))
		}
	}
}

func TestOfBeginsAtNone(t *testing.T) {
	for _, x := range []struct {
		n    int
		want uint64
		e    api.Errno
	}{
		{0, 0, api.OK},
		{1, 1, api.OK},
		{42, 42, api.OK},
		{1<<63 - 1, 1<<63 - 1, api.OK},
		{-1, 0, api.ErrOver},
		{-2, 0, api.ErrOver},
		{-1 << 63, 0, api.ErrOver},
		{-1<<63 + 1, 0, api.ErrOver},
	} {
		if got, e := Of(x.n); got != x.want || e != x.e {
			t.Errorf("Of(%d) = %d, %d; want %d, %d", x.n, got, int(e), x.want, int(x.e))
		}
	}
}

// P1.4

func TestQuotientTimesDivisorAndRestAreTheProduct(t *testing.T) {
	for _, a := range edges() {
		for _, b := range edges() {
			whole, e := Mul(a, b)
			if e != api.OK {
				continue
			}
			for _, c := range edges() {
				if c == 0 {
					continue
				}
				often, e := MulDiv(a, b, c)
				left, f := Rem(a, b, c)
				if e != api.OK || f != api.OK || left >= c {
					t.Fatalf("MulDiv, Rem(%d, %d, %d) = %d, %d, %d, %d", a, b, c, often, int(e), left, int(f))
				}
				back, e := Mul(often, c)
				if e != api.OK {
					t.Fatalf("MulDiv(%d, %d, %d) times %d finds no room", a, b, c, c)
				}
				if back, e = Add(back, left); e != api.OK || back != whole {
					t.Errorf("MulDiv(%d, %d, %d) times %d and Rem = %d, %d; want %d", a, b, c, c, back, int(e), whole)
				}
			}
		}
	}
}

func TestWhatIsPutIsGot(t *testing.T) {
	for _, n := range edges() {
		for _, rest := range []string{"", "x", Put(top)} {
			if got, e := Get(Put(n) + rest); got != n || e != api.OK {
				t.Errorf("Get(Put(%d) + %q) = %d, %d", n, rest, got, int(e))
			}
		}
	}
}

func TestWhatIsAnIntComesBack(t *testing.T) {
	for _, n := range edges() {
		i, e := Int(n)
		if e != api.OK {
			continue
		}
		if got, e := Of(i); got != n || e != api.OK {
			t.Errorf("Of(Int(%d)) = %d, %d", n, got, int(e))
		}
	}
}
