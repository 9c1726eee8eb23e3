package scalar_test

import (
	"math/big"
	"math/rand/v2"
	"slices"
	"testing"

	"farebox/api"
	"farebox/scalar"
)

// order is L, by Go's library.
var order = plus(power(252), decimal("27742317777372353535851937790883648493"))

// chance is a source of numbers that are the same in every run.
func chance(n uint64) *rand.Rand { return rand.New(rand.NewPCG(6, n)) }

func decimal(text string) *big.Int {
	n, _ := new(big.Int).SetString(text, 10)
	return n
}

func hex(text string) *big.Int {
	n, _ := new(big.Int).SetString(text, 16)
	return n
}

func small(n int64) *big.Int { return big.NewInt(n) }

func power(n int) *big.Int { return new(big.Int).Lsh(small(1), uint(n)) }

func plus(n, m *big.Int) *big.Int { return new(big.Int).Add(n, m) }

func product(n, m *big.Int) *big.Int { return new(big.Int).Mul(n, m) }

// about is a number and d.
func about(n *big.Int, d int64) *big.Int { return plus(n, small(d)) }

// multiple is L so many times, and d.
func multiple(times, d int64) *big.Int { return about(product(order, small(times)), d) }

// scalarOf is the bytes of a number below 2^256.
func scalarOf(n *big.Int) api.Scalar {
	var a api.Scalar
	n.FillBytes(a[:])
	slices.Reverse(a[:])
	return a
}

// wideOf is the bytes of a number below 2^512.
func wideOf(n *big.Int) api.Wide {
	var w api.Wide
	n.FillBytes(w[:])
	slices.Reverse(w[:])
	return w
}

// number is what a Scalar means.
func number(a api.Scalar) *big.Int {
	slices.Reverse(a[:])
	return new(big.Int).SetBytes(a[:])
}

// reduced is the canonical Scalar of a number, also of one below 0.
func reduced(n *big.Int) api.Scalar { return scalarOf(new(big.Int).Mod(n, order)) }

// someNumber is a number of so many words of 32 bits, which are at their edges as often as not.
func someNumber(r *rand.Rand, words int) *big.Int {
	edges := []uint32{0, 0, 1, 0x0fffffff, 0x10000000, 0x5cf5d3ec, 0x5cf5d3ed, 0x7fffffff, 0x80000000, 0x88888888, 0xfffffffe, 0xffffffff, 0xffffffff}
	n := new(big.Int)
	for range words {
		word := edges[r.IntN(len(edges))]
		if r.IntN(2) == 0 {
			word = r.Uint32()
		}
		n.Lsh(n, 32)
		n.Add(n, small(int64(word)))
	}
	return n
}

// someScalar is any 32 bytes.
func someScalar(r *rand.Rand) api.Scalar { return scalarOf(someNumber(r, 8)) }

// named are the numbers that the chapter and its examples name.
func named() []api.Scalar {
	var all []api.Scalar
	for _, n := range []*big.Int{
		small(0), small(1), small(2), small(5), small(8), about(order, -2), about(order, -1), order, about(order, 1), about(order, 2),
		about(power(252), -1), power(252), about(power(252), 1), power(253), power(254), about(power(255), -8), about(power(255), -1), power(255),
		multiple(2, -1), multiple(2, 0), multiple(8, 0), multiple(15, -1), multiple(15, 0), multiple(15, 1), about(power(256), -2), about(power(256), -1),
	} {
		all = append(all, scalarOf(n))
	}
	return all
}

// edges are the numbers about all multiples of L and about all powers of 2 below 2^256.
func edges() []api.Scalar {
	all := named()
	for d := int64(-2); d <= 2; d++ {
		for times := range int64(15) {
			all = append(all, scalarOf(multiple(times+1, d)))
		}
		for bit := 2; bit < 256; bit++ {
			all = append(all, scalarOf(about(power(bit), d)))
		}
	}
	return all
}

// ask fails unless an answered Scalar is the canonical one of a number.
func ask(t *testing.T, what string, got api.Scalar, want *big.Int) {
	t.Helper()
	if got != reduced(want) {
		t.Fatalf("%s: %x, want %x", what, number(got), number(reduced(want)))
	}
}

func TestCanonicalP61(t *testing.T) {
	try := func(a api.Scalar) {
		t.Helper()
		if got, want := scalar.Canonical(a), number(a).Cmp(order) < 0; got != want {
			t.Fatalf("Canonical(%x): %v", number(a), got)
		}
	}
	for _, a := range edges() {
		try(a)
	}
	// L and its neighbours with one byte changed: every byte has its say.
	for d := int64(-1); d <= 1; d++ {
		for i := range 32 {
			for change := 1; change < 256; change++ {
				a := scalarOf(about(order, d))
				a[i] ^= byte(change)
				try(a)
			}
		}
	}
	r := chance(1)
	for range 5000 {
		a := someScalar(r)
		try(a)
		a[31] &= 0x1f
		try(a)
	}
}

// askWide asks Reduce of a number, if it is one of 64 bytes.
func askWide(t *testing.T, n *big.Int) {
	t.Helper()
	if n.Sign() >= 0 && n.BitLen() <= 512 {
		ask(t, "Reduce", scalar.Reduce(wideOf(n)), n)
	}
}

func TestReduceP62(t *testing.T) {
	for bit := range 512 {
		for d := int64(-2); d <= 2; d++ {
			askWide(t, about(power(bit), d))
			// L, and what is a little less, from every bit on.
			askWide(t, about(new(big.Int).Lsh(order, uint(bit)), d))
			askWide(t, about(new(big.Int).Lsh(about(order, -1), uint(bit)), d))
		}
	}
	greatest := new(big.Int).Div(power(512), order)
	for d := int64(-40); d <= 40; d++ {
		askWide(t, multiple(1, d))
		askWide(t, about(power(256), d))
		askWide(t, about(product(order, order), d))
		askWide(t, about(product(order, greatest), d))
		askWide(t, about(power(512), d))
	}
	r := chance(2)
	for range 10000 {
		askWide(t, someNumber(r, 16))
		askWide(t, product(order, someNumber(r, 8)))
		askWide(t, about(product(order, someNumber(r, 8)), -1))
	}
}

// TestReduceAboutTheOrderP62 asks numbers whose topmost bits, from any place on, are between 2^252 and L or hardly outside of them: 2^252 is held there as often as L, or once more.
func TestReduceAboutTheOrderP62(t *testing.T) {
	r := chance(22)
	gap := new(big.Int).Sub(order, power(252))
	for bit := range 260 {
		for range 20 {
			inside := new(big.Int).Mod(someNumber(r, 8), gap)
			for _, top := range []*big.Int{power(252), about(power(252), -1), about(order, -1), order, plus(power(252), inside)} {
				n := new(big.Int).Lsh(top, uint(bit))
				askWide(t, n)
				askWide(t, plus(n, about(power(bit), -1)))
				askWide(t, plus(n, new(big.Int).Mod(someNumber(r, 16), power(bit))))
			}
		}
	}
}

// askTwo asks the calls of P6.3, and Mul.
func askTwo(t *testing.T, a, b api.Scalar) {
	t.Helper()
	n, m := number(a), number(b)
	ask(t, "Add", scalar.Add(a, b), plus(n, m))
	ask(t, "Sub", scalar.Sub(a, b), new(big.Int).Sub(n, m))
	ask(t, "Neg", scalar.Neg(a), new(big.Int).Neg(n))
	ask(t, "Mul", scalar.Mul(a, b), product(n, m))
}

func TestSumsP63AndProductsP64(t *testing.T) {
	for _, a := range named() {
		for _, b := range named() {
			askTwo(t, a, b)
		}
	}
	r := chance(3)
	all := edges()
	for _, a := range all {
		askTwo(t, a, all[r.IntN(len(all))])
		askTwo(t, a, someScalar(r))
		askTwo(t, someScalar(r), a)
		askTwo(t, a, a)
	}
	for range 5000 {
		askTwo(t, someScalar(r), someScalar(r))
	}
}

func TestMulAddP64(t *testing.T) {
	try := func(a, b, c api.Scalar) {
		t.Helper()
		ask(t, "MulAdd", scalar.MulAdd(a, b, c), plus(product(number(a), number(b)), number(c)))
	}
	for _, a := range named() {
		for _, b := range named() {
			for _, c := range named() {
				try(a, b, c)
			}
		}
	}
	r := chance(4)
	all := edges()
	for range 10000 {
		try(all[r.IntN(len(all))], all[r.IntN(len(all))], all[r.IntN(len(all))])
		try(someScalar(r), someScalar(r), someScalar(r))
	}
}

func TestInvertP65(t *testing.T) {
	try := func(a api.Scalar) {
		t.Helper()
		want, held := api.Scalar{}, new(big.Int).Mod(number(a), order)
		if held.Sign() > 0 {
			want = scalarOf(new(big.Int).ModInverse(held, order))
		}
		if got, ok := scalar.Invert(a); got != want || ok != (held.Sign() > 0) {
			t.Fatalf("Invert(%x): %x, %v", number(a), number(got), ok)
		}
	}
	for times := range int64(16) {
		try(scalarOf(multiple(times, 0)))
	}
	for _, a := range edges() {
		try(a)
	}
	r := chance(5)
	for range 500 {
		try(someScalar(r))
	}
}

// full is 32 bytes ff.
func full() [32]byte { return scalarOf(about(power(256), -1)) }

func TestClampP66(t *testing.T) {
	try := func(b [32]byte) {
		t.Helper()
		want := b
		want[0] = b[0] / 8 * 8
		want[31] = 64 + b[31]%64
		got := scalar.Clamp(b)
		if got != want {
			t.Fatalf("Clamp(%x): %x", b, got)
		}
		n := number(got)
		if n.Bit(0)+n.Bit(1)+n.Bit(2) > 0 || n.Cmp(power(254)) < 0 || n.Cmp(about(power(255), -8)) > 0 || scalar.Canonical(got) {
			t.Fatalf("Clamp(%x): %x", b, n)
		}
	}
	try([32]byte{})
	try(full())
	for bit := range 256 {
		one, rest := [32]byte{}, full()
		one[bit/8] ^= 1 << (bit % 8)
		rest[bit/8] ^= 1 << (bit % 8)
		try(one)
		try(rest)
	}
	for first := range 256 {
		for last := range 256 {
			try([32]byte{0: byte(first), 31: byte(last)})
		}
	}
	r := chance(6)
	for range 1000 {
		try(someScalar(r))
	}
}

// sumOf is the number of signed digits, or a failure where one is not from -8 to 7.
func sumOf(t *testing.T, digits [64]int8) *big.Int {
	t.Helper()
	sum := new(big.Int)
	for i := 63; i >= 0; i-- {
		if digits[i] < -8 || digits[i] > 7 {
			t.Fatalf("digit %d is %d", i, digits[i])
		}
		sum.Lsh(sum, 4)
		sum.Add(sum, small(int64(digits[i])))
	}
	return sum
}

// askDigits asks Digits of any 32 bytes.
func askDigits(t *testing.T, a api.Scalar) {
	t.Helper()
	digits, ok := scalar.Digits(a)
	if ok != (number(a).Cmp(order) < 0) {
		t.Fatalf("Digits(%x) says %v", number(a), ok)
	}
	if !ok && digits != [64]int8{} {
		t.Fatalf("Digits(%x): %v, refused", number(a), digits)
	}
	if ok && sumOf(t, digits).Cmp(number(a)) != 0 {
		t.Fatalf("Digits(%x): %v", number(a), digits)
	}
}

func TestDigitsP67(t *testing.T) {
	for n := range int64(70000) {
		askDigits(t, scalarOf(small(n)))
	}
	for _, a := range edges() {
		askDigits(t, a)
	}
	for times := range int64(15) {
		askDigits(t, scalarOf(multiple(times+1, -1)))
		askDigits(t, scalarOf(multiple(times+1, 0)))
	}
	askDigits(t, full())
	r := chance(7)
	for range 5000 {
		a := someScalar(r)
		askDigits(t, a)
		askDigits(t, scalar.Add(a, api.Scalar{}))
	}
}

// TestDigitsCarryP67 asks carries that go through many digits, from every place to every other.
func TestDigitsCarryP67(t *testing.T) {
	for low := range 63 {
		for high := low; high < 63; high++ {
			ones := new(big.Int).Sub(power(4*high+4), power(4*low))
			ones.Div(ones, small(15)) // 1 at all places from low to high
			for digit := range int64(16) {
				n := product(ones, small(digit))
				askDigits(t, scalarOf(n))
				if n.Cmp(power(4*low)) > 0 {
					askDigits(t, scalarOf(plus(n, power(4*low))))
					askDigits(t, scalarOf(about(n, -1)))
				}
			}
		}
	}
	// An 8 with 62 sevens above it: its carry goes up to the topmost digit.
	sevens := product(new(big.Int).Div(about(power(252), -1), small(15)), small(7))
	digits, ok := scalar.Digits(scalarOf(about(sevens, 1)))
	want := [64]int8{63: 1}
	for i := range 63 {
		want[i] = -8
	}
	if !ok || digits != want {
		t.Errorf("Digits of 62 sevens and an eight: %v, %v", digits, ok)
	}
	// 2^252 - 1 is 63 times f.
	if digits, ok := scalar.Digits(scalarOf(about(power(252), -1))); !ok || digits != [64]int8{0: -1, 63: 1} {
		t.Errorf("Digits(2^252 - 1): %v, %v", digits, ok)
	}
}

func TestAllAnswersAreCanonicalP68(t *testing.T) {
	try := func(a, b, c api.Scalar) {
		t.Helper()
		inverse, _ := scalar.Invert(a)
		wide := api.Wide{}
		copy(wide[:], a[:])
		copy(wide[32:], b[:])
		for i, answer := range []api.Scalar{
			scalar.Reduce(wide), scalar.Add(a, b), scalar.Sub(a, b), scalar.Neg(a), scalar.Mul(a, b), scalar.MulAdd(a, b, c), inverse,
		} {
			if number(answer).Cmp(order) >= 0 || !scalar.Canonical(answer) {
				t.Fatalf("answer %d to %x, %x, %x: %x", i, a, b, c, answer)
			}
		}
	}
	r := chance(8)
	for _, a := range named() {
		for _, b := range named() {
			try(a, b, someScalar(r))
		}
	}
	for range 500 {
		try(someScalar(r), someScalar(r), someScalar(r))
	}
}

// TestSameNumberP68 asks that Scalars of one number modulo L have the same answers.
func TestSameNumberP68(t *testing.T) {
	r := chance(9)
	for range 200 {
		a, b, c := reduced(someNumber(r, 8)), reduced(someNumber(r, 8)), reduced(someNumber(r, 8))
		for times := range int64(15) {
			more := func(x api.Scalar) api.Scalar { return scalarOf(plus(number(x), multiple(times, 0))) }
			alike(t, "Add", scalar.Add(more(a), more(b)), scalar.Add(a, b))
			alike(t, "Sub", scalar.Sub(more(a), b), scalar.Sub(a, more(b)))
			alike(t, "Neg", scalar.Neg(more(a)), scalar.Neg(a))
			alike(t, "Mul", scalar.Mul(more(a), b), scalar.Mul(a, more(b)))
			alike(t, "MulAdd", scalar.MulAdd(more(a), more(b), more(c)), scalar.MulAdd(a, b, c))
		}
		inverse, ok := scalar.Invert(a)
		other, also := scalar.Invert(scalarOf(plus(number(a), multiple(14, 0))))
		alike(t, "Invert", inverse, other)
		if ok != also {
			t.Fatalf("Invert(%x): %v, %v", a, ok, also)
		}
	}
}

// alike fails unless two answers are the same bytes.
func alike(t *testing.T, what string, a, b api.Scalar) {
	t.Helper()
	if a != b {
		t.Fatalf("%s: %x and %x", what, number(a), number(b))
	}
}

func TestLawsOfAFieldP68(t *testing.T) {
	zero, one := api.Scalar{}, api.Scalar{1}
	try := func(a, b, c api.Scalar) {
		t.Helper()
		alike(t, "a sum turned about", scalar.Add(a, b), scalar.Add(b, a))
		alike(t, "a sum grouped otherwise", scalar.Add(scalar.Add(a, b), c), scalar.Add(a, scalar.Add(b, c)))
		alike(t, "a product turned about", scalar.Mul(a, b), scalar.Mul(b, a))
		alike(t, "a product grouped otherwise", scalar.Mul(scalar.Mul(a, b), c), scalar.Mul(a, scalar.Mul(b, c)))
		alike(t, "a product with a sum", scalar.Mul(a, scalar.Add(b, c)), scalar.Add(scalar.Mul(a, b), scalar.Mul(a, c)))
		alike(t, "a product and a sum", scalar.MulAdd(a, b, c), scalar.Add(scalar.Mul(a, b), c))
		alike(t, "a sum with 0, a product with 1", scalar.Add(a, zero), scalar.Mul(a, one))
		alike(t, "a product with 0", scalar.Mul(a, zero), zero)
		alike(t, "a sum with what is taken away", scalar.Add(a, scalar.Neg(a)), zero)
		alike(t, "a difference", scalar.Sub(a, b), scalar.Add(a, scalar.Neg(b)))
		inverse, ok := scalar.Invert(a)
		if ok {
			alike(t, "a product with the inverse", scalar.Mul(a, inverse), one)
		} else {
			alike(t, "what has no inverse", scalar.Add(a, zero), zero)
		}
	}
	r := chance(10)
	for _, a := range named() {
		for _, b := range named() {
			try(a, b, someScalar(r))
		}
	}
	for range 500 {
		try(someScalar(r), someScalar(r), someScalar(r))
	}
}

func TestExamples(t *testing.T) {
	is := func(n *big.Int) api.Scalar { return scalarOf(n) }
	last := about(order, -1)
	above := hex("0ffffffffffffffffffffffffffffffec6ef5bf4737dcf70d6ec31748d98951d")
	zero, one, two, five := is(small(0)), is(small(1)), is(small(2)), is(small(5))
	for i, c := range []struct {
		got  api.Scalar
		want *big.Int
	}{
		{scalar.Reduce(wideOf(about(power(512), -1))), hex("0399411b7c309a3dceec73d217f5be65d00e1ba768859347a40611e3449c0f00")},
		{scalar.Reduce(wideOf(power(256))), above},
		{scalar.Add(is(last), two), small(1)},
		{scalar.Add(is(order), is(order)), small(0)},
		{scalar.Sub(zero, one), last},
		{scalar.Sub(one, is(about(order, 1))), small(0)},
		{scalar.Neg(zero), small(0)},
		{scalar.Neg(is(order)), small(0)},
		{scalar.Neg(one), last},
		{scalar.Mul(is(last), is(last)), small(1)},
		{scalar.Mul(is(order), five), small(0)},
		{scalar.Mul(is(power(255)), two), above},
		{scalar.MulAdd(is(small(3)), five, is(about(order, -15))), small(0)},
		{scalar.MulAdd(is(small(3)), five, is(about(order, -14))), small(1)},
		{scalar.Clamp([32]byte{}), power(254)},
		{scalar.Clamp(full()), about(power(255), -8)},
	} {
		if c.got != scalarOf(c.want) {
			t.Errorf("row %d: %x, want %x", i, number(c.got), c.want)
		}
	}
	if !scalar.Canonical(is(last)) || scalar.Canonical(is(order)) || scalar.Canonical(full()) {
		t.Error("L - 1 is canonical, L and 2^256 - 1 are not")
	}
}

func TestExamplesOfInvert(t *testing.T) {
	for i, c := range []struct {
		n, want *big.Int
		ok      bool
	}{
		{small(1), small(1), true},
		{about(order, -1), about(order, -1), true},
		{small(0), small(0), false},
		{order, small(0), false},
		{small(2), new(big.Int).Rsh(about(order, 1), 1), true},
	} {
		if got, ok := scalar.Invert(scalarOf(c.n)); got != scalarOf(c.want) || ok != c.ok {
			t.Errorf("row %d: %x, %v", i, number(got), ok)
		}
	}
}

func TestExamplesOfDigits(t *testing.T) {
	for i, c := range []struct {
		n    *big.Int
		want [64]int8
		ok   bool
	}{
		{small(0), [64]int8{}, true},
		{small(1), [64]int8{1}, true},
		{small(8), [64]int8{-8, 1}, true},
		{small(127), [64]int8{-1, -8, 1}, true},
		{small(136), [64]int8{-8, -7, 1}, true},
		{order, [64]int8{}, false},
	} {
		if got, ok := scalar.Digits(scalarOf(c.n)); got != c.want || ok != c.ok {
			t.Errorf("row %d: %v, %v", i, got, ok)
		}
	}
}

// TestOrder asks L against its bytes as the chapter lists them.
func TestOrder(t *testing.T) {
	listed := api.Scalar{0xed, 0xd3, 0xf5, 0x5c, 0x1a, 0x63, 0x12, 0x58, 0xd6, 0x9c, 0xf7, 0xa2, 0xde, 0xf9, 0xde, 0x14, 31: 0x10}
	if listed != scalarOf(order) || order.Cmp(hex("1000000000000000000000000000000014def9dea2f79cd65812631a5cf5d3ed")) != 0 {
		t.Fatalf("L is %x", order)
	}
	if scalar.Add(listed, api.Scalar{}) != (api.Scalar{}) || scalar.Sub(api.Scalar{}, api.Scalar{1}) != scalarOf(about(order, -1)) {
		t.Error("L is 0 modulo L, and -1 is L - 1")
	}
}
