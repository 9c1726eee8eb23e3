package field_test

import (
	"math/big"
	"math/rand/v2"
	"slices"
	"testing"

	"farebox/api"
	"farebox/field"
)

// top is the greatest limb of a reduced Element.
const top = 1<<51 - 1

// prime is p, by Go's library.
var prime = new(big.Int).Sub(new(big.Int).Lsh(big.NewInt(1), 255), big.NewInt(19))

// zero, one, whole and least are 0, 1, p itself and p - 1.
var (
	zero  = api.Element{}
	one   = api.Element{1}
	whole = api.Element{top - 18, top, top, top, top}
	least = api.Element{top - 19, top, top, top, top}
)

// chance is a source of numbers that are the same in every run.
func chance(n uint64) *rand.Rand { return rand.New(rand.NewPCG(5, n)) }

// small is a small number of Go's library.
func small(n int64) *big.Int { return big.NewInt(n) }

// aboutPrime is p and d.
func aboutPrime(d int64) *big.Int { return new(big.Int).Add(prime, small(d)) }

// sumOf is the limbs with their powers, not brought below p.
func sumOf(x api.Element) *big.Int {
	sum := new(big.Int)
	for i := 4; i >= 0; i-- {
		sum.Lsh(sum, 51)
		sum.Add(sum, new(big.Int).SetUint64(x[i]))
	}
	return sum
}

// number is what an Element means.
func number(x api.Element) *big.Int { return new(big.Int).Mod(sumOf(x), prime) }

// element is the reduced one of a number.
func element(n *big.Int) api.Element { return plain(new(big.Int).Mod(n, prime)) }

// plain is a number below 2^268 in limbs, the topmost one of which takes what the others don't hold.
func plain(n *big.Int) api.Element {
	var x api.Element
	rest := new(big.Int).Set(n)
	for i := range 4 {
		x[i] = new(big.Int).And(rest, small(top)).Uint64()
		rest.Rsh(rest, 51)
	}
	x[4] = rest.Uint64()
	return x
}

// spread is plain with parts of the higher limbs taken down into the lower ones.
func spread(r *rand.Rand, n *big.Int) api.Element {
	x := plain(n)
	for i := 4; i > 0; i-- {
		down := min(x[i], r.Uint64()%8192)
		x[i] -= down
		x[i-1] += down << 51
	}
	return x
}

// isReduced tells whether an Element is the one of its number.
func isReduced(x api.Element) bool { return sumOf(x).Cmp(prime) < 0 && slices.Max(x[:]) <= top }

// bytesOf is a number of 256 bits, its lowest byte first.
func bytesOf(n *big.Int) [32]byte {
	var b [32]byte
	n.FillBytes(b[:])
	slices.Reverse(b[:])
	return b
}

// readBytes is the number of 32 bytes, the lowest one first.
func readBytes(b [32]byte) *big.Int {
	slices.Reverse(b[:])
	return new(big.Int).SetBytes(b[:])
}

// topped is bytes with their topmost bit set.
func topped(b [32]byte) [32]byte {
	b[31] |= 0x80
	return b
}

// someBytes is 32 bytes of chance.
func someBytes(r *rand.Rand) [32]byte {
	var b [32]byte
	for i := range b {
		b[i] = byte(r.Uint64())
	}
	return b
}

// someElement is an Element of any limbs, at the edges as often as not.
func someElement(r *rand.Rand) api.Element {
	var x api.Element
	for i := range x {
		edges := []uint64{0, 1, 18, 19, top - 19, top - 18, top - 17, top - 1, top, top + 1, top + 19, 1 << 52, 1 << 63, 1<<64 - 20, 1<<64 - 2, 1<<64 - 1}
		switch r.IntN(4) {
		case 0:
			x[i] = r.Uint64()
		case 1:
			x[i] = r.Uint64() & top
		default:
			x[i] = edges[r.IntN(len(edges))]
		}
	}
	return x
}

// edgeElements are all Elements of limbs at the edges, and many forms of the numbers about multiples of p and about 2^255.
func edgeElements() []api.Element {
	edges := []uint64{0, 1, top, top + 1, 1<<64 - 1}
	var all []api.Element
	for i := range 5 * 5 * 5 * 5 * 5 {
		all = append(all, api.Element{edges[i%5], edges[i/5%5], edges[i/25%5], edges[i/125%5], edges[i/625]})
	}
	r := chance(0)
	for _, multiple := range []int64{0, 1, 2, 3, 19, 4096, 8190, 8191} {
		for d := int64(-40); d <= 40; d++ {
			n := new(big.Int).Mul(prime, small(multiple))
			if n.Add(n, small(d)); n.Sign() >= 0 {
				all = append(all, plain(n), spread(r, n), spread(r, n), spread(r, n))
			}
		}
	}
	return all
}

// ask fails unless an answered Element is the reduced one of a number.
func ask(t *testing.T, what string, got api.Element, want *big.Int) {
	t.Helper()
	if !isReduced(got) || got != element(want) {
		t.Fatalf("%s: %v, want %v", what, got, element(want))
	}
}

func TestFromBytesP51(t *testing.T) {
	low := new(big.Int).Lsh(small(1), 255)
	try := func(b [32]byte) {
		t.Helper()
		ask(t, "FromBytes", field.FromBytes(b), new(big.Int).Mod(readBytes(b), low))
		ask(t, "FromBytes with the topmost bit", field.FromBytes(topped(b)), new(big.Int).Mod(readBytes(b), low))
	}
	for bit := range 256 {
		try(bytesOf(new(big.Int).Lsh(small(1), uint(bit))))
	}
	for d := int64(-40); d <= 18; d++ {
		try(bytesOf(aboutPrime(d)))
	}
	r := chance(1)
	for range 2000 {
		try(someBytes(r))
	}
	full := bytesOf(new(big.Int).Sub(low, small(1)))
	ask(t, "FromBytes of 255 ones", field.FromBytes(full), small(18))
	ask(t, "FromBytes of 256 ones", field.FromBytes(topped(full)), small(18))
}

func TestCanonicalP52(t *testing.T) {
	try := func(b [32]byte) {
		t.Helper()
		if got, want := field.Canonical(b), readBytes(b).Cmp(prime) < 0; got != want {
			t.Fatalf("Canonical(%x): %v", b, got)
		}
	}
	for d := int64(-40); d <= 18; d++ {
		try(bytesOf(aboutPrime(d)))
		try(topped(bytesOf(aboutPrime(d))))
	}
	for d := range int64(40) {
		try(bytesOf(small(d)))
		try(topped(bytesOf(small(d))))
	}
	for i := range 32 {
		b := bytesOf(aboutPrime(18))
		b[i]--
		try(b)
		try(topped(b))
	}
	r := chance(2)
	for range 2000 {
		try(someBytes(r))
	}
}

func TestBytesP53(t *testing.T) {
	try := func(x api.Element) {
		t.Helper()
		if got := field.Bytes(x); got != bytesOf(number(x)) {
			t.Fatalf("Bytes of %v: %x", x, got)
		}
	}
	for _, x := range edgeElements() {
		try(x)
	}
	for bit := range 255 {
		try(plain(new(big.Int).Lsh(small(1), uint(bit))))
	}
	r := chance(3)
	for range 2000 {
		try(someElement(r))
	}
}

func TestSmallP54(t *testing.T) {
	for bit := range 64 {
		for d := uint64(0); d < 3; d++ {
			n := uint64(1)<<bit + d - 1
			ask(t, "Small", field.Small(n), new(big.Int).SetUint64(n))
		}
	}
	ask(t, "Small of the greatest word", field.Small(1<<64-1), new(big.Int).SetUint64(1<<64-1))
}

// askOne asks the calls of P5.5 that take one Element.
func askOne(t *testing.T, x api.Element) {
	t.Helper()
	n := number(x)
	ask(t, "Neg", field.Neg(x), new(big.Int).Neg(n))
	ask(t, "Square", field.Square(x), new(big.Int).Mul(n, n))
}

// askTwo asks the calls of P5.5 that take two.
func askTwo(t *testing.T, x, y api.Element) {
	t.Helper()
	n, m := number(x), number(y)
	ask(t, "Add", field.Add(x, y), new(big.Int).Add(n, m))
	ask(t, "Sub", field.Sub(x, y), new(big.Int).Sub(n, m))
	ask(t, "Mul", field.Mul(x, y), new(big.Int).Mul(n, m))
}

func TestSumsAndProductsP55(t *testing.T) {
	edges := edgeElements()
	r := chance(5)
	for _, x := range edges {
		askOne(t, x)
		askTwo(t, x, edges[r.IntN(len(edges))])
		askTwo(t, someElement(r), x)
		askTwo(t, x, x)
	}
	for range 5000 {
		x, y := someElement(r), someElement(r)
		askOne(t, x)
		askTwo(t, x, y)
	}
	full := api.Element{1<<64 - 1, 1<<64 - 1, 1<<64 - 1, 1<<64 - 1, 1<<64 - 1}
	for _, x := range []api.Element{zero, one, least, whole, full, {4: 1 << 51}} {
		for _, y := range []api.Element{zero, one, least, whole, full, {4: 1 << 51}} {
			askTwo(t, x, y)
		}
	}
}

func TestInvertP56(t *testing.T) {
	try := func(x api.Element) {
		t.Helper()
		want := new(big.Int)
		if n := number(x); n.Sign() > 0 {
			want.ModInverse(n, prime)
		}
		ask(t, "Invert", field.Invert(x), want)
	}
	for i, x := range edgeElements() {
		if i%3 == 0 || number(x).BitLen() < 8 {
			try(x)
		}
	}
	r := chance(6)
	for range 500 {
		try(someElement(r))
	}
	for _, x := range []api.Element{zero, whole, plain(aboutPrime(-1)), plain(new(big.Int).Mul(prime, small(8191)))} {
		try(x)
	}
}

func TestPowP57(t *testing.T) {
	try := func(x api.Element, e [32]byte) {
		t.Helper()
		ask(t, "Pow", field.Pow(x, e), new(big.Int).Exp(number(x), readBytes(e), prime))
	}
	var full [32]byte
	for i := range full {
		full[i] = 0xff
	}
	powers := [][32]byte{{}, {1}, {2}, {3}, {0: 0x80}, {1: 1}, {31: 0x80}, {31: 0x7f}, full, bytesOf(aboutPrime(-2)), bytesOf(aboutPrime(-1)), bytesOf(prime), bytesOf(aboutPrime(1))}
	r := chance(7)
	for _, e := range powers {
		for _, x := range []api.Element{zero, one, least, whole, {2}, {4: 1 << 51}, {1<<64 - 1, 1<<64 - 1, 1<<64 - 1, 1<<64 - 1, 1<<64 - 1}, someElement(r)} {
			try(x, e)
		}
	}
	for bit := range 256 {
		try(someElement(r), bytesOf(new(big.Int).Lsh(small(1), uint(bit))))
	}
	for range 200 {
		try(someElement(r), someBytes(r))
	}
}

// askRoot asks SqrtRatio against Go's library.
func askRoot(t *testing.T, u, v api.Element) {
	t.Helper()
	n, m := number(u), number(v)
	want, ok := new(big.Int), n.Sign() == 0
	if n.Sign() > 0 && m.Sign() > 0 {
		ratio := new(big.Int).ModInverse(m, prime)
		ratio.Mul(ratio, n).Mod(ratio, prime)
		if ok = big.Jacobi(ratio, prime) == 1; ok {
			want.ModSqrt(ratio, prime)
		}
		if want.Bit(0) == 1 {
			want.Sub(prime, want)
		}
	}
	r, got := field.SqrtRatio(u, v)
	if got != ok {
		t.Fatalf("SqrtRatio(%v, %v) says %v", u, v, got)
	}
	ask(t, "SqrtRatio", r, want)
}

func TestSqrtRatioP58(t *testing.T) {
	r := chance(8)
	for u := range int64(30) {
		for v := range int64(12) {
			askRoot(t, spread(r, aboutPrime(u)), spread(r, aboutPrime(v)))
			askRoot(t, plain(small(u)), plain(aboutPrime(-v)))
			askRoot(t, plain(aboutPrime(-u)), plain(small(v)))
		}
	}
	for range 400 {
		u, v := someElement(r), someElement(r)
		askRoot(t, u, v)
		askRoot(t, field.Mul(v, field.Square(u)), v)
		askRoot(t, field.Mul(field.Small(2), field.Mul(v, field.Square(u))), v)
		for _, nothing := range []api.Element{zero, whole, spread(r, new(big.Int).Mul(prime, small(8000)))} {
			askRoot(t, nothing, v)
			askRoot(t, u, nothing)
			askRoot(t, nothing, nothing)
		}
	}
}

func TestEqualP59(t *testing.T) {
	try := func(x, y api.Element) {
		t.Helper()
		if got, want := field.Equal(x, y), number(x).Cmp(number(y)) == 0; got != want {
			t.Fatalf("Equal(%v, %v): %v", x, y, got)
		}
	}
	edges := edgeElements()
	r := chance(9)
	for _, x := range edges {
		try(x, x)
		try(x, edges[r.IntN(len(edges))])
		reduced := element(number(x))
		try(x, reduced)
		try(reduced, x)
		for i := range reduced {
			other := reduced
			other[i] ^= 1
			try(x, other)
			try(other, x)
		}
	}
	try(zero, whole)
	try(least, whole)
}

func TestIsZeroIsOddP59(t *testing.T) {
	try := func(x api.Element) {
		t.Helper()
		n := number(x)
		if got := field.IsZero(x); got != (n.Sign() == 0) {
			t.Fatalf("IsZero(%v): %v", x, got)
		}
		if got := field.IsOdd(x); got != (n.Bit(0) == 1) {
			t.Fatalf("IsOdd(%v): %v", x, got)
		}
	}
	for _, x := range edgeElements() {
		try(x)
	}
	for i := range 5 {
		x := zero
		x[i] = 1
		try(x)
	}
	r := chance(10)
	for range 2000 {
		try(someElement(r))
	}
}

func TestSelectP510(t *testing.T) {
	r := chance(11)
	edges := edgeElements()
	for _, x := range edges {
		y := someElement(r)
		ask(t, "Select of the first", field.Select(true, x, y), number(x))
		ask(t, "Select of the second", field.Select(false, x, y), number(y))
		ask(t, "Select of the second", field.Select(false, y, x), number(x))
	}
}

// alike fails unless two answers are one array.
func alike(t *testing.T, law string, x, y api.Element) {
	t.Helper()
	if x != y {
		t.Fatalf("%s: %v and %v", law, x, y)
	}
}

func TestLawsP511(t *testing.T) {
	r := chance(12)
	for range 1000 {
		x, y, z := someElement(r), someElement(r), someElement(r)
		alike(t, "a sum turned about", field.Add(x, y), field.Add(y, x))
		alike(t, "a sum bracketed", field.Add(field.Add(x, y), z), field.Add(x, field.Add(y, z)))
		alike(t, "a product turned about", field.Mul(x, y), field.Mul(y, x))
		alike(t, "a product bracketed", field.Mul(field.Mul(x, y), z), field.Mul(x, field.Mul(y, z)))
		alike(t, "a product with a sum", field.Mul(x, field.Add(y, z)), field.Add(field.Mul(x, y), field.Mul(x, z)))
		alike(t, "a sum with 0", field.Add(x, zero), field.Select(true, x, y))
		alike(t, "a product with 1", field.Mul(x, one), field.Select(true, x, y))
		alike(t, "a sum with what is taken away", field.Add(x, field.Neg(x)), zero)
		alike(t, "a difference", field.Sub(x, y), field.Add(x, field.Neg(y)))
		alike(t, "a square", field.Square(x), field.Mul(x, x))
	}
}

func TestInverseAndLastPowerP511(t *testing.T) {
	r := chance(13)
	for range 300 {
		x := someElement(r)
		if field.IsZero(x) {
			continue
		}
		alike(t, "a product with Invert", field.Mul(x, field.Invert(x)), one)
		alike(t, "the power p - 1", field.Pow(x, bytesOf(aboutPrime(-1))), one)
		alike(t, "the power p - 2", field.Pow(x, bytesOf(aboutPrime(-2))), field.Invert(x))
	}
}

func TestThereAndBackP511(t *testing.T) {
	r := chance(14)
	for _, x := range edgeElements() {
		b := field.Bytes(x)
		if !field.Canonical(b) {
			t.Fatalf("Bytes of %v are not canonical", x)
		}
		alike(t, "Bytes read back", field.FromBytes(b), field.Select(true, x, zero))
	}
	try := func(b [32]byte) {
		t.Helper()
		if same := field.Bytes(field.FromBytes(b)) == b; same != (readBytes(b).Cmp(prime) < 0) || same != field.Canonical(b) {
			t.Fatalf("%x there and back: %v", b, same)
		}
	}
	for d := int64(-20); d <= 18; d++ {
		try(bytesOf(aboutPrime(d)))
		try(topped(bytesOf(aboutPrime(d))))
	}
	for range 1000 {
		try(someBytes(r))
	}
}

func TestNoRootP511(t *testing.T) {
	half := bytesOf(new(big.Int).Rsh(prime, 1)) // (p - 1) / 2
	r := chance(15)
	with, without := 0, 0
	for range 300 {
		u, v := someElement(r), someElement(r)
		if field.IsZero(v) {
			continue
		}
		root, ok := field.SqrtRatio(u, v)
		if ok {
			with++
			alike(t, "v r r", field.Mul(v, field.Square(root)), field.Select(true, u, v))
			continue
		}
		without++
		alike(t, "where there is no root", field.Pow(field.Mul(u, v), half), least)
	}
	if with < 50 || without < 50 {
		t.Fatalf("%d with a root and %d without", with, without)
	}
}

func TestExamples(t *testing.T) {
	greatest := field.Small(1<<64 - 1)
	three := field.Small(3)
	for i, c := range []struct{ got, want api.Element }{
		{field.Small(5), api.Element{5}},
		{greatest, api.Element{2251799813685247, 8191, 0, 0, 0}},
		{field.FromBytes(bytesOf(prime)), zero},
		{field.FromBytes(bytesOf(aboutPrime(-1))), least},
		{field.FromBytes([32]byte{0: 5, 31: 0x80}), api.Element{5}},
		{field.Sub(field.Small(1), field.Small(2)), least},
		{field.Neg(field.Small(0)), zero},
		{field.Mul(field.Neg(field.Small(2)), field.Neg(three)), api.Element{6}},
		{field.Invert(field.Small(0)), zero},
		{field.Invert(field.Small(1)), one},
		{field.Invert(field.Neg(field.Small(1))), least},
		{field.Mul(field.Small(7), field.Invert(field.Small(7))), one},
		{field.Pow(three, [32]byte{5}), api.Element{243}},
		{field.Pow(zero, [32]byte{}), one},
		{field.Pow(zero, [32]byte{9}), zero},
	} {
		if c.got != c.want {
			t.Errorf("row %d: %v, want %v", i, c.got, c.want)
		}
	}
	if !field.IsOdd(three) || field.IsOdd(field.Neg(three)) {
		t.Error("3 is odd, and -3 is even")
	}
}

func TestExamplesInBytes(t *testing.T) {
	ff := [32]byte{0xff, 0xff, 0xff, 0xff, 0xff, 0xff, 0xff, 0xff}
	for i, c := range []struct {
		x    api.Element
		want [32]byte
	}{
		{api.Element{2251799813685229, 2251799813685247, 2251799813685247, 2251799813685247, 2251799813685247}, [32]byte{}},
		{api.Element{0, 0, 0, 0, 2251799813685248}, [32]byte{0x13}},
		{api.Element{18446744073709551615, 0, 0, 0, 0}, ff},
	} {
		if got := field.Bytes(c.x); got != c.want {
			t.Errorf("row %d: %x", i, got)
		}
	}
	for i, c := range []struct {
		b    [32]byte
		want bool
	}{
		{bytesOf(prime), false},
		{bytesOf(aboutPrime(-1)), true},
		{[32]byte{0: 5, 31: 0x80}, false},
		{[32]byte{0: 5}, true},
	} {
		if field.Canonical(c.b) != c.want {
			t.Errorf("Canonical of row %d", i)
		}
	}
}

func TestExamplesOfRoots(t *testing.T) {
	for i, c := range []struct {
		u, v uint64
		want api.Element
		ok   bool
	}{
		{9, 1, api.Element{top - 21, top, top, top, top}, true},
		{4, 1, api.Element{2}, true},
		{2, 1, zero, false},
		{0, 5, zero, true},
		{5, 0, zero, false},
		{0, 0, zero, true},
	} {
		if r, ok := field.SqrtRatio(field.Small(c.u), field.Small(c.v)); r != c.want || ok != c.ok {
			t.Errorf("row %d: %v, %v", i, r, ok)
		}
	}
}
