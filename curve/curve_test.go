package curve_test

import (
	"crypto/ed25519"
	"crypto/sha512"
	"encoding/hex"
	"math/big"
	"math/rand/v2"
	"slices"
	"strings"
	"testing"

	"farebox/api"
	"farebox/curve"
)

// limb is the greatest limb of a reduced Element.
const limb = 1<<51 - 1

// The numbers of the chapter, by Go's library.
var (
	prime  = about(power(255), -19)
	order  = new(big.Int).Add(power(252), decimal("27742317777372353535851937790883648493"))
	number = over(small(-121665), small(121666))
	base   = spot{decimal("15112221349535400772501151409588531511454012693041857206046113283949847762202"), decimal("46316835694926478169428394003475163141307993866256225615783033603165251855960")}
	zero   = spot{small(0), small(1)}
)

// The examples' bytes.
var (
	zeroText  = "01" + strings.Repeat("00", 31)
	baseText  = "58" + strings.Repeat("66", 31)
	twoText   = "c9a3f86aae465f0e56513864510f3997561fa2c9e85ea21dc2292309f3cd6022"
	minusText = "58" + strings.Repeat("66", 30) + "e6"
	halfText  = "ec" + strings.Repeat("ff", 30) + "7f"
	fourText  = strings.Repeat("00", 32)
)

// smallTexts are the points of which eight times is the neutral one, each the sum of the one before it and the second.
var smallTexts = []string{
	zeroText,
	"26e8958fc2b227b045c3f489f2ef98f0d5dfac05d3c63339b13802886d53fc05",
	fourText,
	"c7176a703d4dd84fba3c0b760d10670f2a2053fa2c39ccc64ec7fd7792ac037a",
	halfText,
	"c7176a703d4dd84fba3c0b760d10670f2a2053fa2c39ccc64ec7fd7792ac03fa",
	strings.Repeat("00", 31) + "80",
	"26e8958fc2b227b045c3f489f2ef98f0d5dfac05d3c63339b13802886d53fc85",
}

// chance is a source of numbers that are the same in every run.
func chance(n uint64) *rand.Rand { return rand.New(rand.NewPCG(7, n)) }

func decimal(text string) *big.Int {
	n, _ := new(big.Int).SetString(text, 10)
	return n
}

func small(n int64) *big.Int { return big.NewInt(n) }

func power(n int) *big.Int { return new(big.Int).Lsh(small(1), uint(n)) }

// about is a number and d.
func about(n *big.Int, d int64) *big.Int { return new(big.Int).Add(n, small(d)) }

func mod(n *big.Int) *big.Int { return new(big.Int).Mod(n, prime) }

func plus(n, m *big.Int) *big.Int { return mod(new(big.Int).Add(n, m)) }

func minus(n, m *big.Int) *big.Int { return mod(new(big.Int).Sub(n, m)) }

func times(n, m *big.Int) *big.Int { return mod(new(big.Int).Mul(n, m)) }

func over(n, m *big.Int) *big.Int { return times(n, new(big.Int).ModInverse(m, prime)) }

// somewhere is a number below a bound.
func somewhere(r *rand.Rand, bound *big.Int) *big.Int {
	n := new(big.Int)
	for range 9 {
		n.Lsh(n, 32)
		n.Add(n, small(int64(r.Uint32())))
	}
	return n.Mod(n, bound)
}

// spot is a point by its two numbers, for a reckoning by the chapter's words alone.
type spot struct{ x, y *big.Int }

func (s spot) same(o spot) bool { return s.x.Cmp(o.x) == 0 && s.y.Cmp(o.y) == 0 }

func (s spot) plus(o spot) spot {
	xx, yy := times(s.x, o.x), times(s.y, o.y)
	dxy := times(number, times(xx, yy))
	crossed := plus(times(s.x, o.y), times(o.x, s.y))
	return spot{over(crossed, plus(small(1), dxy)), over(plus(yy, xx), minus(small(1), dxy))}
}

func (s spot) turned() spot { return spot{minus(small(0), s.x), s.y} }

func (s spot) times(k *big.Int) spot {
	sum := zero
	for i := k.BitLen() - 1; i >= 0; i-- {
		sum = sum.plus(sum)
		if k.Bit(i) == 1 {
			sum = sum.plus(s)
		}
	}
	return sum
}

func (s spot) told() api.Key {
	return api.Key(bytesOf(new(big.Int).Add(s.y, new(big.Int).Lsh(small(int64(s.x.Bit(0))), 255))))
}

// isOn is the curve's equation.
func (s spot) isOn() bool {
	xx, yy := times(s.x, s.x), times(s.y, s.y)
	return minus(yy, xx).Cmp(plus(small(1), times(number, times(xx, yy)))) == 0
}

// atY is the point of a y and an even or odd x, if there is one.
func atY(y *big.Int, odd uint) (spot, bool) {
	yy := times(y, y)
	x := new(big.Int).ModSqrt(over(minus(yy, small(1)), plus(times(number, yy), small(1))), prime)
	if x == nil {
		return spot{}, false
	}
	if x.Bit(0) != odd {
		x = minus(small(0), x)
	}
	return spot{x, y}, x.Bit(0) == odd
}

// bytesOf is a number of 256 bits, its lowest byte first.
func bytesOf(n *big.Int) [32]byte {
	var b [32]byte
	n.FillBytes(b[:])
	slices.Reverse(b[:])
	return b
}

func scalarOf(n *big.Int) api.Scalar { return bytesOf(n) }

// element is a number below 2^268 in limbs, the topmost one of which takes what the others don't hold.
func element(n *big.Int) api.Element {
	var x api.Element
	rest := new(big.Int).Set(n)
	for i := range 4 {
		x[i] = new(big.Int).And(rest, small(limb)).Uint64()
		rest.Rsh(rest, 51)
	}
	x[4] = rest.Uint64()
	return x
}

// spread is a number modulo p in limbs that are mostly not the reduced ones.
func spread(r *rand.Rand, n *big.Int) api.Element {
	x := element(new(big.Int).Add(n, new(big.Int).Mul(prime, small(r.Int64N(8191)))))
	for i := 4; i > 0; i-- {
		down := min(x[i], r.Uint64()%8192)
		x[i] -= down
		x[i-1] += down << 51
	}
	return x
}

// meant is the number of an Element.
func meant(x api.Element) *big.Int {
	sum := new(big.Int)
	for i := 4; i >= 0; i-- {
		sum.Lsh(sum, 51)
		sum.Add(sum, new(big.Int).SetUint64(x[i]))
	}
	return mod(sum)
}

// plain is the form of a point with Z 1 and reduced Elements.
func plain(s spot) api.Point {
	return api.Point{X: element(s.x), Y: element(s.y), Z: element(small(1)), T: element(times(s.x, s.y))}
}

// form is some form of a point: its numbers are multiplied by one, and told in any limbs.
func form(r *rand.Rand, s spot) api.Point {
	z := about(somewhere(r, about(prime, -1)), 1)
	if r.IntN(4) == 0 {
		z = []*big.Int{small(1), small(2), about(prime, -1)}[r.IntN(3)]
	}
	return api.Point{X: spread(r, times(s.x, z)), Y: spread(r, times(s.y, z)), Z: spread(r, z), T: spread(r, times(times(s.x, s.y), z))}
}

// forms are some forms of one point.
func forms(r *rand.Rand, s spot) []api.Point {
	return []api.Point{plain(s), form(r, s), form(r, s), form(r, s)}
}

// spotOf is the point that coordinates are; false if they are none.
func spotOf(p api.Point) (spot, bool) {
	x, y, z, t := meant(p.X), meant(p.Y), meant(p.Z), meant(p.T)
	if z.Sign() == 0 || times(x, y).Cmp(times(z, t)) != 0 {
		return spot{}, false
	}
	s := spot{over(x, z), over(y, z)}
	return s, s.isOn()
}

// fromText is the point of an encoding that is known to be one.
func fromText(text string) spot {
	b, _ := hex.DecodeString(text)
	slices.Reverse(b)
	odd := uint(b[0] >> 7)
	b[0] &= 0x7f
	s, _ := atY(new(big.Int).SetBytes(b), odd)
	return s
}

// smallSpots are the eight points that are Small.
func smallSpots() []spot {
	var out []spot
	for _, text := range smallTexts {
		out = append(out, fromText(text))
	}
	return out
}

// somePoint is any point of the curve: a multiple of the base point, with one of the Small ones on it as often as not.
func somePoint(r *rand.Rand) spot {
	s := base.times(somewhere(r, order))
	if r.IntN(2) == 0 {
		s = s.plus(smallSpots()[r.IntN(8)])
	}
	return s
}

// points are the edges, and some points.
func points(r *rand.Rand, some int) []spot {
	out := append(smallSpots(), base, base.turned(), base.plus(base))
	for range some {
		out = append(out, somePoint(r))
	}
	return out
}

// edgeNumbers are the multipliers that the chapter names, and those around the places where a digit or a byte runs over.
func edgeNumbers() []*big.Int {
	out := []*big.Int{order, about(order, -1), about(order, 1), new(big.Int).Mul(order, small(8)), about(power(256), -1), about(power(256), -2), power(255), about(power(255), -1), power(252), about(power(252), -1)}
	for _, n := range []int64{0, 1, 2, 3, 4, 7, 8, 9, 15, 16, 17, 31, 32, 127, 128, 255, 256, 257, 65535, 65536} {
		out = append(out, small(n))
	}
	return out
}

// isAt tests that an answer is just that point.
func isAt(t *testing.T, what string, p api.Point, want spot) {
	t.Helper()
	got, ok := spotOf(p)
	if !ok {
		t.Fatalf("%s = %v: no point", what, p)
	}
	if !got.same(want) {
		t.Fatalf("%s = (%v, %v), want (%v, %v)", what, got.x, got.y, want.x, want.y)
	}
}

// told is a point's encoding as a text.
func told(p api.Point) string {
	b := curve.Encode(p)
	return hex.EncodeToString(b[:])
}

func keyOf(text string) api.Key {
	b, _ := hex.DecodeString(text)
	return api.Key(b)
}

// badPoints are coordinates that are no point, of which each condition is the only one that fails, and some that fail at all.
func badPoints(r *rand.Rand) []api.Point {
	every := api.Element{1<<64 - 1, 1<<64 - 1, 1<<64 - 1, 1<<64 - 1, 1<<64 - 1}
	whole := element(prime)
	out := []api.Point{
		{},
		{X: whole, Y: whole, Z: whole, T: whole},
		{X: every, Y: every, Z: every, T: every},
		{X: element(small(1))}, {Y: element(small(1))}, {T: element(small(1))}, {Z: element(small(1))},
		{Y: element(small(1)), Z: whole},
		{Y: element(small(2)), Z: element(small(1))},
		{Y: element(small(1)), Z: element(small(1)), T: element(small(1))},
	}
	for range 10 {
		s, x, y := somePoint(r), somewhere(r, prime), somewhere(r, prime)
		p := form(r, s)
		out = append(out,
			api.Point{X: spread(r, minus(small(0), meant(p.X))), Y: p.Y, Z: p.Z, T: p.T},
			api.Point{X: p.X, Y: p.Y, Z: p.Z, T: spread(r, minus(small(0), meant(p.T)))},
			api.Point{X: p.X, Y: p.Y, Z: p.Z},
			api.Point{X: p.X, Y: p.Y, T: p.T},
			api.Point{X: p.X, Y: p.Y, Z: whole, T: p.T},
			api.Point{X: p.Y, Y: p.X, Z: p.Z, T: p.T},
			api.Point{X: spread(r, x), Y: spread(r, y), Z: element(small(1)), T: spread(r, times(x, y))},
			form(r, spot{x, y}),
			api.Point{X: limbs(r), Y: limbs(r), Z: limbs(r), T: limbs(r)},
		)
	}
	return out
}

// limbs are any five.
func limbs(r *rand.Rand) api.Element {
	return api.Element{r.Uint64(), r.Uint64(), r.Uint64(), r.Uint64(), r.Uint64()}
}

// answers are what all calls that take points answer of two, with the Small and the encoded ones told as numbers.
type answers struct {
	made  [7]api.Point
	told  [2]api.Key
	flags [4]bool
}

func askAll(k api.Scalar, p, q api.Point) answers {
	var a answers
	a.made = [7]api.Point{curve.Add(p, q), curve.Double(p), curve.Neg(p), curve.Mul(k, p), curve.Combine(k, p, k), curve.MulBase(k)}
	a.told = [2]api.Key{curve.Encode(p), curve.Encode(q)}
	a.flags = [4]bool{curve.Equal(p, q), curve.OnCurve(p), curve.Small(p)}
	a.made[6], a.flags[3] = curve.Decode(a.told[0])
	return a
}

func TestAnyArgumentsP71(t *testing.T) {
	r := chance(1)
	all := badPoints(r)
	for _, s := range points(r, 3) {
		all = append(all, form(r, s))
	}
	for _, p := range all {
		q, k := all[r.IntN(len(all))], scalarOf(somewhere(r, power(256)))
		first := askAll(k, p, q)
		askAll(scalarOf(small(3)), q, p)
		if askAll(k, p, q) != first {
			t.Fatalf("of %v and %v something else is answered once more", p, q)
		}
	}
}

func TestAnswersArePointsP71(t *testing.T) {
	r := chance(2)
	for _, s := range points(r, 10) {
		p, q, k := form(r, s), form(r, somePoint(r)), scalarOf(somewhere(r, power(256)))
		for i, made := range askAll(k, p, q).made {
			if _, ok := spotOf(made); !ok || !curve.OnCurve(made) {
				t.Fatalf("answer %d of %v and %v is no point: %v", i, p, q, made)
			}
		}
	}
}

func TestZeroBaseP72(t *testing.T) {
	for range 2 {
		isAt(t, "Zero()", curve.Zero(), zero)
		isAt(t, "Base()", curve.Base(), base)
	}
	y := over(small(4), small(5))
	even, ok := atY(y, 0)
	if !ok || !even.same(base) {
		t.Fatal("the tests' base point is not that of y 4 / 5")
	}
}

func TestAddP73(t *testing.T) {
	r := chance(3)
	all := points(r, 6)
	for _, s := range all {
		for _, o := range all {
			isAt(t, "Add", curve.Add(form(r, s), form(r, o)), s.plus(o))
		}
		p := form(r, s)
		isAt(t, "Add of one form with itself", curve.Add(p, p), s.plus(s))
		isAt(t, "Add of a point and its opposite", curve.Add(p, form(r, s.turned())), zero)
	}
}

func TestDoubleNegP73(t *testing.T) {
	r := chance(4)
	for _, s := range points(r, 20) {
		for _, p := range forms(r, s) {
			isAt(t, "Double", curve.Double(p), s.plus(s))
			isAt(t, "Neg", curve.Neg(p), s.turned())
		}
	}
}

func TestEqualP74(t *testing.T) {
	r := chance(5)
	all := points(r, 6)
	for _, s := range all {
		all = append(all, s.turned(), spot{s.x, minus(small(0), s.y)})
	}
	for _, s := range all {
		for _, o := range all {
			for _, p := range forms(r, s)[:2] {
				if q := form(r, o); curve.Equal(p, q) != s.same(o) {
					t.Fatalf("Equal(%v, %v) = %v", p, q, !s.same(o))
				}
			}
		}
	}
}

func TestOnCurveP74(t *testing.T) {
	r := chance(6)
	for _, s := range points(r, 20) {
		for _, p := range forms(r, s) {
			if !curve.OnCurve(p) {
				t.Fatalf("OnCurve(%v) = false", p)
			}
		}
	}
	for _, p := range badPoints(r) {
		if _, ok := spotOf(p); ok {
			t.Fatalf("the test takes a point for none: %v", p)
		}
		if curve.OnCurve(p) {
			t.Fatalf("OnCurve(%v) = true", p)
		}
	}
}

func TestMulP75(t *testing.T) {
	r := chance(7)
	for _, n := range edgeNumbers() {
		k := scalarOf(n)
		isAt(t, "MulBase", curve.MulBase(k), base.times(n))
		isAt(t, "Mul of the base point", curve.Mul(k, curve.Base()), base.times(n))
		for _, s := range []spot{zero, somePoint(r), smallSpots()[r.IntN(8)]} {
			isAt(t, "Mul", curve.Mul(k, form(r, s)), s.times(n))
		}
	}
	for range 10 {
		n, s := somewhere(r, power(256)), somePoint(r)
		isAt(t, "Mul", curve.Mul(scalarOf(n), form(r, s)), s.times(n))
		isAt(t, "MulBase", curve.MulBase(scalarOf(n)), base.times(n))
	}
}

// Each place of a number is asked by itself: a digit that were passed over would be seen.
func TestMulPlacesP75(t *testing.T) {
	r := chance(8)
	s := somePoint(r)
	p, step, baseStep := form(r, s), s, base
	for i := range 256 {
		k := scalarOf(power(i))
		isAt(t, "Mul", curve.Mul(k, p), step)
		isAt(t, "MulBase", curve.MulBase(k), baseStep)
		isAt(t, "Combine", curve.Combine(k, p, k), step.plus(baseStep))
		step, baseStep = step.plus(step), baseStep.plus(baseStep)
	}
}

func TestMulNotModuloOrderP75(t *testing.T) {
	r := chance(9)
	eighth := smallSpots()[1]
	for range 5 {
		s := base.times(somewhere(r, order)).plus(eighth)
		isAt(t, "L times a point outside the base point's multiples", curve.Mul(scalarOf(order), form(r, s)), eighth.times(order))
	}
}

func TestCombineP75(t *testing.T) {
	r := chance(10)
	edges := edgeNumbers()
	for i, n := range edges {
		m, s := edges[(7*i+3)%len(edges)], somePoint(r)
		isAt(t, "Combine", curve.Combine(scalarOf(n), form(r, s), scalarOf(m)), s.times(n).plus(base.times(m)))
	}
	for _, s := range points(r, 4) {
		n, m := somewhere(r, power(256)), somewhere(r, power(256))
		isAt(t, "Combine", curve.Combine(scalarOf(n), form(r, s), scalarOf(m)), s.times(n).plus(base.times(m)))
	}
	isAt(t, "Combine to nothing", curve.Combine(scalarOf(small(5)), curve.Base(), scalarOf(about(order, -5))), zero)
}

// A public key of Go's library is a multiple of the base point.
func TestMulBaseAgainstLibraryP75(t *testing.T) {
	r := chance(11)
	for range 50 {
		seed := make([]byte, 32)
		for i := range seed {
			seed[i] = byte(r.Uint32())
		}
		wide := sha512.Sum512(seed)
		k := api.Scalar(wide[:32])
		k[0] &= 0xf8
		k[31] = k[31]&0x7f | 0x40
		want := hex.EncodeToString(ed25519.NewKeyFromSeed(seed)[32:])
		if got := told(curve.MulBase(k)); got != want {
			t.Fatalf("MulBase(%x) is told as %s, want %s", k, got, want)
		}
	}
}

func TestEncodeP76(t *testing.T) {
	r := chance(12)
	for _, s := range points(r, 30) {
		for _, o := range []spot{s, s.turned()} {
			for _, p := range forms(r, o) {
				if got, want := curve.Encode(p), o.told(); got != want {
					t.Fatalf("Encode(%v) = %x, want %x", p, got, want)
				}
			}
		}
	}
}

// decoding tests what Decode says of a number of 255 bits and each topmost bit.
func decoding(t *testing.T, y *big.Int) {
	t.Helper()
	for odd := range uint(2) {
		b := api.Key(bytesOf(new(big.Int).SetBit(y, 255, odd)))
		want, ok := spot{}, false
		if y.Cmp(prime) < 0 {
			want, ok = atY(y, odd)
		}
		p, got := curve.Decode(b)
		if got != ok {
			t.Fatalf("Decode(%x) says %v", b, got)
		}
		if ok {
			isAt(t, "Decode", p, want)
		} else if p != (api.Point{}) {
			t.Fatalf("Decode(%x) = %v, false", b, p)
		}
	}
}

func TestDecodeP77(t *testing.T) {
	r := chance(13)
	for n := range int64(60) {
		decoding(t, small(n))
		decoding(t, about(prime, -n))
	}
	for n := range int64(19) {
		decoding(t, about(prime, n))
	}
	for range 200 {
		decoding(t, somewhere(r, power(255)))
	}
	for _, s := range points(r, 20) {
		decoding(t, s.y)
	}
}

func TestSmallP78(t *testing.T) {
	r := chance(14)
	for i, s := range smallSpots() {
		if !s.times(small(8)).same(zero) {
			t.Fatalf("the test's point %d is not Small", i)
		}
		for _, p := range forms(r, s) {
			if !curve.Small(p) {
				t.Fatalf("Small of %s = false", smallTexts[i])
			}
		}
		for _, o := range []spot{base, base.turned(), base.times(small(8)), base.times(somewhere(r, order))} {
			if p := form(r, o.plus(s)); curve.Small(p) {
				t.Fatalf("Small(%v) = true", p)
			}
		}
	}
}

// Which of two, four and eight times is the neutral point, by the point's place among the Small ones.
func TestSmallOrdersP78(t *testing.T) {
	for i, text := range smallTexts {
		p, ok := curve.Decode(keyOf(text))
		if !ok {
			t.Fatalf("Decode(%s) is refused", text)
		}
		for _, k := range []int{1, 2, 4, 8} {
			got := curve.Equal(curve.Mul(api.Scalar{byte(k)}, p), curve.Zero())
			if want := i*k%8 == 0; got != want {
				t.Errorf("that %d times %s is the neutral point: %v", k, text, got)
			}
		}
	}
}

func TestGroupP79(t *testing.T) {
	r := chance(15)
	for _, s := range points(r, 10) {
		p, q, o := form(r, s), form(r, somePoint(r)), form(r, somePoint(r))
		if !curve.Equal(curve.Add(p, q), curve.Add(q, p)) {
			t.Fatalf("%v and %v turned about", p, q)
		}
		if !curve.Equal(curve.Add(curve.Add(p, q), o), curve.Add(p, curve.Add(q, o))) {
			t.Fatalf("%v, %v and %v bracketed otherwise", p, q, o)
		}
		if !curve.Equal(curve.Add(p, curve.Zero()), p) || !curve.Equal(curve.Add(curve.Zero(), p), p) {
			t.Fatalf("%v and the neutral point", p)
		}
		if !curve.Equal(curve.Add(p, curve.Neg(p)), curve.Zero()) || !curve.Equal(curve.Neg(curve.Neg(p)), p) {
			t.Fatalf("%v and its opposite", p)
		}
	}
}

func TestMultiplesAddUpP79(t *testing.T) {
	r := chance(16)
	whole := about(power(256), -1)
	for i, s := range points(r, 10) {
		p, n := form(r, s), somewhere(r, power(256))
		m := somewhere(r, new(big.Int).Sub(power(256), n))
		if i%2 == 0 {
			m = new(big.Int).Sub(whole, n)
		}
		sum := curve.Add(curve.Mul(scalarOf(n), p), curve.Mul(scalarOf(m), p))
		if !curve.Equal(sum, curve.Mul(scalarOf(new(big.Int).Add(n, m)), p)) {
			t.Fatalf("%v and %v times %v do not add up", n, m, p)
		}
	}
}

func TestOneEncodingP79(t *testing.T) {
	r := chance(17)
	for _, s := range points(r, 20) {
		first := curve.Encode(form(r, s))
		for _, p := range forms(r, s) {
			b := curve.Encode(p)
			back, ok := curve.Decode(b)
			if b != first || !ok || !curve.Equal(back, p) {
				t.Fatalf("Encode(%v) = %x, another form's %x, read back: %v", p, b, first, ok)
			}
		}
	}
	read := 0
	for range 300 {
		b := api.Key(bytesOf(somewhere(r, power(256))))
		p, ok := curve.Decode(b)
		if ok && curve.Encode(p) != b {
			t.Fatalf("%x is told again as %s", b, told(p))
		}
		if ok {
			read++
		}
	}
	if read < 100 || read > 200 {
		t.Errorf("%d of 300 are read, about half of them should be", read)
	}
}

func TestFormsAreAlike(t *testing.T) {
	r := chance(18)
	for _, s := range points(r, 5) {
		o, n := somePoint(r), somewhere(r, power(256))
		q, k, first := plain(o), scalarOf(n), plain(s)
		for _, p := range forms(r, s) {
			if curve.Encode(p) != curve.Encode(first) || curve.Small(p) != curve.Small(first) || !curve.OnCurve(p) || !curve.Equal(p, first) || !curve.Equal(first, p) {
				t.Fatalf("%v is answered otherwise than %v", p, first)
			}
			isAt(t, "Add in the first place", curve.Add(p, q), s.plus(o))
			isAt(t, "Add in the second place", curve.Add(q, p), o.plus(s))
			isAt(t, "Double", curve.Double(p), s.plus(s))
			isAt(t, "Neg", curve.Neg(p), s.turned())
			isAt(t, "Mul", curve.Mul(k, p), s.times(n))
		}
	}
}

func TestExamplesToldP76(t *testing.T) {
	b := curve.Base()
	for _, e := range []struct {
		what string
		p    api.Point
		want string
	}{
		{"Zero()", curve.Zero(), zeroText},
		{"Base()", b, baseText},
		{"Double(Base())", curve.Double(b), twoText},
		{"Neg(Base())", curve.Neg(b), minusText},
		{"Mul(0, Base())", curve.Mul(api.Scalar{}, b), zeroText},
		{"Mul(L, Base())", curve.Mul(scalarOf(order), b), zeroText},
		{"Mul(L + 1, Base())", curve.Mul(scalarOf(about(order, 1)), b), baseText},
	} {
		if got := told(e.p); got != e.want {
			t.Errorf("Encode(%s) = %s, want %s", e.what, got, e.want)
		}
	}
}

func TestExamplesDecodeP77(t *testing.T) {
	refused := []string{
		"01" + strings.Repeat("00", 30) + "80",
		"ed" + strings.Repeat("ff", 30) + "7f",
		"ee" + strings.Repeat("ff", 30) + "7f",
		"02" + strings.Repeat("00", 31),
		"ec" + strings.Repeat("ff", 31),
		strings.Repeat("ff", 32),
	}
	for _, text := range refused {
		if p, ok := curve.Decode(keyOf(text)); ok || p != (api.Point{}) {
			t.Errorf("Decode(%s) = %v, %v", text, p, ok)
		}
	}
	half, ok := curve.Decode(keyOf(halfText))
	if !ok {
		t.Fatal("(0, -1) is refused")
	}
	isAt(t, "Decode of -1", half, spot{small(0), about(prime, -1)})
	isAt(t, "twice (0, -1)", curve.Double(half), zero)
	four, ok := curve.Decode(keyOf(fourText))
	if !ok {
		t.Fatal("32 bytes 0 are refused")
	}
	isAt(t, "four times the point of 32 bytes 0", curve.Double(curve.Double(four)), zero)
	if !curve.Small(curve.Zero()) || curve.Small(curve.Base()) || !curve.Small(half) || !curve.Small(four) {
		t.Error("Small of the examples")
	}
	if curve.OnCurve(api.Point{}) || !curve.OnCurve(curve.Zero()) {
		t.Error("OnCurve of the examples")
	}
}

// The curve's number is told in the chapter in bytes too.
func TestNumber(t *testing.T) {
	b := bytesOf(number)
	if got := hex.EncodeToString(b[:]); got != "a3785913ca4deb75abd841414d0a700098e879777940c78c73fe6f2bee6c0352" {
		t.Fatalf("the tests' d is %s", got)
	}
}

func BenchmarkMul(b *testing.B) {
	k := scalarOf(about(order, -1))
	for range b.N {
		curve.Mul(k, curve.Base())
	}
}

func BenchmarkCombine(b *testing.B) {
	k := scalarOf(about(order, -1))
	for range b.N {
		curve.Combine(k, curve.Base(), k)
	}
}
