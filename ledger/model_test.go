package ledger_test

import (
	"math"
	"math/big"
	"math/rand/v2"
	"testing"

	"farebox/api"
	"farebox/ledger"
)

const (
	most  = math.MaxInt64 // the greatest net that fits
	least = -most         // the least one
	under = math.MinInt64 // one below it, which does not fit
)

// nets are the numbers by the ends of an int64 and around 0.
var nets = []int64{under, least, least + 1, least + 2, -2, -1, 0, 1, 2, most - 2, most - 1, most}

// amounts are so likewise, with what a carnet costs at most.
var amounts = []int64{under, least, -1, 0, 1, 2, 4096000000000, most - 1, most}

// numbers are the accounts, and numbers that are none.
var numbers = []int{math.MinInt, -2, -1, 0, 1, 2, 3, 4, math.MaxInt}

// ridesEdges, backEdges and priceEdges are the numbers by the limits and by the ends of their types.
var (
	ridesEdges = []int{math.MinInt, math.MinInt + 1, -4096, -1, 0, 1, 2, 4095, 4096, 4097, math.MaxInt - 1, math.MaxInt}
	backEdges  = []int{math.MinInt, math.MinInt + 1, -4096, -1, 0, 1, 2, 3, 4094, 4095, 4096, 4097, math.MaxInt - 1, math.MaxInt}
	priceEdges = []int64{under, least, -1000000000, -1, 0, 1, 999999999, 1000000000, 1000000001, most - 1, most}
)

func chance(n uint64) *rand.Rand { return rand.New(rand.NewPCG(22, n)) }

func book(cash, unearned, earned int64) api.Book {
	return api.Book{Net: [3]int64{cash, unearned, earned}}
}

// eachBook calls with all books of the nets by the ends and around 0.
func eachBook(call func(api.Book)) {
	for _, x := range nets {
		for _, y := range nets {
			for _, z := range nets {
				call(book(x, y, z))
			}
		}
	}
}

// exact is a book whose numbers have no end.
type exact [3]*big.Int

func exactOf(b api.Book) exact {
	var x exact
	for i, net := range b.Net {
		x[i] = big.NewInt(net)
	}
	return x
}

// fits is asked of the words of the chapter, by their numbers.
func (x exact) fits(account int) bool {
	end, _ := new(big.Int).SetString("9223372036854775807", 10)
	return x[account].CmpAbs(end) <= 0
}

// wrong tells whether an account is on its wrong side: Cash below 0, the others above.
func (x exact) wrong(account int) bool {
	if account == 0 {
		return x[account].Sign() < 0
	}
	return x[account].Sign() > 0
}

func (x exact) told() api.Book { return book(x[0].Int64(), x[1].Int64(), x[2].Int64()) }

func (x exact) even() bool {
	total := new(big.Int)
	for i := range x {
		if !x.fits(i) || x.wrong(i) {
			return false
		}
		total.Add(total, x[i])
	}
	return total.Sign() == 0
}

// plainPost is what P22.2 says, in numbers without an end.
func plainPost(b api.Book, debit, credit int, amount *big.Int) (api.Book, api.Errno) {
	if debit < 0 || debit > 2 || credit < 0 || credit > 2 || debit == credit || amount.Sign() < 0 {
		return b, api.ErrArg
	}
	x := exactOf(b)
	x[debit].Add(x[debit], amount)
	x[credit].Sub(x[credit], amount)
	if !x.fits(debit) || !x.fits(credit) {
		return b, api.ErrRange
	}
	if x.wrong(debit) || x.wrong(credit) {
		return b, api.ErrMoney
	}
	return x.told(), api.OK
}

func times(rides int, price int64) *big.Int {
	return new(big.Int).Mul(big.NewInt(int64(rides)), big.NewInt(price))
}

func mayBe(rides int, price int64) bool {
	return rides >= 1 && rides <= 4096 && price >= 0 && price <= 1000000000
}

func plainSell(b api.Book, rides int, price int64) (api.Book, api.Errno) {
	if !mayBe(rides, price) {
		return b, api.ErrArg
	}
	return plainPost(b, 0, 1, times(rides, price))
}

func plainRetire(b api.Book, rides int, price int64) (api.Book, api.Errno) {
	if !mayBe(rides, price) {
		return b, api.ErrArg
	}
	return plainPost(b, 1, 2, times(rides, price))
}

func plainRefund(b api.Book, rides, back int, price int64) (api.Book, api.Errno) {
	if !mayBe(rides, price) || back < 0 || back > rides {
		return b, api.ErrArg
	}
	first, err := plainPost(b, 1, 2, times(rides-back, price))
	if err != api.OK {
		return b, err
	}
	second, err := plainPost(first, 1, 0, times(back, price))
	if err != api.OK {
		return b, err
	}
	return second, api.OK
}

func wantPost(t *testing.T, b api.Book, debit, credit int, amount int64, want api.Book, wantErr api.Errno) {
	t.Helper()
	if got, err := ledger.Post(b, debit, credit, amount); got != want || err != wantErr {
		t.Errorf("P22.2: Post(%v, %d, %d, %d) = %v, %d, want %v, %d", b.Net, debit, credit, amount, got.Net, err, want.Net, wantErr)
	}
}

func wantSell(t *testing.T, b api.Book, rides int, price int64, want api.Book, wantErr api.Errno) {
	t.Helper()
	if got, err := ledger.Sell(b, rides, price); got != want || err != wantErr {
		t.Errorf("P22.3: Sell(%v, %d, %d) = %v, %d, want %v, %d", b.Net, rides, price, got.Net, err, want.Net, wantErr)
	}
}

func wantRefund(t *testing.T, b api.Book, rides, back int, price int64, want api.Book, wantErr api.Errno) {
	t.Helper()
	if got, err := ledger.Refund(b, rides, back, price); got != want || err != wantErr {
		t.Errorf("P22.4: Refund(%v, %d, %d, %d) = %v, %d, want %v, %d", b.Net, rides, back, price, got.Net, err, want.Net, wantErr)
	}
}

func wantRetire(t *testing.T, b api.Book, rides int, price int64, want api.Book, wantErr api.Errno) {
	t.Helper()
	if got, err := ledger.Retire(b, rides, price); got != want || err != wantErr {
		t.Errorf("P22.5: Retire(%v, %d, %d) = %v, %d, want %v, %d", b.Net, rides, price, got.Net, err, want.Net, wantErr)
	}
}

func wantBalance(t *testing.T, b api.Book, account int, want int64, wantErr api.Errno) {
	t.Helper()
	if got, err := ledger.Balance(b, account); got != want || err != wantErr {
		t.Errorf("P22.6: Balance(%v, %d) = %d, %d, want %d, %d", b.Net, account, got, err, want, wantErr)
	}
}

func wantEven(t *testing.T, b api.Book, want bool) {
	t.Helper()
	if got := ledger.Even(b); got != want {
		t.Errorf("P22.7: Even(%v) = %v", b.Net, got)
	}
}
