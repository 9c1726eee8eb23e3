package ledger_test

import (
	"math"
	"math/big"
	"testing"

	"farebox/api"
)

var zeros api.Book

// TestChapter: the chapter's examples.
func TestChapter(t *testing.T) {
	sold, full := book(2500, -2500, 0), book(most, 0, least)
	wantSell(t, zeros, 10, 250, sold, api.OK)
	wantRefund(t, sold, 10, 4, 250, book(1500, 0, -1500), api.OK)
	wantRetire(t, sold, 10, 250, book(2500, 0, -2500), api.OK)
	wantRetire(t, zeros, 10, 250, zeros, api.ErrMoney)
	wantRefund(t, zeros, 10, 4, 250, zeros, api.ErrMoney)
	wantRefund(t, sold, 10, 11, 250, sold, api.ErrArg)
	wantRefund(t, sold, 10, -1, 250, sold, api.ErrArg)
	wantSell(t, sold, 0, 250, sold, api.ErrArg)
	wantSell(t, sold, 10, 1000000001, sold, api.ErrArg)
	wantSell(t, sold, 10, 0, sold, api.OK)
	wantPost(t, zeros, 0, 0, 5, zeros, api.ErrArg)
	wantPost(t, zeros, 0, 3, 5, zeros, api.ErrArg)
	wantPost(t, zeros, 0, 1, -1, zeros, api.ErrArg)
	wantPost(t, full, 0, 1, 1, full, api.ErrRange)
	wantPost(t, zeros, 1, 0, 5, zeros, api.ErrMoney)
	wantBalance(t, book(1500, 0, -1500), 2, 1500, api.OK)
	wantBalance(t, book(1500, 0, -1500), 0, 1500, api.OK)
	wantBalance(t, book(1500, 0, -1500), 3, 0, api.ErrArg)
	wantEven(t, book(1500, 0, -1500), true)
	wantEven(t, book(1, 0, 0), false)
	wantEven(t, book(-5, 5, 0), false)
	wantEven(t, zeros, true)
}

// TestExactP22_1: all calls beside numbers without an end, with all books by the ends and around 0: none panics, a refusal's book is the one that was handed in, and its number is 0.
func TestExactP22_1(t *testing.T) {
	eachBook(func(b api.Book) {
		for _, debit := range numbers {
			for _, credit := range numbers {
				for _, amount := range amounts {
					want, err := plainPost(b, debit, credit, big.NewInt(amount))
					wantPost(t, b, debit, credit, amount, want, err)
				}
			}
		}
		for _, rides := range []int{0, 1, 2, 4096, 4097} {
			for _, price := range []int64{-1, 0, 1, 1000000000, 1000000001} {
				want, err := plainSell(b, rides, price)
				wantSell(t, b, rides, price, want, err)
				want, err = plainRetire(b, rides, price)
				wantRetire(t, b, rides, price, want, err)
				for _, back := range []int{-1, 0, 1, rides, rides + 1} {
					want, err = plainRefund(b, rides, back, price)
					wantRefund(t, b, rides, back, price, want, err)
				}
			}
		}
		wantEven(t, b, exactOf(b).even())
	})
}

// TestAgainP22_1: what is asked twice, with other calls in between, is answered the same, and the book that was handed in is as it was.
func TestAgainP22_1(t *testing.T) {
	b := book(2500, -2500, 0)
	for range 3 {
		wantSell(t, b, 3, 100, book(2800, -2800, 0), api.OK)
		wantRefund(t, b, 10, 4, 250, book(1500, 0, -1500), api.OK)
		wantRetire(t, b, 10, 250, book(2500, 0, -2500), api.OK)
		wantPost(t, b, 0, 2, 7, book(2507, -2500, -7), api.OK)
		wantPost(t, b, 1, 0, 2501, b, api.ErrMoney)
		wantBalance(t, b, 1, 2500, api.OK)
		wantEven(t, b, true)
		if b != book(2500, -2500, 0) {
			t.Fatalf("P22.1: the book is %v now", b.Net)
		}
	}
}

// TestAccountsP22_2: each ordered pair of accounts is moved between, and no other pair is; the numbers are those of package api.
func TestAccountsP22_2(t *testing.T) {
	b := book(40, -20, -20)
	moved := map[[2]int]api.Book{
		{api.Cash, api.Unearned}:   book(45, -25, -20),
		{api.Cash, api.Earned}:     book(45, -20, -25),
		{api.Unearned, api.Cash}:   book(35, -15, -20),
		{api.Unearned, api.Earned}: book(40, -15, -25),
		{api.Earned, api.Cash}:     book(35, -20, -15),
		{api.Earned, api.Unearned}: book(40, -25, -15),
	}
	for _, debit := range numbers {
		for _, credit := range numbers {
			if want, ok := moved[[2]int{debit, credit}]; ok {
				wantPost(t, b, debit, credit, 5, want, api.OK)
				wantPost(t, b, debit, credit, 0, b, api.OK)
			} else {
				wantPost(t, b, debit, credit, 5, b, api.ErrArg)
				wantPost(t, b, debit, credit, 0, b, api.ErrArg)
			}
		}
	}
}

// TestAmountsP22_2: amounts at their ends, and what just goes beyond.
func TestAmountsP22_2(t *testing.T) {
	for _, amount := range []int64{under, under + 1, -2, -1} {
		wantPost(t, zeros, 0, 1, amount, zeros, api.ErrArg)
		wantPost(t, book(under, under, under), 1, 2, amount, book(under, under, under), api.ErrArg) // ahead of the range
	}
	for _, amount := range []int64{0, 1, 2, most - 1, most} {
		wantPost(t, zeros, 0, 1, amount, book(amount, -amount, 0), api.OK)
		wantPost(t, zeros, 0, 2, amount, book(amount, 0, -amount), api.OK)
		wantPost(t, book(amount, -amount, 0), 1, 0, amount, zeros, api.OK)
	}
}

// TestRangeP22_2: nets that come to an end of what fits, and just beyond it, the debited and the credited one.
func TestRangeP22_2(t *testing.T) {
	for _, c := range []struct {
		b             api.Book
		debit, credit int
		amount        int64
		want          api.Errno
	}{
		{book(most-1, 0, 0), 0, 1, 1, api.OK}, {book(most-1, 0, 0), 0, 1, 2, api.ErrRange},
		{book(most, 0, 0), 0, 1, 0, api.OK}, {book(most, 0, 0), 0, 1, 1, api.ErrRange}, {book(most, 0, 0), 0, 2, most, api.ErrRange},
		{book(0, least+1, 0), 0, 1, 1, api.OK}, {book(0, least+1, 0), 0, 1, 2, api.ErrRange},
		{book(0, least, 0), 0, 1, 0, api.OK}, {book(0, least, 0), 0, 1, 1, api.ErrRange}, {book(0, 0, least), 0, 2, most, api.ErrRange},
		{book(under, 0, 0), 0, 1, 0, api.ErrRange}, {book(under, 0, 0), 0, 1, 1, api.ErrMoney}, {book(under, 0, 0), 0, 1, most, api.ErrMoney},
		{book(0, under, 0), 1, 2, 0, api.ErrRange}, {book(0, under, 0), 1, 2, 1, api.OK}, {book(0, under, 0), 1, 2, most, api.OK},
		{book(0, under, 0), 0, 1, 0, api.ErrRange}, {book(0, under, 0), 0, 1, 1, api.ErrRange}, {book(0, under, 0), 0, 1, most, api.ErrRange},
		{book(under, 0, 0), 1, 0, 0, api.ErrRange}, {book(under, 0, 0), 1, 0, 1, api.ErrRange}, {book(under, 0, 0), 1, 0, most, api.ErrRange},
		{book(0, 0, most), 1, 2, most, api.ErrMoney}, {book(0, 0, most), 0, 2, most, api.OK}, {book(0, 0, most), 0, 2, most - 1, api.ErrMoney},
		{book(1, 0, most), 2, 0, 1, api.ErrRange}, {book(least, 0, 0), 2, 0, 1, api.ErrRange}, {book(least+1, 0, 0), 2, 0, 1, api.ErrMoney},
	} {
		want := c.b
		if c.want == api.OK {
			want.Net[c.debit] += c.amount
			want.Net[c.credit] -= c.amount
		}
		wantPost(t, c.b, c.debit, c.credit, c.amount, want, c.want)
	}
}

// TestOrderP22_2: the range goes ahead of the side, whichever of the two accounts each is of.
func TestOrderP22_2(t *testing.T) {
	for _, c := range []struct {
		b             api.Book
		debit, credit int
		amount        int64
	}{
		{book(most, 5, 0), 0, 1, 1},           // the debited out of range, the credited on its wrong side
		{book(-5, least, 0), 0, 1, 1},         // the other way round
		{book(0, most, 0), 1, 2, 1},           // both of them the debited one's
		{book(least, -9, 0), 1, 0, 1},         // both of them the credited one's
		{book(under, most, 0), 1, 0, most},    // both are both
		{book(0, under, 7), 1, 2, 0},          // with nothing moved
		{book(most, least, most), 0, 1, most}, // both out of range, the third on its wrong side
	} {
		wantPost(t, c.b, c.debit, c.credit, c.amount, c.b, api.ErrRange)
	}
}

// TestSideP22_2: an account may come to just 0 and no further, and one that was on its wrong side may come back.
func TestSideP22_2(t *testing.T) {
	b := book(10, -6, -4)
	wantPost(t, b, 1, 0, 6, book(4, 0, -4), api.OK)
	wantPost(t, b, 1, 0, 7, b, api.ErrMoney)
	wantPost(t, b, 1, 2, 6, book(10, 0, -10), api.OK)
	wantPost(t, b, 1, 2, 7, b, api.ErrMoney)
	wantPost(t, b, 2, 0, 4, book(6, -6, 0), api.OK)
	wantPost(t, b, 2, 0, 5, b, api.ErrMoney)
	poor := book(3, -6, 3)
	wantPost(t, poor, 1, 0, 3, book(0, -3, 3), api.OK)
	wantPost(t, poor, 1, 0, 4, poor, api.ErrMoney)
	wantPost(t, poor, 1, 2, 2, poor, api.ErrMoney)
	wantPost(t, poor, 1, 2, 3, book(3, -3, 0), api.OK)
	wantPost(t, poor, 1, 2, 0, poor, api.ErrMoney) // nothing is moved, and it stays there
	owed := book(-3, 0, 3)
	wantPost(t, owed, 0, 2, 2, owed, api.ErrMoney)
	wantPost(t, owed, 0, 2, 3, zeros, api.OK)
}

// TestThirdP22_2: whatever the third account's net is, it is not looked at and stays.
func TestThirdP22_2(t *testing.T) {
	for debit := range 3 {
		for credit := range 3 {
			if debit == credit {
				continue
			}
			third := 3 - debit - credit
			for _, net := range nets {
				b := book(10, -10, -10)
				b.Net[third] = net
				want := b
				want.Net[debit] += 10
				want.Net[credit] -= 10
				wantPost(t, b, debit, credit, 10, want, api.OK)
			}
		}
	}
}

// TestSellP22_3: rides and prices at the ends of their ranges and types, with each other.
func TestSellP22_3(t *testing.T) {
	for _, rides := range ridesEdges {
		for _, price := range priceEdges {
			for _, b := range []api.Book{zeros, book(7, -4, -3), book(most, least, 0)} {
				want, err := plainSell(b, rides, price)
				wantSell(t, b, rides, price, want, err)
			}
		}
	}
	wantSell(t, zeros, 1, 1, book(1, -1, 0), api.OK)
	wantSell(t, zeros, 4096, 1000000000, book(4096000000000, -4096000000000, 0), api.OK)
	wantSell(t, book(7, -4, -3), 2, 5, book(17, -14, -3), api.OK)
}

// TestSellRefusedP22_3: what Post refuses is refused with the book as it was, and a wrong argument goes ahead of it.
func TestSellRefusedP22_3(t *testing.T) {
	for _, c := range []struct {
		b     api.Book
		rides int
		price int64
		want  api.Errno
	}{
		{book(most-9, least+9, 0), 10, 1, api.ErrRange}, {book(most, 0, least), 1, 1, api.ErrRange}, {book(0, least, most), 1, 1, api.ErrRange},
		{book(-11, 0, 11), 10, 1, api.ErrMoney}, {book(0, 11, -11), 10, 1, api.ErrMoney}, {book(-1, 0, 1), 10, 0, api.ErrMoney},
		{book(under, under, under), 10, 0, api.ErrRange}, {book(under, under, under), 0, 0, api.ErrArg}, {book(-1, 1, 0), 1, -1, api.ErrArg},
	} {
		wantSell(t, c.b, c.rides, c.price, c.b, c.want)
	}
	wantSell(t, book(most-10, least+10, 0), 10, 1, book(most, least, 0), api.OK)
	wantSell(t, book(-10, 10, 0), 10, 1, zeros, api.OK)
	wantSell(t, book(0, 0, under), 2, 3, book(6, -6, under), api.OK) // Earned is not looked at
}

// TestRefundP22_4: rides, rides back and prices at the ends of their ranges and types, with each other.
func TestRefundP22_4(t *testing.T) {
	for _, rides := range ridesEdges {
		for _, back := range backEdges {
			for _, price := range priceEdges {
				for _, b := range []api.Book{zeros, book(5000000000000, -4500000000000, -500000000000)} {
					want, err := plainRefund(b, rides, back, price)
					wantRefund(t, b, rides, back, price, want, err)
				}
			}
		}
	}
	sold := book(4096000000000, -4096000000000, 0)
	wantRefund(t, sold, 4096, 4096, 1000000000, zeros, api.OK)
	wantRefund(t, sold, 4096, 0, 1000000000, book(4096000000000, 0, -4096000000000), api.OK)
	wantRefund(t, sold, 4096, 1, 1000000000, book(4095000000000, 0, -4095000000000), api.OK)
	wantRefund(t, sold, 4096, 4097, 1000000000, sold, api.ErrArg)
	wantRefund(t, book(1, -1, 0), 1, 1, 1, zeros, api.OK)
	wantRefund(t, book(1, -1, 0), 1, 0, 1, book(1, 0, -1), api.OK)
	wantRefund(t, book(9, -8, -1), 4, 2, 0, book(9, -8, -1), api.OK)
}

// TestBackP22_4: of a carnet's rides each number comes back, and the others are earned.
func TestBackP22_4(t *testing.T) {
	for back := range 11 {
		n := int64(back)
		wantRefund(t, book(3000, -2600, -400), 10, back, 250, book(3000-250*n, -100, -400-250*(10-n)), api.OK)
	}
}

// TestRefusedP22_4: the first move is refused, or the second alone; the first error is told, and the book is as it was.
func TestRefusedP22_4(t *testing.T) {
	for _, c := range []struct {
		b           api.Book
		rides, back int
		price       int64
		want        api.Errno
	}{
		{book(2500, -1499, 0), 10, 4, 250, api.ErrMoney},          // the first: Unearned is too little
		{book(2500, -2500, least), 10, 4, 250, api.ErrRange},      // the first: Earned goes out of range
		{book(2500, -2500, 1501), 10, 4, 250, api.ErrMoney},       // the first: Earned stays on its wrong side
		{book(2500, -2500, 1), 10, 10, 250, api.ErrMoney},         // the first moves nothing, and Earned is on its wrong side
		{book(2500, -2500, under), 10, 10, 250, api.ErrRange},     // the first moves nothing, and Earned does not fit
		{book(2500, under, 0), 10, 10, 250, api.ErrRange},         // nor does Unearned, which the second move would mend
		{book(under, -1499, 0), 10, 4, 250, api.ErrMoney},         // both: the error of the first
		{book(0, -2500, least), 10, 4, 250, api.ErrRange},         // both, the other way
		{book(999, -2500, 0), 10, 4, 250, api.ErrMoney},           // the second: Cash is too little
		{book(2500, -2499, 0), 10, 4, 250, api.ErrMoney},          // the second: Unearned is too little by then
		{book(least, -2500, 0), 10, 4, 250, api.ErrRange},         // the second: Cash goes out of range
		{book(-1, -2500, 0), 10, 0, 250, api.ErrMoney},            // the second moves nothing, and Cash is on its wrong side
		{book(under, -2500, 0), 10, 0, 250, api.ErrRange},         // the second moves nothing, and Cash does not fit
		{book(under, under, under), 10, 11, 250, api.ErrArg},      // a wrong argument goes ahead
		{book(-1, 1, 1), 0, 0, 250, api.ErrArg},                   // of each kind
		{book(-1, 1, 1), 10, 4, 1000000001, api.ErrArg},           // of each kind
		{book(most, 1, least), 10, 10, 250, api.ErrMoney},         // the first moves nothing, and Unearned is on its wrong side
		{book(least+1, -2500, 0), 10, 4, 1, api.ErrRange},         // the second, by a little
		{book(least+4, -2500, 0), 10, 4, 1, api.ErrMoney},         // the second, just in range
		{book(2500, -2500, least+1499), 10, 4, 250, api.ErrRange}, // the first, by one
	} {
		wantRefund(t, c.b, c.rides, c.back, c.price, c.b, c.want)
	}
	wantRefund(t, book(1000, -2500, 1500), 10, 4, 250, zeros, api.OK)                                  // each at just 0
	wantRefund(t, book(2500, -2500, least+1500), 10, 4, 250, book(1500, 0, least), api.OK)             // just in range
	wantRefund(t, book(1000, under, 0), 10, 4, 250, book(0, under+2500, -1500), api.OK)                // a net that does not fit comes to fit
	wantRefund(t, book(0, -4096000000000, 0), 4096, 0, 1000000000, book(0, 0, -4096000000000), api.OK) // none back needs no cash
}

// TestRetireP22_5: rides and prices at the ends of their ranges and types, with each other.
func TestRetireP22_5(t *testing.T) {
	for _, rides := range ridesEdges {
		for _, price := range priceEdges {
			for _, b := range []api.Book{zeros, book(0, -5000000000000, 0), book(most, least, 0), book(0, -4096, least)} {
				want, err := plainRetire(b, rides, price)
				wantRetire(t, b, rides, price, want, err)
			}
		}
	}
	wantRetire(t, book(1, -1, 0), 1, 1, book(1, 0, -1), api.OK)
	wantRetire(t, book(4096000000000, -4096000000000, 0), 4096, 1000000000, book(4096000000000, 0, -4096000000000), api.OK)
	wantRetire(t, book(9, -8, -1), 4, 0, book(9, -8, -1), api.OK)
}

// TestRetireRefusedP22_5: what Post refuses is refused with the book as it was, and a wrong argument goes ahead of it.
func TestRetireRefusedP22_5(t *testing.T) {
	for _, c := range []struct {
		b     api.Book
		rides int
		price int64
		want  api.Errno
	}{
		{book(9, -9, 0), 10, 1, api.ErrMoney}, {book(9, -19, 11), 10, 1, api.ErrMoney}, {book(0, 1, 0), 10, 0, api.ErrMoney},
		{book(0, -10, least), 10, 1, api.ErrRange}, {book(0, -10, least+9), 10, 1, api.ErrRange}, {book(0, under, 0), 10, 0, api.ErrRange},
		{book(0, 1, least), 10, 1, api.ErrRange}, {book(0, under, under), 4097, 0, api.ErrArg}, {zeros, 10, -1, api.ErrArg},
	} {
		wantRetire(t, c.b, c.rides, c.price, c.b, c.want)
	}
	wantRetire(t, book(0, -10, least+10), 10, 1, book(0, 0, least), api.OK)
	wantRetire(t, book(0, -10, 10), 10, 1, zeros, api.OK)
	wantRetire(t, book(under, -10, 0), 10, 1, book(under, 0, -10), api.OK) // Cash is not looked at
}

// TestBalanceP22_6: of each account and of none, at the ends of what fits and below.
func TestBalanceP22_6(t *testing.T) {
	for _, account := range []int{math.MinInt, -3, -2, -1, 3, 4, math.MaxInt} {
		wantBalance(t, book(1, 2, 3), account, 0, api.ErrArg)
		wantBalance(t, book(under, under, under), account, 0, api.ErrArg)
	}
	for account := range 3 {
		for other := range 3 {
			var b api.Book
			b.Net[other] = under
			if account == other {
				wantBalance(t, b, account, 0, api.ErrRange)
			} else {
				wantBalance(t, b, account, 0, api.OK) // the others are not looked at
			}
		}
	}
	for _, net := range nets[1:] {
		wantBalance(t, book(net, 5, 6), 0, net, api.OK)
		wantBalance(t, book(5, net, 6), 1, -net, api.OK)
		wantBalance(t, book(5, 6, net), 2, -net, api.OK)
	}
	wantBalance(t, book(most, least, 0), 0, 9223372036854775807, api.OK)
	wantBalance(t, book(most, least, 0), 1, 9223372036854775807, api.OK)
	wantBalance(t, book(least, most, 0), 0, -9223372036854775807, api.OK)
	wantBalance(t, book(least, most, 0), 1, -9223372036854775807, api.OK)
}

// TestEvenP22_7: nets that add up to 0, nets that only do so if a sum wraps round, accounts on their wrong sides, and nets that do not fit.
func TestEvenP22_7(t *testing.T) {
	for _, b := range []api.Book{
		zeros, book(1, -1, 0), book(1, 0, -1), book(2, -1, -1), book(most, least, 0), book(most, 0, least), book(most, -1, least+1), book(most, least+1, -1), book(most-1, least+1, 0),
	} {
		wantEven(t, b, true)
	}
	for _, b := range []api.Book{
		book(1, 0, 0), book(0, -1, 0), book(0, 0, -1), book(2, -1, 0), book(1, -1, -1), book(most, least+1, 0), book(most, least, -1), book(most-1, least, 0), // they don't add up
		book(0, least, least), book(2, least, least), book(1, least, least), book(most, least, least), // of these a sum wraps round, to what is near 0
		book(0, under, under), book(2, most, most), book(under, under, 0), book(under, 0, under), // these wrap round to 0
		book(-5, 5, 0), book(-5, 0, 5), book(5, -6, 1), book(5, 1, -6), book(0, 1, -1), book(0, -1, 1), book(-1, -1, 2), book(least, most, 0), book(least, 0, most), book(-2, 1, 1), // a wrong side
		book(most, under, 1), book(most, 1, under), book(0, under, 0), book(under, 0, 0), book(0, 0, under), book(under, most, 1), book(1, under, most), // one that does not fit
	} {
		wantEven(t, b, false)
	}
}

// TestByChanceP22: all calls beside numbers without an end, with any books.
func TestByChanceP22(t *testing.T) {
	r := chance(1)
	draw := func() int64 {
		switch r.IntN(4) {
		case 0:
			return nets[r.IntN(len(nets))]
		case 1:
			return int64(r.Uint64())
		case 2:
			return r.Int64N(9000000000000) - 8000000000000
		}
		return r.Int64N(9) - 4
	}
	for range 40000 {
		b := book(draw(), draw(), draw())
		debit, credit, amount := r.IntN(3), r.IntN(3), draw()
		want, err := plainPost(b, debit, credit, big.NewInt(amount))
		wantPost(t, b, debit, credit, amount, want, err)
		rides, price := 1+r.IntN(4096), r.Int64N(1000000001)
		want, err = plainSell(b, rides, price)
		wantSell(t, b, rides, price, want, err)
		want, err = plainRetire(b, rides, price)
		wantRetire(t, b, rides, price, want, err)
		back := r.IntN(rides + 1)
		want, err = plainRefund(b, rides, back, price)
		wantRefund(t, b, rides, back, price, want, err)
		wantEven(t, b, exactOf(b).even())
		for account := range 3 {
			if b.Net[account] == under {
				wantBalance(t, b, account, 0, api.ErrRange)
			} else if account == api.Cash {
				wantBalance(t, b, account, b.Net[account], api.OK)
			} else {
				wantBalance(t, b, account, -b.Net[account], api.OK)
			}
		}
	}
}
