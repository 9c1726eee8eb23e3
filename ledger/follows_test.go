package ledger_test

import (
	"math/rand/v2"
	"testing"

	"farebox/api"
	"farebox/ledger"
)

// evenBooks are even books at the ends and in between.
var evenBooks = []api.Book{
	zeros, book(1, -1, 0), book(1, 0, -1), book(2500, -2500, 0), book(2500, 0, -2500), book(9, -4, -5),
	book(most-1, least+1, 0), book(most, least, 0), book(most, 0, least), book(most, -1, least+1), book(most, least+2500, -2500),
	book(most-4096000000000, least+4096000000000, 0), book(most-4095999999999, least+4095999999999, 0),
}

// drawEven is an even book by chance, with little in it or near the end.
func drawEven(r *rand.Rand) api.Book {
	var cash int64
	switch r.IntN(3) {
	case 0:
		cash = r.Int64N(20)
	case 1:
		cash = r.Int64N(9000000000000)
	case 2:
		cash = most - r.Int64N(9000000000000)
	}
	unearned := r.Int64N(cash/2 + 1)
	if r.IntN(2) == 0 {
		unearned = cash - unearned
	}
	return book(cash, -unearned, unearned-cash)
}

// stillEven asks a call's answer on an even book: behind OK it is even, behind a refusal it is the one that was handed in.
func stillEven(t *testing.T, what string, b, after api.Book, err api.Errno) {
	t.Helper()
	if err != api.OK && after != b {
		t.Errorf("P22.1: %s of %v is refused, and the book is %v", what, b.Net, after.Net)
	}
	if !ledger.Even(after) {
		t.Errorf("P22.8: %s of the even book %v makes %v, %d", what, b.Net, after.Net, err)
	}
}

// TestEvenStaysP22_8: a book that is even stays so by each call.
func TestEvenStaysP22_8(t *testing.T) {
	r := chance(2)
	books := evenBooks
	for range 3000 {
		books = append(books, drawEven(r))
	}
	for _, b := range books {
		wantEven(t, b, true)
		for debit := -1; debit <= 3; debit++ {
			for credit := -1; credit <= 3; credit++ {
				for _, amount := range []int64{-1, 0, 1, b.Net[0], -b.Net[1], -b.Net[2], most - b.Net[0], most} {
					after, err := ledger.Post(b, debit, credit, amount)
					stillEven(t, "Post", b, after, err)
				}
			}
		}
		rides, price := 1+r.IntN(4096), r.Int64N(1000000001)
		after, err := ledger.Sell(b, rides, price)
		stillEven(t, "Sell", b, after, err)
		after, err = ledger.Retire(b, rides, price)
		stillEven(t, "Retire", b, after, err)
		after, err = ledger.Refund(b, rides, r.IntN(rides+1), price)
		stillEven(t, "Refund", b, after, err)
	}
}

// wantThereAndBack sells a carnet on an even book: refunded whole the book is as it was, refunded by none it is as if it were retired. A sale is refused just where Cash is too great for it.
func wantThereAndBack(t *testing.T, b api.Book, rides int, price int64) {
	t.Helper()
	sold, err := ledger.Sell(b, rides, price)
	if fits := b.Net[0] <= most-int64(rides)*price; !fits {
		wantSell(t, b, rides, price, b, api.ErrRange)
		return
	} else if err != api.OK {
		t.Errorf("P22.8: Sell(%v, %d, %d) is refused: %d", b.Net, rides, price, err)
		return
	}
	wantRefund(t, sold, rides, rides, price, b, api.OK)
	retired, err := ledger.Retire(sold, rides, price)
	if err != api.OK {
		t.Errorf("P22.8: Retire(%v, %d, %d) is refused: %d", sold.Net, rides, price, err)
	}
	wantRefund(t, sold, rides, 0, price, retired, api.OK)
	wantEven(t, retired, true)
}

// TestThereAndBackP22_8: sold and refunded whole, and sold and refunded by none, of even books.
func TestThereAndBackP22_8(t *testing.T) {
	for _, b := range evenBooks {
		for _, rides := range []int{1, 2, 10, 4095, 4096} {
			for _, price := range []int64{0, 1, 250, 999999999, 1000000000} {
				wantThereAndBack(t, b, rides, price)
			}
		}
	}
	r := chance(3)
	for range 3000 {
		wantThereAndBack(t, drawEven(r), 1+r.IntN(4096), r.Int64N(1000000001))
	}
}

// carnet is one of a run: whether it is open, and how many rides come back, or -1 if it is retired.
type carnet struct {
	rides, back int
	price       int64
	sold, ended bool
}

func (c carnet) worth() int64 { return int64(c.rides) * c.price }

// step sells a carnet, or ends it: neither may be refused.
func step(t *testing.T, b api.Book, c *carnet) api.Book {
	t.Helper()
	after, err := b, api.OK
	switch {
	case !c.sold:
		c.sold = true
		after, err = ledger.Sell(b, c.rides, c.price)
	case c.back < 0:
		c.ended = true
		after, err = ledger.Retire(b, c.rides, c.price)
	default:
		c.ended = true
		after, err = ledger.Refund(b, c.rides, c.back, c.price)
	}
	if err != api.OK {
		t.Fatalf("P22.8: with %v a step of %+v is refused: %d", b.Net, *c, err)
	}
	return after
}

// wantAccounts asks a book's balances by what was done with each carnet.
func wantAccounts(t *testing.T, b api.Book, carnets []carnet) {
	t.Helper()
	var cash, unearned, earned int64
	for _, c := range carnets {
		back := int64(max(c.back, 0)) * c.price
		switch {
		case c.ended:
			cash += c.worth() - back
			earned += c.worth() - back
		case c.sold:
			cash += c.worth()
			unearned += c.worth()
		}
	}
	wantBalance(t, b, api.Cash, cash, api.OK)
	wantBalance(t, b, api.Unearned, unearned, api.OK)
	wantBalance(t, b, api.Earned, earned, api.OK)
	wantEven(t, b, true)
}

// allWays goes every way on from a book: each carnet that is not sold may be sold, each open one ended.
func allWays(t *testing.T, b api.Book, carnets []carnet) int {
	t.Helper()
	wantAccounts(t, b, carnets)
	ways := 1
	for i, c := range carnets {
		if c.ended {
			continue
		}
		next := append([]carnet(nil), carnets...)
		ways += allWays(t, step(t, b, &next[i]), next)
	}
	return ways
}

// TestAllOrdersP22_8: four carnets, two of them alike, sold and ended in all orders, some refunded in part, whole, by none, or retired.
func TestAllOrdersP22_8(t *testing.T) {
	for _, backs := range [][4]int{{4, 4, 3, 0}, {10, 0, -1, 4096}, {-1, -1, -1, -1}, {0, 10, 7, 2000}, {1, -1, 0, 4095}} {
		carnets := []carnet{
			{rides: 10, price: 250, back: backs[0]}, {rides: 10, price: 250, back: backs[1]},
			{rides: 7, price: 0, back: backs[2]}, {rides: 4096, price: 1000000000, back: backs[3]},
		}
		if ways := allWays(t, zeros, carnets); ways != 7365 {
			t.Errorf("P22.8: %d ways are gone, want 7365", ways)
		}
	}
}

// TestManyP22_8: many carnets, sold and ended by chance.
func TestManyP22_8(t *testing.T) {
	r := chance(4)
	for range 30 {
		b, carnets := zeros, []carnet(nil)
		for range 300 {
			c := carnet{rides: 1 + r.IntN(4096), price: r.Int64N(1000000001)}
			if r.IntN(4) == 0 {
				c = carnet{rides: 1 + r.IntN(3), price: r.Int64N(3)}
			}
			c.back = r.IntN(c.rides+2) - 1
			carnets = append(carnets, c)
			if at := r.IntN(len(carnets)); !carnets[at].ended {
				b = step(t, b, &carnets[at])
				wantAccounts(t, b, carnets)
			}
		}
		for _, i := range r.Perm(len(carnets)) {
			for !carnets[i].ended {
				b = step(t, b, &carnets[i])
			}
			wantAccounts(t, b, carnets)
		}
		wantBalance(t, b, api.Unearned, 0, api.OK)
	}
}

// TestFullP22_8: as the greatest carnets are sold till Cash is at its end, none is refused ahead of it, and all of them come back.
func TestFullP22_8(t *testing.T) {
	const worth = 4096 * 1000000000
	b := zeros
	n := int64(most / worth)
	for i := range n {
		after, err := ledger.Sell(b, 4096, 1000000000)
		if err != api.OK {
			t.Fatalf("P22.8: sale %d is refused: %d", i+1, err)
		}
		b = after
	}
	if b != book(n*worth, -n*worth, 0) {
		t.Fatalf("P22.8: %d sales make %v", n, b.Net)
	}
	wantSell(t, b, 4096, 1000000000, b, api.ErrRange)
	for i := range n {
		var after api.Book
		err := api.OK
		switch i % 3 {
		case 0:
			after, err = ledger.Refund(b, 4096, 4096, 1000000000)
		case 1:
			after, err = ledger.Refund(b, 4096, 1000, 1000000000)
		case 2:
			after, err = ledger.Retire(b, 4096, 1000000000)
		}
		if err != api.OK {
			t.Fatalf("P22.8: end %d is refused: %d", i+1, err)
		}
		b = after
	}
	wantBalance(t, b, api.Unearned, 0, api.OK)
	wantEven(t, b, true)
}
