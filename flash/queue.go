package flash

import "slices"

// crash comes to pass at the after-th write that it counts, of which keep bytes are done.
type crash struct {
	after, keep int
}

// queue is the crashes that wait. Only the first of them counts, so its after is brought down by each write and needs no mark of where it began.
type queue []crash

// count tells the first crash of a write. If it comes to pass at that write, it leaves the queue, and keep is its own.
func (q queue) count() (rest queue, keep int, cut bool) {
	if len(q) == 0 {
		return q, 0, false
	}
	q[0].after--
	if q[0].after > 0 {
		return q, 0, false
	}
	keep = q[0].keep
	return slices.Delete(q, 0, 1), keep, true
}
