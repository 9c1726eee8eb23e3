package issuer

import "farebox/api"

// LogUpTo lays leaves that stand for nothing behind the log till it has so many: to fill it by operations takes more signatures than a test can wait for. The flash does not know of them.
func LogUpTo(i *Issuer, n int) {
	for k := len(i.work.state.Leaves); k < n; k++ {
		i.work.state.Leaves = append(i.work.state.Leaves, StandIn(k))
	}
}

// StandIn is the leaf that stands for nothing at a place.
func StandIn(k int) api.Hash { return api.Hash{byte(k), byte(k >> 8), byte(k >> 16), 0xEE} }
