package extract

import (
	"bytes"

	"farebox/api"
	"farebox/chain"
	"farebox/sign"
)

// search looks at the body that is shown at a place of the trace, and tells the first break in it that is meant.
type search func(at int, body []byte) (api.Break, bool)

// first hands the shown bodies to a search, one after the other.
func first(trace []api.Event, look search) (api.Break, bool) {
	for at, body := range shown(trace) {
		if b, found := look(at, body); found {
			return b, true
		}
	}
	return api.Break{}, false
}

func anyBreak(api.Break) bool { return true }

func same(a, b api.Break) bool {
	return a.Kind == b.Kind && a.Key == b.Key && bytes.Equal(a.Say, b.Say) && a.Sig == b.Sig && a.Value == b.Value && a.Steps == b.Steps
}

// only leaves out the bodies of other values, ahead of the steps that they would cost.
func only(v api.Hash, look search) search {
	return func(at int, body []byte) (api.Break, bool) {
		if got, there := valueOf(body); !there || got != v {
			return api.Break{}, false
		}
		return look(at, body)
	}
}

// forgeries looks for what verifies under the key of an owner who had not said it.
func forgeries(r api.Ring, trace []api.Event, meant func(api.Break) bool) search {
	said := sayings(trace)
	refused := firsts[saying]{} // what does not verify: verifying takes the longest, and enemies say one thing often
	return func(at int, body []byte) (api.Break, bool) {
		node, key, owned := owner(r, body)
		if !owned {
			return api.Break{}, false
		}
		for say, sig := range says(body) {
			b := api.Break{Kind: api.BreakForgery, Key: key, Say: say, Sig: sig}
			x := saying{node, string(say), sig}
			if !meant(b) || said.ahead(x, at) || refused.ahead(x, at) {
				continue
			}
			if sign.Verify(key, say, sig) {
				return b, true
			}
			refused.tell(x, at)
		}
		return api.Break{}, false
	}
}

// preimages looks for values that were not known, and lead to one that was.
func preimages(trace []api.Event, meant func(api.Break) bool) search {
	known := learn(trace).values
	leads := map[api.Hash]int{} // of the values that were gone from, up to which place they lead to none that was known ahead of it
	return func(at int, body []byte) (api.Break, bool) {
		v, there := valueOf(body)
		if !there || known.ahead(v, at) {
			return api.Break{}, false
		}
		b := api.Break{Kind: api.BreakPreimage, Value: v}
		upTo := len(trace)
		for w := v; b.Steps < api.MaxRides; {
			// An enemy may show a whole chain: who comes to where he has been before need not go on from there.
			if place, been := leads[w]; been && place >= at {
				upTo = min(upTo, place)
				break
			}
			w = chain.Step(w)
			b.Steps++
			if place, ever := known[w]; ever {
				upTo = min(upTo, place)
			}
			if known.ahead(w, at) && meant(b) {
				return b, true
			}
		}
		leads[v] = upTo
		return api.Break{}, false
	}
}

// strays looks for values that were known, but not as the rides that they are shown as.
func strays(trace []api.Event, meant func(api.Break) bool) search {
	known := learn(trace)
	return func(at int, body []byte) (api.Break, bool) {
		x, rides, there := rideOf(body)
		b := api.Break{Kind: api.BreakStray, Value: x.value, Steps: x.index}
		if !there || x.index < 1 || !meant(b) || !known.anchors.ahead(x.anchor, at) || !known.values.ahead(x.value, at) || known.rides.ahead(x, at) {
			return api.Break{}, false
		}
		if !chain.Check(x.anchor, rides, x.index, x.value) {
			return api.Break{}, false
		}
		return b, true
	}
}
