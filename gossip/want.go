package gossip

import "farebox/api"

// want is what of a row somebody has not told yet to have. Each part is kept by itself, since the summaries of one serial may each tell another one.
type want struct {
	index                    int
	indexed, frozen, revoked bool
}

// all is what is wanted of a row by somebody who has told nothing.
func all(row api.Entry) want {
	return want{index: row.Index, indexed: true, frozen: row.Frozen, revoked: row.Revoked}
}

// without is what is still wanted by somebody who tells to have this, too.
func (w want) without(had api.Summary) want {
	w.indexed = w.indexed && had.Index < w.index
	w.frozen = w.frozen && !had.Frozen
	w.revoked = w.revoked && !had.Revoked
	return w
}

func (w want) nothing() bool { return !w.indexed && !w.frozen && !w.revoked }

// strike takes what somebody has out of what is wanted.
func strike(wanted map[int]want, had api.Summary) {
	w, there := wanted[had.Serial]
	if !there {
		return
	}
	if w = w.without(had); w.nothing() {
		delete(wanted, had.Serial)
		return
	}
	wanted[had.Serial] = w
}
