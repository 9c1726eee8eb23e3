package gate

import (
	"farebox/api"
	"farebox/ring"
	"farebox/table"
	"farebox/terms"
)

// outcome is what a message comes to: the state behind it, the record of the change, and what is answered. Without a record nothing changes.
type outcome struct {
	state  api.GateState
	record []byte
	answer api.Answer
}

// kind is what is done with the messages of a domain.
type kind struct {
	take func(body []byte) outcome
}

// kinds are the messages that a gate takes, by their domains.
func (g *Gate) kinds() map[int]kind {
	return map[int]kind{
		api.DomainTicket: {reading(terms.DecodeTicket, g.ride)},
		api.DomainEntry:  {reading(terms.DecodeEntry, g.learn)},
		api.DomainFreeze: {reading(terms.DecodeFreeze, g.freeze)},
		api.DomainRevoke: {reading(terms.DecodeRevocation, g.revoke)},
		api.DomainFloor:  {reading(terms.DecodeFloor, g.raise)},
	}
}

// reading makes of what is done with a term what is done with a body that tells one.
func reading[T any](decode func([]byte) (T, api.Errno), do func(T) outcome) func([]byte) outcome {
	return func(body []byte) outcome {
		x, err := decode(body)
		if err != api.OK {
			return noChange(refused(err))
		}
		return do(x)
	}
}

func (g *Gate) ride(t api.Ticket) outcome {
	after, err := Decide(g.keys, g.state, g.rows, t)
	if err != api.OK {
		return noChange(refused(err))
	}
	row, _ := table.Find(after, t.Cert.Serial)
	return outcome{after, rowRecord(rideKind, row), numbers(row.Cert.Serial, row.Index)}
}

func (g *Gate) learn(e api.Entry) outcome {
	after, changed, err := Learn(g.keys, g.state, g.rows, e)
	return rowOutcome(after, changed, err, e.Cert, func(row api.Entry) api.Answer {
		if changed {
			return numbers(row.Cert.Serial, row.Index, 1)
		}
		return numbers(row.Cert.Serial, row.Index, 0)
	})
}

func (g *Gate) freeze(f api.Freeze) outcome {
	after, changed, err := Freeze(g.keys, g.state, g.rows, f)
	return rowOutcome(after, changed, err, f.Cert, g.acknowledge)
}

func (g *Gate) revoke(v api.Revocation) outcome {
	after, changed, err := Revoke(g.keys, g.state, g.rows, v)
	return rowOutcome(after, changed, err, v.Cert, func(row api.Entry) api.Answer { return numbers(row.Cert.Serial) })
}

func (g *Gate) raise(f api.Floor) outcome {
	after, changed, err := Raise(g.keys, g.state, f)
	switch {
	case err != api.OK:
		return noChange(refused(err))
	case !changed:
		return noChange(numbers(after.Floor.Floor))
	}
	return outcome{after, floorRecord(after.Floor), numbers(after.Floor.Floor)}
}

// rowOutcome is what a message about one carnet comes to that was no ride; say is the answer, by the row as it stands then.
func rowOutcome(after api.GateState, changed bool, err api.Errno, c api.Cert, say func(api.Entry) api.Answer) outcome {
	if err != api.OK {
		return noChange(refused(err))
	}
	row, _ := table.Find(after, c.Serial)
	if !changed {
		return noChange(say(row))
	}
	return outcome{after, rowRecord(entryKind, row), say(row)}
}

// acknowledge answers a freeze: it tells the issuer how far the carnet was ridden, as far as this gate knows.
func (g *Gate) acknowledge(row api.Entry) api.Answer {
	ack := ring.SealAck(g.seed, api.Ack{Serial: row.Cert.Serial, Gate: g.number, Index: row.Index, Value: row.Value})
	told, _ := terms.EncodeAck(ack)
	answer := numbers(row.Cert.Serial, row.Index)
	answer.Out = []api.Message{g.message(issuerNode, told)}
	return answer
}

func noChange(a api.Answer) outcome { return outcome{answer: a} }

// numbers is an answer that tells these.
func numbers(list ...int) api.Answer {
	var nums []int64
	for _, n := range list {
		nums = append(nums, int64(n))
	}
	return api.Answer{Nums: nums}
}
