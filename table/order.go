package table

import (
	"bytes"

	"farebox/api"
)

// mark is how far a carnet was ridden.
type mark struct {
	index int
	value api.Hash
}

// signature is a signature that is held against others on the same thing.
type signature api.Sig

// floor is a floor that is held against others.
type floor api.Floor

// markOf is the mark of an entry.
func markOf(e api.Entry) mark { return mark{e.Index, e.Value} }

// isAbove tells whether a mark is greater than another.
func (m mark) isAbove(other mark) bool {
	if m.index != other.index {
		return m.index > other.index
	}
	return bytes.Compare(m.value[:], other.value[:]) > 0
}

// isAbove tells whether a signature is greater than another.
func (s signature) isAbove(other signature) bool { return bytes.Compare(s[:], other[:]) > 0 }

// isAbove tells whether a floor is greater than another.
func (f floor) isAbove(other floor) bool {
	if f.Floor != other.Floor {
		return f.Floor > other.Floor
	}
	return signature(f.Sig).isAbove(signature(other.Sig))
}

// greater is the greater of two of a kind. What the order is, only the kind knows: secondIsAbove is its method, bound to the second.
func greater[T any](first, second T, secondIsAbove func(T) bool) T {
	if secondIsAbove(first) {
		return second
	}
	return first
}

// greaterMark is the greater of two entries' marks.
func greaterMark(a, b api.Entry) mark {
	first, second := markOf(a), markOf(b)
	return greater(first, second, second.isAbove)
}

// greaterSig is the greater of two signatures.
func greaterSig(a, b api.Sig) api.Sig {
	first, second := signature(a), signature(b)
	return api.Sig(greater(first, second, second.isAbove))
}

// greaterFloor is the greater of two floors.
func greaterFloor(a, b api.Floor) api.Floor {
	first, second := floor(a), floor(b)
	return api.Floor(greater(first, second, second.isAbove))
}
