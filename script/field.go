package script

import "farebox/api"

// field is a field of an operation that a line tells.
type field int

const (
	node field = iota
	other
	count
	price
	body
)

// read puts what the text says into its field of the operation, if it is written as it must be.
func (f field) read(o *api.Op, text string) bool {
	if f == body {
		told, ok := readBytes(text)
		o.Body = told
		return ok
	}
	n, ok := readNumber(text)
	switch f {
	case node:
		o.Node = int(n)
	case other:
		o.Other = int(n)
	case count:
		o.Count = int(n)
	case price:
		o.Price = n
	}
	return ok
}

// tell is the field's text, if a line may hold it.
func (f field) tell(o api.Op) (string, bool) {
	switch f {
	case node:
		return tellNumber(int64(o.Node))
	case other:
		return tellNumber(int64(o.Other))
	case count:
		return tellNumber(int64(o.Count))
	case price:
		return tellNumber(o.Price)
	}
	return tellBytes(o.Body)
}
