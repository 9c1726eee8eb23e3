package terms

import (
	"farebox/api"
	"farebox/wire"
)

// field is what is done with one field of the terms of a type. Its functions know the field's place in a term, and its limits.
type field[T any] struct {
	put  func(*wire.Writer, *T) // to be called only where the field fits: numbers would be cut otherwise
	get  func(*wire.Reader, *T)
	fits func(*T) bool
}

// number is a field from least to most, in four bytes.
func number[T any](place func(*T) *int, least, most int) field[T] {
	return numberUpTo(place, least, func(*T) int { return most })
}

// numberUpTo is a number whose upper limit hangs on the rest of the term.
func numberUpTo[T any](place func(*T) *int, least int, most func(*T) int) field[T] {
	return field[T]{
		put:  func(w *wire.Writer, x *T) { w.U32(uint32(*place(x))) },
		get:  func(r *wire.Reader, x *T) { *place(x) = int(r.U32()) },
		fits: func(x *T) bool { return least <= *place(x) && *place(x) <= most(x) },
	}
}

// money is a field from 0 to most, in eight bytes. Those above every int64 are read as numbers below 0, which do not fit.
func money[T any](place func(*T) *int64, most int64) field[T] {
	return field[T]{
		put:  func(w *wire.Writer, x *T) { w.U64(uint64(*place(x))) },
		get:  func(r *wire.Reader, x *T) { *place(x) = int64(r.U64()) },
		fits: func(x *T) bool { return 0 <= *place(x) && *place(x) <= most },
	}
}

// fixed is a field of any bytes, as many as the piece of the term has that place tells.
func fixed[T any](place func(*T) []byte) field[T] {
	return field[T]{
		put:  func(w *wire.Writer, x *T) { w.Fixed(place(x)) },
		get:  func(r *wire.Reader, x *T) { copy(place(x), r.Fixed(len(place(x)))) },
		fits: func(*T) bool { return true },
	}
}

// marked is a flag, and a signature that stands behind it only where the flag is true.
func marked[T any](flag func(*T) *bool, sig func(*T) *api.Sig) field[T] {
	whole := fixed(func(x *T) []byte { return sig(x)[:] })
	return field[T]{
		put: func(w *wire.Writer, x *T) {
			w.Bool(*flag(x))
			if *flag(x) {
				whole.put(w, x)
			}
		},
		get: func(r *wire.Reader, x *T) {
			*flag(x) = r.Bool()
			if *flag(x) {
				whole.get(r, x)
			}
		},
		// A signature that is not told could not be read back.
		fits: func(x *T) bool { return *flag(x) || *sig(x) == api.Sig{} },
	}
}

// inside is a whole term within another one, by its fields.
func inside[T, P any](place func(*T) *P, fields []field[P]) field[T] {
	return field[T]{
		put:  func(w *wire.Writer, x *T) { putAll(w, fields, place(x)) },
		get:  func(r *wire.Reader, x *T) { getAll(r, fields, place(x)) },
		fits: func(x *T) bool { return allFit(fields, place(x)) },
	}
}

func putAll[T any](w *wire.Writer, fields []field[T], x *T) {
	for _, f := range fields {
		f.put(w, x)
	}
}

func getAll[T any](r *wire.Reader, fields []field[T], x *T) {
	for _, f := range fields {
		f.get(r, x)
	}
}

func allFit[T any](fields []field[T], x *T) bool {
	for _, f := range fields {
		if !f.fits(x) {
			return false
		}
	}
	return true
}
