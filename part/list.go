package part

import "gavel/code"

// Bounds of what is read. What is written has none: a reader elsewhere refuses it.
const (
	mostInt   = 1 << 40
	mostItems = 100 // of a list
)

// GetInt reads a whole number.
func GetInt(r *code.Reader) int {
	return r.Int(mostInt)
}

// putList writes how many there are, then each.
func putList[T any](w *code.Writer, put func(*code.Writer, T) *code.Writer, l []T) *code.Writer {
	w.Int(len(l))
	for _, x := range l {
		put(w, x)
	}
	return w
}

// getList reads how many there are, then each.
func getList[T any](r *code.Reader, get func(*code.Reader) T) []T {
	var l []T
	for range r.Int(mostItems) {
		l = append(l, get(r))
	}
	return l
}

// copyList makes a list of copies.
func copyList[T any](l []T, copyOne func(T) T) []T {
	var out []T
	for _, x := range l {
		out = append(out, copyOne(x))
	}
	return out
}
