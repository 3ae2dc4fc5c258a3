// Package order: which of two comes first.
package order

import (
	"cmp"

	"gavel/api"
)

// Names is the order of names: by Client, then by Seq.
func Names(a, b api.Name) int {
	return cmp.Or(cmp.Compare(a.Client, b.Client), cmp.Compare(a.Seq, b.Seq))
}

// Entries is the order of entries: by Time, then by their names.
func Entries(a, b api.Entry) int {
	return cmp.Or(cmp.Compare(a.Time, b.Time), Names(a.Name, b.Name))
}
