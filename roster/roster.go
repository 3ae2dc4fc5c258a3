// Package roster: which numbers are a replica's, and what a replica signed.
package roster

import (
	"gavel/api"
	"gavel/book"
)

// Has tells whether replica is from 0 to below N, for any configuration, also one that may not be.
func Has(c api.Conf, replica int) bool {
	// Held against 3 F by its third: 3 F may be past the greatest int, and would wrap round.
	third := replica / 3
	return replica >= 0 && (third < c.F || third == c.F && replica%3 == 0)
}

// Signed tells whether there is that replica, and s is its signature of text.
func Signed(c api.Conf, b *book.Book, replica int, s api.Sig, text []byte) bool {
	return Has(c, replica) && s.By == replica && b.Right(s, text)
}
