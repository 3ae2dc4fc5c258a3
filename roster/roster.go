// Package roster: which numbers are a replica's.
package roster

import "gavel/api"

// Has tells whether replica is from 0 to below N, for any configuration, also one that may not be.
func Has(c api.Conf, replica int) bool {
	// Held against 3 F by its third: 3 F may be past the greatest int, and would wrap round.
	third := replica / 3
	return replica >= 0 && (third < c.F || third == c.F && replica%3 == 0)
}
