package roots

import (
	"roots/api"
	"roots/places"
)

// Holds tells whether a proof shows what a map has for a key (P10).
func Holds(key []byte, present bool, value []byte, p api.Proof, root api.Sum) bool {
	return places.Holds(key, present, value, p, root)
}
