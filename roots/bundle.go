package roots

import (
	"roots/api"
	"roots/ledger"
)

// Export tells all as bytes (P17).
func (x *Ledger) Export() []byte {
	return x.held().Export()
}

// Audit tells whether bytes are what Export tells, and all is so (P18).
func Audit(b []byte) (changes, records api.Head, err error) {
	changes, records, e := ledger.Audit(b)
	return changes, records, failed("Audit", e)
}
