// Package roots: hash trees, and a ledger: see DOC.md.
package roots

import "roots/api"

// Export tells all as bytes (P17).
func (x *Ledger) Export() []byte { return nil }

// Audit tells whether bytes are what Export tells, and all is so (P18).
func Audit(b []byte) (changes, records api.Head, err error) { return changes, records, nil }

// failed wraps an error with the call that it comes of; OK is no error.
func failed(call string, e api.Errno) error {
	if e == api.OK {
		return nil
	}
	return &api.Failed{Call: call, Err: e}
}
