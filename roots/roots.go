// Package roots: hash trees, and a ledger: see DOC.md.
package roots

import "roots/api"

// failed wraps an error with the call that it comes of; OK is no error.
func failed(call string, e api.Errno) error {
	if e == api.OK {
		return nil
	}
	return &api.Failed{Call: call, Err: e}
}
