// Package damage changes single bytes; images on disks and frames in transit suffer it alike.
package damage

import "bytes"

// masks is how many ways there are to change a byte.
const masks = 255

// Change returns a copy of b in which one byte, which at names, is another one, which x names.
// It returns no bytes if there are none to change.
func Change(b []byte, at int, x int) []byte {
	if len(b) == 0 {
		return nil
	}
	out := bytes.Clone(b)
	out[uint64(at)%uint64(len(b))] ^= byte(1 + uint64(x)%masks)
	return out
}
