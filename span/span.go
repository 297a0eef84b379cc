// Package span says which numbers lie in a range; several layers ask that.
package span

// In reports whether n is from least to most.
func In(n int, least int, most int) bool {
	return n >= least && n <= most
}
