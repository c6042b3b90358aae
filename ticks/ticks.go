// Package ticks compares ticks without a sum or a difference that might not fit.
package ticks

// Past tells whether now is span or more ticks behind since.
func Past(now, since, span int) bool {
	if now < since {
		return false
	}
	return span <= 0 || uint64(now)-uint64(since) >= uint64(span)
}
