package large

// root: the greatest number whose square is not above x, by Newton's steps down from one that is above it.
func root(x []uint64) []uint64 {
	if len(x) == 0 {
		return nil
	}
	r := shiftUp([]uint64{1}, uint(length(x)+1)/2)
	for {
		q, _ := quotient(x, r)
		next := shiftDown(sum(r, q), 1)
		if compare(next, r) >= 0 {
			return r
		}
		r = next
	}
}
