package orbit

import (
	"polestar/api"
	"polestar/large"
)

// leaves: the first trip behind which the ray is farther than a limit, which is above nought.
func (p path) leaves(limit large.Frac) (int, api.Errno) {
	part := func(r large.Ray) large.Ray { return large.Ray{Y: r.Y.Quo(limit), U: r.U.Quo(limit)} }
	p = path{trip: p.trip, start: part(p.start), next: part(p.next)} // the limit is 1 now
	for bits := 512; ; bits *= 2 {
		if n, e, sure := p.search(bits); sure {
			return n, e
		}
	}
}

// search: the first trip behind which it is farther than 1; false: rays with so many bits behind the point don't tell.
func (p path) search(bits int) (int, api.Errno, bool) {
	length := p.trace().Bits()
	for n, at := range p.rays(bits) {
		far, sure := at.farther(n)
		if !sure && n*length > 8*bits { // the exact ray is so long that it costs less to take more bits
			return 0, api.OK, false
		}
		if far || !sure && p.farther(n) {
			return n, api.OK, true
		}
	}
	return 0, api.ErrDeep, true
}

// farther: is it farther than 1 behind n trips, exactly?
func (p path) farther(n int) bool {
	all, _ := p.trip.Power(n, large.Any)
	return size(all.Through(p.start)).Cmp(large.Whole(1)) > 0
}
