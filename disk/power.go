package disk

import "seneschal/api"

// power tells whether it is gone, and in how many further changes it goes (0: in none), and what that leaves.
type power struct {
	gone     bool
	in, left int
}

// Arm lets the power go in the n-th further change, k of the unsafe bytes being left; Crash lets it go now.
func (d *Disk) Arm(n, k int) api.Errno {
	e := d.refused(func() api.Errno {
		if n < 0 || k < 0 {
			return api.ErrArg
		}
		return api.OK
	})
	if e != api.OK {
		return e
	}
	d.power = power{in: n, left: k}
	return api.OK
}

func (d *Disk) Crash(k int) api.Errno {
	e := d.refused(func() api.Errno {
		if k < 0 {
			return api.ErrArg
		}
		return api.OK
	})
	if e != api.OK {
		return e
	}
	d.lose(k)
	return api.OK
}

// count: a change is under way, the one in which the power goes, maybe.
func (d *Disk) count() api.Errno {
	if d.power.in == 0 {
		return api.OK
	}
	d.power.in--
	if d.power.in > 0 {
		return api.OK
	}
	d.lose(d.power.left)
	return api.ErrDead
}

// lose: the power goes, and only what k leaves is there.
func (d *Disk) lose(k int) {
	d.keep(k)
	d.power = power{gone: true}
}

// Dead tells whether the power is gone; Revive brings it back.
func (d *Disk) Dead() bool { return d.power.gone }

func (d *Disk) Revive() { d.power = power{} }
