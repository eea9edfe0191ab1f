package trace

import "thatch/api"

// left is what a command leaves written of its zone.
func left(c api.Cmd) int {
	switch {
	case c.Code != api.OK:
	case c.Kind == api.CmdWrite:
		return c.Written + c.N
	case c.Kind == api.CmdReset:
		return 0
	}
	return c.Written
}

// Follows tells whether each command of a sequential zone found what those ahead
// of it had left; between two parts there is a crash.
func Follows(s api.Shape, parts [][]api.Cmd) bool {
	if !may(s) {
		return false
	}
	written := map[int]int{}
	crashed := map[int]struct{}{} // zones of which the crash may have taken something
	for _, part := range parts {
		for _, c := range part {
			if !isSeq(s, c.Zone) {
				continue
			}
			_, taken := crashed[c.Zone]
			delete(crashed, c.Zone)
			was := written[c.Zone]
			if c.Written != was && !(taken && within(c.Written, 0, was)) {
				return false
			}
			written[c.Zone] = left(c)
		}
		for zone := range written {
			crashed[zone] = struct{}{}
		}
	}
	return true
}
