package victim

import (
	"thatch/api"
	"thatch/geom"
)

// How many steps there are beside those that copy sectors.
const (
	bandSteps  = 3 // of a band: to take a spare zone, to write the label, to commit
	zoneSteps  = 2 // of a zone: to choose it, to free it
	zonesBound = 2 // zones that are cleaned behind a write that was busy
	slackBound = 4 // beyond these
)

// Steps is how many steps a zone takes of which so many bands have to be
// cleaned, by chunks of so many sectors; 0, if that may not be.
func Steps(g api.Geom, bands, chunk int) int {
	l, e := geom.Layout(g)
	if e != api.OK || bands < 0 || bands > l.Bands || chunk < 1 {
		return 0
	}
	// Nothing is added to the chunk, as it may be the greatest int.
	chunks := (l.BandLen-1)/chunk + 1
	return zoneSteps + bands*(bandSteps+chunks)
}

// Bound is how many steps are enough behind a write that was busy; 0, if that
// may not be.
func Bound(g api.Geom, chunk int) int {
	l, e := geom.Layout(g)
	if e != api.OK || chunk < 1 {
		return 0
	}
	return zonesBound*Steps(g, l.Bands, chunk) + slackBound
}
