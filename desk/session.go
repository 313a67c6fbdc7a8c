package desk

import (
	"rungwork/api"
	"rungwork/device"
	"rungwork/scan"
)

// session is what there is between two lines.
type session struct {
	program api.Program
	plant   *scan.Plant
	image   string         // of the program, so that it is made once, however many lines build; empty: not yet
	device  *device.Device // nil: there is none
	kept    string         // what a device held, if keeps: of one without registers it is empty
	keeps   bool
}

// act is what a line does, of the words behind its first; what it is answered with.
type act func(words []string) string

// acts are what lines do, by their first words.
func (s *session) acts() map[string]act {
	return map[string]act{
		"new":   s.fresh,
		"rungs": s.rungs,
		"draw":  s.draw,
		"check": s.check,
		"print": s.show,
		"build": s.build,
		"step":  s.step,
		"same":  s.same,
		"get":   s.get,
		"save":  s.save,
		"load":  s.load,
		"help":  s.help,
	}
}

// start takes a program: a plant of it at first, no device, nothing kept. Nothing is changed, if something is wrong with it.
func (s *session) start(p api.Program) {
	*s = session{program: p, plant: right(scan.New(p))}
}

// types are those of the declarations of a way, in order.
func (s *session) types(way int) []int {
	var l []int
	for _, d := range s.program.Decls {
		if d.Way == way {
			l = append(l, d.Type)
		}
	}
	return l
}
