package desk

import (
	"slices"
	"strings"

	"rungwork/api"
	"rungwork/device"
)

// build makes a device of the program; the plant begins again with it.
func (s *session) build(words []string) string {
	wantWords(words, 0)
	image := s.image
	if image == "" {
		image = right(device.Build(s.program))
	}
	d := right(device.New(image, s.types(api.In), s.types(api.Out)))
	s.start(s.program)
	s.image, s.device = image, d
	return "build"
}

// step does a cycle.
func (s *session) step(words []string) string {
	given := numbers(words)
	if s.device != nil {
		s.device.Step(given)
	}
	return say("step", s.plant.Step(given)...)
}

// same does cycles, a number each, as long as plant and device let out the same.
func (s *session) same(words []string) string {
	l := numbers(words)
	s.wantDevice()
	for _, n := range l {
		given := s.from(n)
		if !slices.Equal(s.plant.Step(given), s.device.Step(given)) {
			return "same false"
		}
	}
	return "same true"
}

// from are a number, one more, and so on, for each In. Beyond the greatest they begin again at the least: of its bits an In sees the same.
func (s *session) from(n int) []int {
	l := make([]int, len(s.types(api.In)))
	for i := range l {
		l[i] = n + i
	}
	return l
}

// wantDevice throws, unless there is a device.
func (s *session) wantDevice() { want(s.device != nil, api.ErrMissing) }

// get tells what a name of the plant is now, or a block's field.
func (s *session) get(words []string) string {
	wantWords(words, 1)
	name, field, _ := strings.Cut(words[0], ".")
	n, ok := s.plant.Get(name, field)
	want(ok, api.ErrMissing)
	return say("get", n)
}

// save keeps what the device holds.
func (s *session) save(words []string) string {
	wantWords(words, 0)
	s.wantDevice()
	s.kept, s.keeps = s.device.Save(), true
	return "save"
}

// load lets the device hold what is kept.
func (s *session) load(words []string) string {
	wantWords(words, 0)
	s.wantDevice()
	want(s.keeps, api.ErrMissing)
	err := s.device.Load(s.kept)
	want(err == nil, api.Tell(err))
	return "load"
}
