package lookup

import (
	"slices"

	"signet/api"
	"signet/name"
	"signet/rdata"
	"signet/zone"
)

// maxAliases: behind so many CNAME sets nothing more is asked.
const maxAliases = 8

// search: what is asked of a zone, and what has been found so far.
type search struct {
	zone  *zone.Zone
	apex  api.Name
	want  uint16     // the type
	asked []api.Name // what At was in earlier rounds
	found Found
}

// givenAway: the cut at or below which At is another server's. Of what stands
// at a cut, DS alone is the zone's own, for one who asks for just that.
func (s *search) givenAway() (api.Name, bool) {
	cut, ok := s.zone.Cut(s.found.At)
	own := s.want == api.TypeDS && len(s.asked) == 0 && name.Same(cut, s.found.At)
	return cut, ok && !own
}

// refer tells of the servers of what is below a cut, and where they are, if
// that may be known by this zone alone.
func (s *search) refer(cut api.Name) {
	s.found.Kind = api.LookReferral
	s.found.Auth = s.sets(cut, api.TypeNS, api.TypeDS)
	for _, data := range s.found.Auth[0].Data {
		server, _ := rdata.Target(api.TypeNS, data)
		_, below := s.zone.Cut(server)
		if below {
			s.found.Add = append(s.found.Add, s.sets(server, api.TypeA, api.TypeAAAA)...)
		}
	}
}

// owner: the name whose sets answer for At: its own, or the * below its
// closest encloser; false, if there is none.
func (s *search) owner() (api.Name, bool) {
	at := s.found.At
	if len(s.zone.Types(at)) > 0 {
		return at, true
	}
	if s.zone.Has(at) {
		s.found.Kind = api.LookNone
		return nil, false
	}
	encloser, _ := Closest(s.zone, at)
	wild := append(api.Name{"*"}, name.Lower(encloser)...)
	if len(s.zone.Types(wild)) == 0 {
		s.found.Kind = api.LookNothing
		return nil, false
	}
	s.found.Wild = append(s.found.Wild, wild)
	return wild, true
}

// answer tells owner's sets of the types, under the name that was asked.
func (s *search) answer(owner api.Name, types ...uint16) {
	s.found.Kind = api.LookAnswer
	for _, set := range s.sets(owner, types...) {
		set.Name = name.Lower(s.found.At)
		s.found.Answers = append(s.found.Answers, set)
	}
}

// follow asks for the target of the CNAME set that answered; whether there is
// a round for it.
func (s *search) follow() bool {
	aliases := len(s.found.Answers)
	target, _ := rdata.Target(api.TypeCNAME, s.found.Answers[aliases-1].Data[0])
	s.asked = append(s.asked, s.found.At)
	s.found.At = target
	isTarget := func(n api.Name) bool { return name.Same(n, target) }
	return aliases < maxAliases && name.Within(target, s.apex) && !slices.ContainsFunc(s.asked, isTarget)
}

// deny tells of the zone, where a name or a type isn't there.
func (s *search) deny() {
	if s.found.Kind == api.LookNone || s.found.Kind == api.LookNothing {
		s.found.Auth = s.sets(s.apex, api.TypeSOA)
	}
}

// sets: those of n's that are of the types, in their order.
func (s *search) sets(n api.Name, types ...uint16) []api.Set {
	var out []api.Set
	for _, t := range types {
		set, ok := s.zone.Set(n, t)
		if ok {
			out = append(out, set)
		}
	}
	return out
}
