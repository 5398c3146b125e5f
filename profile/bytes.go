package profile

import (
	"math"

	"drover/api"
	"drover/bytes"
)

// Bytes is p as bytes.
func Bytes(p api.Profile) ([]byte, api.Errno) {
	if !mayBeTold(p) {
		return nil, api.ErrProfile
	}
	var all []byte
	put := func(n int) {
		// bytes.Uint copies what is handed to it, so all is not.
		all = append(all, bytes.Uint(nil, uint64(n))...)
	}
	put(len(p.Fns))
	for _, f := range p.Fns {
		put(f.Calls)
		put(len(f.Tops))
		for _, sets := range f.Tops {
			put(int(sets[0]))
			put(int(sets[1]))
		}
	}
	return all, api.OK
}

// mayBeTold tells whether p is not too much of a profile.
func mayBeTold(p api.Profile) bool {
	if len(p.Fns) > api.MaxModule {
		return false
	}
	for _, f := range p.Fns {
		if len(f.Tops) > api.MaxCode || f.Calls != cut(f.Calls) {
			return false
		}
	}
	return true
}

// Read is the profile whose bytes these are.
func Read(b []byte) (api.Profile, api.Errno) {
	r := reader{b: b}
	var p api.Profile
	for range r.get(api.MaxModule) {
		p.Fns = append(p.Fns, r.seen())
		if r.wrong {
			break
		}
	}
	if r.wrong || r.at != len(b) {
		return api.Profile{}, api.ErrProfile
	}
	return p, api.OK
}

// reader gets numbers out of bytes, one behind the other, until one is wrong.
type reader struct {
	b     []byte
	at    int
	wrong bool
}

// get is the next number, or 0, if it is wrong or above most, or one ahead of it was.
func (r *reader) get(most uint64) int {
	n, next, e := bytes.GetUint(r.b, r.at)
	r.wrong = r.wrong || e != api.OK || n > most
	if r.wrong {
		return 0
	}
	r.at = next
	return int(n)
}

// seen is what was seen of the next function.
func (r *reader) seen() api.Seen {
	f := api.Seen{Calls: r.get(mostCalls)}
	for range r.get(api.MaxCode) {
		if r.wrong {
			break
		}
		top := r.get(math.MaxUint8)
		f.Tops = append(f.Tops, [2]uint8{uint8(top), uint8(r.get(math.MaxUint8))})
	}
	return f
}
