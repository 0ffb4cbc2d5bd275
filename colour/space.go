package colour

import (
	"dyehouse/api"
	"dyehouse/frame"
)

// spaces returns the spaces that have a known name.
func spaces() []api.Space {
	day := api.Spot{X: 0.3127, Y: 0.329}
	screen := api.Primaries{Red: api.Spot{X: 0.64, Y: 0.33}, Green: api.Spot{X: 0.3, Y: 0.6}, Blue: api.Spot{X: 0.15, Y: 0.06}, White: day}
	cinema := api.Primaries{Red: api.Spot{X: 0.68, Y: 0.32}, Green: api.Spot{X: 0.265, Y: 0.69}, Blue: api.Spot{X: 0.15, Y: 0.06}, White: api.Spot{X: 0.314, Y: 0.351}}
	wide := api.Primaries{Red: api.Spot{X: 0.708, Y: 0.292}, Green: api.Spot{X: 0.17, Y: 0.797}, Blue: api.Spot{X: 0.131, Y: 0.046}, White: day}
	scene := api.Primaries{Red: api.Spot{X: 0.713, Y: 0.293}, Green: api.Spot{X: 0.165, Y: 0.83}, Blue: api.Spot{X: 0.128, Y: 0.044}, White: api.Spot{X: 0.32168, Y: 0.33767}}
	return []api.Space{
		{Name: "linear", Primaries: screen, Transfer: api.Transfer{Kind: api.TransferLinear}},
		{Name: "video", Primaries: screen, Transfer: api.Transfer{Kind: api.TransferKnee, A: 2.4, B: 0.055, C: 12.92}},
		{Name: "cinema", Primaries: cinema, Transfer: api.Transfer{Kind: api.TransferGamma, A: 2.6}},
		{Name: "wide", Primaries: wide, Transfer: api.Transfer{Kind: api.TransferGamma, A: 2.4}},
		{Name: "scene", Primaries: scene, Transfer: api.Transfer{Kind: api.TransferLinear}},
		{Name: "film", Primaries: scene, Transfer: api.Transfer{Kind: api.TransferLog, A: 256, B: 0.0625}},
	}
}

// Known is described in doc/03-colour.md.
func Known(name string) (api.Space, api.Errno) {
	for _, s := range spaces() {
		if s.Name == name {
			return s, api.OK
		}
	}
	return api.Space{}, api.ErrName
}

// Names is described in doc/03-colour.md.
func Names() []string {
	var names []string
	for _, s := range spaces() {
		names = append(names, s.Name)
	}
	return names
}

// isName says whether a space may have that name.
func isName(name string) bool {
	if name == "" || len(name) > api.MaxName {
		return false
	}
	for i := range len(name) {
		b := name[i]
		if (b < 'a' || b > 'z') && (b < '0' || b > '9') && b != '-' {
			return false
		}
	}
	return true
}

// CheckSpace is described in doc/03-colour.md.
func CheckSpace(s api.Space) api.Errno {
	if !isName(s.Name) {
		return api.ErrName
	}
	if e := CheckPrimaries(s.Primaries); e != api.OK {
		return e
	}
	if e := CheckTransfer(s.Transfer); e != api.OK {
		return e
	}
	_, e := ToXYZ(s.Primaries)
	return e
}

// Convert is described in doc/03-colour.md.
func Convert(f api.Frame, from, to api.Space) (api.Frame, api.Errno) {
	if e := frame.Check(f); e != api.OK {
		return api.Frame{}, e
	}
	for _, s := range [...]api.Space{from, to} {
		if e := CheckSpace(s); e != api.OK {
			return api.Frame{}, e
		}
	}
	change, e := conversion(from, to)
	if e != api.OK {
		return api.Frame{}, e
	}
	return each(f, change), api.OK
}

// conversion returns what Convert does to a pixel.
func conversion(from, to api.Space) (func(p api.Pixel) api.Pixel, api.Errno) {
	decode, encode := decoder(from.Transfer), encoder(to.Transfer)
	if from.Primaries != to.Primaries {
		m, e := Between(from.Primaries, to.Primaries)
		if e != api.OK {
			return nil, e
		}
		return func(p api.Pixel) api.Pixel { return encode.of(Apply(m, decode.of(p))) }, api.OK
	}
	if from.Transfer != to.Transfer {
		return func(p api.Pixel) api.Pixel { return encode.of(decode.of(p)) }, api.OK
	}
	return func(p api.Pixel) api.Pixel { return p }, api.OK
}
