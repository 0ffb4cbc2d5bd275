package colour

import (
	"dyehouse/api"
	"dyehouse/num"
)

// CheckTransfer is described in doc/03-colour.md.
func CheckTransfer(t api.Transfer) api.Errno {
	switch {
	case t.Kind < api.TransferLinear || t.Kind > api.TransferRational:
		return api.ErrKind
	case !areNumbers(t.A, t.B, t.C):
		return api.ErrForm
	case !isBounded(t):
		return api.ErrRange
	}
	return api.OK
}

// isBounded says whether A, B and C are within the bounds of the kind.
func isBounded(t api.Transfer) bool {
	switch t.Kind {
	case api.TransferGamma:
		return within(t.A, 0.125, 8) && t.B == 0 && t.C == 0
	case api.TransferKnee:
		return within(t.A, 1, 8) && within(t.B, 0, 1) && t.B != 0 && within(t.C, 2, 64)
	case api.TransferLog:
		return within(t.A, 1, 1024) && within(t.B, 1.0/(1<<10), 1) && t.C == 0
	case api.TransferRational:
		return within(t.A, 1.0/(1<<6), 64) && t.B == 0 && t.C == 0
	}
	return t.A == 0 && t.B == 0 && t.C == 0
}

// curve makes light of a code value, or a code value of light.
type curve func(v float32) float32

// of returns p with its colours changed by c.
func (c curve) of(p api.Pixel) api.Pixel {
	for i, v := range p[:colours] {
		p[i] = c(v)
	}
	return p
}

// straight is the curve that changes nothing.
func straight(v float32) float32 { return v }

// bent returns the curve of the powers of magnitudes.
func bent(power float32) curve {
	return func(v float32) float32 {
		if v < 0 {
			return -num.Power(-v, power)
		}
		return num.Power(v, power)
	}
}

// knee is the light up to which the curve of a TransferKnee is straight.
func knee(t api.Transfer) float32 {
	if t.A == 1 {
		return 0
	}
	return t.B / float32(t.C*(t.A-1))
}

// encoder returns the curve of Encode, of a transfer that has no error.
func encoder(t api.Transfer) curve {
	switch t.Kind {
	case api.TransferGamma:
		return bent(1 / t.A)
	case api.TransferKnee:
		end, power := knee(t), 1/t.A
		return func(v float32) float32 {
			if v > end {
				return float32((1+t.B)*num.Power(v, power)) - t.B
			}
			return v * t.C
		}
	case api.TransferLog:
		whole := num.Log2(t.A + t.B)
		return func(v float32) float32 { return num.Log2(float32(v*t.A)+t.B) / whole }
	case api.TransferRational:
		return func(v float32) float32 { return v / (v + t.A) * (1 + t.A) }
	}
	return straight
}

// decoder returns the curve of Decode, of a transfer that has no error.
func decoder(t api.Transfer) curve {
	switch t.Kind {
	case api.TransferGamma:
		return bent(t.A)
	case api.TransferKnee:
		end := float32(knee(t) * t.C)
		return func(v float32) float32 {
			if v > end {
				return num.Power((v+t.B)/(1+t.B), t.A)
			}
			return v / t.C
		}
	case api.TransferLog:
		whole := num.Log2(t.A + t.B)
		return func(v float32) float32 { return (num.Exp2(v*whole) - t.B) / t.A }
	case api.TransferRational:
		return func(v float32) float32 { return float32(v*t.A) / (1 + t.A - v) }
	}
	return straight
}

// Encode is described in doc/03-colour.md.
func Encode(t api.Transfer, v float32) (float32, api.Errno) {
	if e := CheckTransfer(t); e != api.OK {
		return 0, e
	}
	return num.Clean(encoder(t)(v)), api.OK
}

// Decode is described in doc/03-colour.md.
func Decode(t api.Transfer, v float32) (float32, api.Errno) {
	if e := CheckTransfer(t); e != api.OK {
		return 0, e
	}
	return num.Clean(decoder(t)(v)), api.OK
}
