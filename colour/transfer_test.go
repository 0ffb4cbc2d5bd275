package colour_test

import (
	"math"
	"testing"

	"dyehouse/api"
	"dyehouse/colour"
	"dyehouse/num"
)

// wantPower is that of the magnitude, with the sign.
func wantPower(v, p float32) float32 {
	if v < 0 {
		return -num.Power(-v, p)
	}
	return num.Power(v, p)
}

// wantKnee is K.
func wantKnee(t api.Transfer) float32 {
	if t.A == 1 {
		return 0
	}
	return div(t.B, mul(t.C, sub(t.A, 1)))
}

func wantEncode(t api.Transfer, v float32) float32 {
	switch t.Kind {
	case api.TransferGamma:
		return wantPower(v, div(1, t.A))
	case api.TransferKnee:
		if !(v > wantKnee(t)) {
			return mul(v, t.C)
		}
		return sub(mul(add(1, t.B), num.Power(v, div(1, t.A))), t.B)
	case api.TransferLog:
		return div(num.Log2(add(mul(v, t.A), t.B)), num.Log2(add(t.A, t.B)))
	case api.TransferRational:
		return mul(div(v, add(v, t.A)), add(1, t.A))
	}
	return v
}

func wantDecode(t api.Transfer, v float32) float32 {
	switch t.Kind {
	case api.TransferGamma:
		return wantPower(v, t.A)
	case api.TransferKnee:
		if !(v > mul(wantKnee(t), t.C)) {
			return div(v, t.C)
		}
		return num.Power(div(add(v, t.B), add(1, t.B)), t.A)
	case api.TransferLog:
		return div(sub(num.Exp2(mul(v, num.Log2(add(t.A, t.B)))), t.B), t.A)
	case api.TransferRational:
		return div(mul(v, t.A), sub(add(1, t.A), v))
	}
	return v
}

func linear() api.Transfer { return api.Transfer{Kind: api.TransferLinear} }

func gamma(a float32) api.Transfer { return api.Transfer{Kind: api.TransferGamma, A: a} }

func kneed(a, b, c float32) api.Transfer {
	return api.Transfer{Kind: api.TransferKnee, A: a, B: b, C: c}
}

func logged(a, b float32) api.Transfer { return api.Transfer{Kind: api.TransferLog, A: a, B: b} }

func rational(a float32) api.Transfer { return api.Transfer{Kind: api.TransferRational, A: a} }

// transfers are some of each kind, at the bounds and within them.
func transfers() []api.Transfer {
	const least = 0x1p-10
	zero := minusZero()
	l := []api.Transfer{
		linear(), {Kind: api.TransferLinear, A: zero, B: zero, C: zero},
		gamma(0.125), gamma(8), gamma(1), {Kind: api.TransferGamma, A: 2, B: zero, C: zero},
		kneed(1, single(1), 2), kneed(1, 1, 64), kneed(8, 1, 2), kneed(8, single(1), 64), kneed(above(1), 1, 2), kneed(2.4, 0.055, 12.92), kneed(2, 0.5, 2),
		logged(1, least), logged(1, 1), logged(1024, least), logged(1024, 1), logged(256, 0.0625), {Kind: api.TransferLog, A: 2, B: 1, C: zero},
		rational(0x1p-6), rational(64), rational(1), {Kind: api.TransferRational, A: 2, B: zero, C: zero},
	}
	m := mixer{}
	for range 12 {
		l = append(l, gamma(m.between(0.125, 8)), kneed(m.between(1, 8), m.between(0.001, 1), m.between(2, 64)), logged(m.between(1, 1024), m.between(least, 1)), rational(m.between(0x1p-6, 64)))
	}
	return l
}

func TestP49EncodeAndDecode(t *testing.T) {
	m := mixer{}
	for _, c := range transfers() {
		values := oddities()
		for range 100 {
			values = append(values, m.plain(), m.between(0, 1), m.between(0, 0.1))
		}
		end := wantKnee(c)
		for _, v := range []float32{end, mul(end, c.C), c.A, 1 + c.A, -c.A, -c.B / c.A} {
			values = append(values, v, above(v), below(v), -v)
		}
		for _, v := range values {
			got, e := colour.Encode(c, v)
			check(t, got, wantEncode(c, v), "Encode", c, v)
			if e != api.OK {
				t.Errorf("Encode(%v, %v): %d", c, v, e)
			}
			got, e = colour.Decode(c, v)
			check(t, got, wantDecode(c, v), "Decode", c, v)
			if e != api.OK {
				t.Errorf("Decode(%v, %v): %d", c, v, e)
			}
		}
	}
}

// coded is a value, and what Encode or Decode makes of it.
type coded struct {
	transfer api.Transfer
	v, want  float32
}

// checkCoded looks at a list of them.
func checkCoded(t *testing.T, call func(api.Transfer, float32) (float32, api.Errno), l []coded) {
	t.Helper()
	for _, c := range l {
		got, e := call(c.transfer, c.v)
		check(t, got, c.want, c.transfer, c.v)
		if e != api.OK {
			t.Errorf("%v of %v: error %d", c.transfer, c.v, e)
		}
	}
}

func TestP49EncodeEdges(t *testing.T) {
	zero, inf, nan, small := minusZero(), infinity(), oddNaN(), single(1)
	checkCoded(t, colour.Encode, []coded{
		{linear(), -3, -3}, {linear(), zero, zero}, {linear(), inf, inf}, {linear(), nan, nan}, {linear(), small, small},
		{gamma(2), 9, 3}, {gamma(2), -9, -3}, {gamma(0.5), 3, 9}, {gamma(2), 0, 0}, {gamma(2), zero, 0},
		{gamma(2), inf, inf}, {gamma(2), -inf, -inf}, {gamma(2), nan, nan}, {gamma(2), -1, -1}, {gamma(0.125), -small, zero},
		{kneed(2, 0.5, 2), 0.25, 0.5}, {kneed(2, 0.5, 2), 1, 1}, {kneed(2, 0.5, 2), 4, 2.5}, {kneed(2, 0.5, 2), -8, -16}, {kneed(2, 0.5, 2), zero, zero},
		{kneed(2, 0.5, 2), inf, inf}, {kneed(2, 0.5, 2), -inf, -inf}, {kneed(2, 0.5, 2), nan, nan}, {kneed(2, 0.5, 2), -3e38, -inf},
		{kneed(1, 0.5, 2), 0, 0}, {kneed(1, 0.5, 2), 3, 4}, {kneed(1, 0.5, 2), small, -0.5}, {kneed(1, 0.5, 2), -small, -2 * small},
		{logged(1, 1), 1, 1}, {logged(1, 1), 0, 0}, {logged(1, 1), -0.5, -1}, {logged(1, 1), -1, -inf}, {logged(1, 1), -2, nan}, {logged(1, 1), inf, inf},
		{logged(1, 1), -inf, nan}, {logged(1, 1), nan, nan}, {logged(3, 1), 1, 1}, {logged(3, 1), 5, 2},
		{rational(1), 0, 0}, {rational(1), zero, zero}, {rational(1), -1, -inf}, {rational(1), 3, 1.5}, {rational(1), inf, nan}, {rational(1), nan, nan}, {rational(1), -2, 4},
	})
	// A told step: what is just above K is no longer straight.
	if v, _ := colour.Encode(kneed(2, 0.5, 2), above(0.25)); math.Abs(float64(v)-0.25) > 1e-6 {
		t.Errorf("Encode above the knee: %v", v)
	}
}

func TestP49DecodeEdges(t *testing.T) {
	zero, inf, nan, small := minusZero(), infinity(), oddNaN(), single(1)
	checkCoded(t, colour.Decode, []coded{
		{linear(), -3, -3}, {linear(), zero, zero}, {linear(), -inf, -inf}, {linear(), nan, nan}, {linear(), small, small},
		{gamma(2), 3, 9}, {gamma(2), -3, -9}, {gamma(0.5), 9, 3}, {gamma(2), 0, 0}, {gamma(2), zero, 0},
		{gamma(2), inf, inf}, {gamma(2), -inf, -inf}, {gamma(2), nan, nan}, {gamma(8), -1, -1}, {gamma(2), -small, zero},
		{kneed(2, 0.5, 2), 0.5, 0.25}, {kneed(2, 0.5, 2), 1, 1}, {kneed(2, 0.5, 2), 2.5, 4}, {kneed(2, 0.5, 2), -16, -8}, {kneed(2, 0.5, 2), zero, zero},
		{kneed(2, 0.5, 2), inf, inf}, {kneed(2, 0.5, 2), -inf, -inf}, {kneed(2, 0.5, 2), nan, nan}, {kneed(2, 0.5, 2), small, 0},
		{kneed(1, 0.5, 2), 0, 0}, {kneed(1, 0.5, 2), 4, 3}, {kneed(1, 0.5, 2), -4, -2},
		{logged(1, 1), 1, 1}, {logged(1, 1), 2, 3}, {logged(1, 1), 0, 0}, {logged(1, 1), zero, 0}, {logged(1, 1), -1, -0.5}, {logged(1, 1), -inf, -1},
		{logged(1, 1), inf, inf}, {logged(1, 1), nan, nan}, {logged(3, 1), 1, 1}, {logged(3, 1), 2, 5}, {logged(3, 1), 3e38, inf},
		{rational(1), 0, 0}, {rational(1), zero, zero}, {rational(1), 2, inf}, {rational(1), 1.5, 3}, {rational(1), inf, nan}, {rational(1), nan, nan}, {rational(1), 4, -2},
	})
	if v, _ := colour.Decode(kneed(2, 0.5, 2), above(0.5)); math.Abs(float64(v)-4.0/9) > 1e-6 {
		t.Errorf("Decode above the knee: %v", v)
	}
}

// badTransfers are transfers with the errors that they have.
func badTransfers() map[api.Transfer]api.Errno {
	const least = 0x1p-10
	inf, small := infinity(), single(1)
	l := map[api.Transfer]api.Errno{}
	for _, kind := range []int{0, -1, 6, math.MinInt, math.MaxInt, 1<<32 + 1} {
		for _, a := range []float32{0, 1, inf, 3e38} {
			l[api.Transfer{Kind: kind, A: a, B: a, C: a}] = api.ErrKind
		}
	}
	for kind := api.TransferLinear; kind <= api.TransferRational; kind++ {
		for _, v := range []float32{inf, -inf} {
			l[api.Transfer{Kind: kind, A: v, B: 0.5, C: 3e38}] = api.ErrForm
			l[api.Transfer{Kind: kind, A: 3e38, B: v}] = api.ErrForm
			l[api.Transfer{Kind: kind, A: -3e38, B: 0.5, C: v}] = api.ErrForm
		}
	}
	for _, c := range []api.Transfer{
		{Kind: api.TransferLinear, A: small}, {Kind: api.TransferLinear, B: -small}, {Kind: api.TransferLinear, C: 1},
		gamma(below(0.125)), gamma(above(8)), gamma(0), gamma(-1), {Kind: api.TransferGamma, A: 2, B: small}, {Kind: api.TransferGamma, A: 2, C: -small},
		kneed(below(1), 0.5, 4), kneed(above(8), 0.5, 4), kneed(-2, 0.5, 4), kneed(2, 0, 4), kneed(2, minusZero(), 4), kneed(2, -small, 4), kneed(2, above(1), 4),
		kneed(2, 0.5, below(2)), kneed(2, 0.5, above(64)), kneed(2, 0.5, -4),
		logged(below(1), 0.5), logged(above(1024), 0.5), logged(2, below(least)), logged(2, above(1)), logged(2, -0.5), {Kind: api.TransferLog, A: 2, B: 0.5, C: small},
		rational(below(0x1p-6)), rational(above(64)), rational(-1), {Kind: api.TransferRational, A: 2, B: small}, {Kind: api.TransferRational, A: 2, C: -small},
	} {
		l[c] = api.ErrRange
	}
	return l
}

func TestP49CheckTransfer(t *testing.T) {
	for _, c := range transfers() {
		if e := colour.CheckTransfer(c); e != api.OK {
			t.Errorf("CheckTransfer(%v): %d", c, e)
		}
	}
	for c, want := range badTransfers() {
		if e := colour.CheckTransfer(c); e != want {
			t.Errorf("CheckTransfer(%v): %d, want %d", c, e, want)
		}
		got, e := colour.Encode(c, 0.5)
		refused(t, got, e, want, "Encode", c)
		got, e = colour.Decode(c, 0.5)
		refused(t, got, e, want, "Decode", c)
	}
	for _, nan := range []float32{single(nanBits), oddNaN()} { // no keys of a map
		for kind := api.TransferLinear; kind <= api.TransferRational; kind++ {
			for _, c := range []api.Transfer{{Kind: kind, A: nan}, {Kind: kind, A: 1, B: nan}, {Kind: kind, A: 1, B: 0.5, C: nan}} {
				if e := colour.CheckTransfer(c); e != api.ErrForm {
					t.Errorf("CheckTransfer(%v): %d", c, e)
				}
				got, e := colour.Encode(c, 0.5)
				refused(t, got, e, api.ErrForm, "Encode", c)
				got, e = colour.Decode(c, 0.5)
				refused(t, got, e, api.ErrForm, "Decode", c)
			}
		}
		if e := colour.CheckTransfer(api.Transfer{Kind: 6, A: nan}); e != api.ErrKind {
			t.Errorf("CheckTransfer of no kind: %d", e)
		}
	}
}
