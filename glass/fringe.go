package glass

import "octant/api"

// fringe is a reading of a surface in the calculation.
type fringe struct{ api.GlassFringe }

func (f fringe) valid() bool {
	return isSpan(f.Plate, -api.GlassCurve, api.GlassCurve) &&
		isSpan(f.Rings, 0, api.GlassRings) &&
		span{-1, 1}.has(f.Press)
}

// areFringes reports whether readings are those of a surface.
func areFringes(l []api.GlassFringe) bool {
	if !(span{1, api.GlassReadings}).has(len(l)) {
		return false
	}
	for _, one := range l {
		if !(fringe{one}).valid() {
			return false
		}
	}
	return true
}

// agrees reports whether a curvature agrees with the reading.
func (f fringe) agrees(curve int) bool {
	above := span{f.Plate.Low + f.Rings.Low, f.Plate.High + f.Rings.High}
	below := span{f.Plate.Low - f.Rings.High, f.Plate.High - f.Rings.Low}
	return f.Press >= 0 && above.has(curve) || f.Press <= 0 && below.has(curve)
}

// farthest is the greatest curvature, whatever its sign, that can agree with a reading.
const farthest = api.GlassCurve + api.GlassRings

// curvatures returns all curvatures that agree with all readings, as the fewest spans.
func curvatures(l []api.GlassFringe) []api.Span {
	var list []api.Span
curves:
	for curve := -farthest; curve <= farthest; curve++ {
		for _, one := range l {
			if !(fringe{one}).agrees(curve) {
				continue curves
			}
		}
		if last := len(list) - 1; last >= 0 && list[last].High == curve-1 {
			list[last].High = curve
			continue
		}
		list = append(list, api.Span{Low: curve, High: curve})
	}
	return list
}
