package wreck

import "octant/api"

// claim is a claim in the calculation.
type claim struct{ api.WreckClaim }

func (c claim) valid() bool {
	return isNumber(c.Number) && isDay(c.Day) && isName(c.Maker) && isDay(c.Made) && areMarks(c.Marks)
}

// areMarks reports whether texts are the marks of a claim.
func areMarks(l []string) bool {
	if len(l) > api.WreckMarks {
		return false
	}
	for _, x := range l {
		if !isName(x) {
			return false
		}
	}
	return true
}

// marks returns the names of all who have repaired the instrument up to a day.
func (x instrument) marks(day int) []string {
	var list []string
	for _, r := range x.records {
		if r.Kind == api.WreckMend && r.Day <= day {
			list = append(list, r.By)
		}
	}
	return list
}

// why returns why the claim is not true, by a book.
func (c claim) why(b book) api.WreckWhy {
	bearer, found := b.bearer(c.Number, c.Day)
	if !found {
		return api.WreckWhy{Kind: api.WreckNobody}
	}
	made := bearer.records[0]
	if made.By != c.Maker {
		return api.WreckWhy{Kind: api.WreckMaker}
	}
	if made.Day != c.Made {
		return api.WreckWhy{Kind: api.WreckDay}
	}
	if mark, differs := firstDifferent(c.Marks, bearer.marks(c.Day)); differs {
		return api.WreckWhy{Kind: api.WreckMark, Index: mark}
	}
	return api.WreckWhy{Kind: api.WreckTrue}
}

// firstDifferent returns the first index at which two lists differ, or that only one of them has, and whether there is one.
func firstDifferent(a, b []string) (index int, differs bool) {
	for i := range max(len(a), len(b)) {
		if i >= len(a) || i >= len(b) || a[i] != b[i] {
			return i, true
		}
	}
	return 0, false
}
