package wreck_test

import (
	"math"
	"reflect"
	"slices"
	"strings"
	"testing"

	"octant/api"
	"octant/wreck"
)

// pageOf returns the page of a text in which a semicolon stands between each two rows.
func pageOf(s string) [][]string {
	var p [][]string
	for _, row := range strings.Split(s, "; ") {
		p = append(p, strings.Split(row, " "))
	}
	return p
}

// shown returns the text of which pageOf makes a page.
func shown(p [][]string) string {
	var rows []string
	for _, row := range p {
		rows = append(rows, strings.Join(row, " "))
	}
	return strings.Join(rows, "; ")
}

func place(row, col, at int) api.WreckPlace { return api.WreckPlace{Row: row, Col: col, At: at} }

func made(day, number int, by string) api.WreckRecord {
	return api.WreckRecord{Kind: api.WreckMade, Day: day, Number: number, By: by}
}

func mend(day, number int, by string) api.WreckRecord {
	return api.WreckRecord{Kind: api.WreckMend, Day: day, Number: number, By: by}
}

func again(day, number, next int) api.WreckRecord {
	return api.WreckRecord{Kind: api.WreckAgain, Day: day, Number: number, New: next}
}

func lost(day, number int) api.WreckRecord {
	return api.WreckRecord{Kind: api.WreckLost, Day: day, Number: number}
}

func book(l ...api.WreckRecord) []api.WreckRecord { return l }

// shopPage, shopSecond, shopBook and shopClaim are those of the document's examples.
const (
	shopPage   = "12 ?5 47; 8 20 2?; 2? 55 75"
	shopSecond = "1? 4 1?; 2 3 5; 1? 7 2?"
)

func shopBook() []api.WreckRecord {
	return book(made(10, 101, "bird"), made(20, 102, "sisson"), mend(300, 101, "ramsden"), again(400, 101, 205), mend(500, 205, "dollond"), lost(600, 102))
}

func shopClaim() api.WreckClaim {
	return api.WreckClaim{Number: 205, Day: 550, Maker: "bird", Made: 10, Marks: []string{"ramsden", "dollond"}}
}

func validPages() [][][]string {
	list := [][][]string{{{"1", "2"}, {"3", "4"}}, {{"?", "0"}, {"?0", "???"}}}
	for _, s := range []string{
		shopPage, shopSecond,
		"1 2; 3 4",
		"? ?; ? ?",
		"0 0 0; 0 0 0",
		"0 0; 0 0; 0 0",
		"0 0 0 0 0; 0 0 0 0 0",
		"0 0; 0 0; 0 0; 0 0; 0 0",
		"1 2 3 4 5; 6 7 8 9 0; 1 2 3 4 5; 6 7 8 9 0; 11 22 33 44 55",
		"99999 10000; 90000 ?????",
		"?0 ?9; ?? ?",
		"1???? 2; 3 ?",
	} {
		list = append(list, pageOf(s))
	}
	return list
}

func invalidPages() [][][]string {
	list := [][][]string{nil, {}, {nil, nil}, {{}, {}}, {nil, {"1", "2"}}, {{"1", "2"}, nil}, slices.Repeat([][]string{nil}, 3)}
	for _, s := range []string{
		"1 2",
		"1; 2",
		"1 2; 3",
		"1; 2 3",
		"1 2; 3 4 5",
		"1 2 3; 4 5",
		"1 2 3; 4 5 6; 7 8",
		"1 2 3; 4 5 6; 7 8 9 0",
		"1 2 3 4 5 6; 1 2 3 4 5 6",
		"1 2; 1 2; 1 2; 1 2; 1 2; 1 2",
		"? ? ?; ? ? ?",
		"1 2; ????? ?",
		"1???? 2; ? ?",
	} {
		list = append(list, pageOf(s))
	}
	for _, entry := range []string{
		"", "00", "01", "0?", "00000", "0????", "000001", "123456", "1?????", "1234567",
		"-1", "+1", " 1", "1 ", "1 1", "1.0", "a", "1a", "a1", "0x1", "1_0", "\n", "1\n", "\x00", "1\x00", "/", ":", "1/", "1:", "!", "*", "\xff",
		"¿", "١", "１", "½", strings.Repeat("1", 100000), strings.Repeat("?", 100000),
	} {
		for _, at := range []api.WreckPlace{place(0, 0, 0), place(1, 2, 0), place(2, 1, 0)} {
			p := pageOf("12 3 47; 8 20 2?; 2? 55 75")
			p[at.Row][at.Col] = entry
			list = append(list, p)
		}
	}
	return list
}

// P9.1
func TestCheckPage(t *testing.T) {
	for _, p := range validPages() {
		if e := wreck.CheckPage(p); e != api.OK {
			t.Errorf("CheckPage(%q): %d", p, e)
		}
	}
	for _, p := range invalidPages() {
		if e := wreck.CheckPage(p); e != api.ErrWreckPage {
			t.Errorf("CheckPage(%q): %d", p, e)
		}
	}
}

// P9.1: each byte by itself, as the only one of an entry, as its first one, and behind others.
func TestBytesOfEntries(t *testing.T) {
	for b := range 256 {
		digit := b >= '0' && b <= '9' || b == '?'
		for entry, valid := range map[string]bool{
			string([]byte{byte(b)}):           digit,
			string([]byte{byte(b), '5'}):      digit && b != '0',
			string([]byte{'5', byte(b)}):      digit,
			string([]byte{'5', byte(b), '5'}): digit,
		} {
			want := api.OK
			if !valid {
				want = api.ErrWreckPage
			}
			if e := wreck.CheckPage([][]string{{"1", entry}, {"2", "3"}}); e != want {
				t.Errorf("CheckPage with %q: %d", entry, e)
			}
		}
	}
}

// P9.1, P9.2, P9.3, P9.4: the error of the page comes first, and no result comes with it.
func TestPageComesFirst(t *testing.T) {
	for _, c := range pageCalls() {
		for _, p := range invalidPages() {
			in := shopInput()
			in.page = p
			if r := c.do(in); !reflect.DeepEqual(r, result{e: api.ErrWreckPage}) {
				t.Errorf("%s with %q: %v", c.name, p, r)
			}
		}
	}
}

// P9.2
func TestRestore(t *testing.T) {
	for _, x := range []struct {
		page, want string
		readings   int
	}{
		{shopPage, "12 35 47; 8 20 28; 20 55 75", 1},
		{shopSecond, shopSecond, 5},
		// nothing is lost
		{"1 2 3; 4 5 9; 5 7 12", "1 2 3; 4 5 9; 5 7 12", 1},
		{"0 0; 0 0", "0 0; 0 0", 1},
		{"7 7; 7 7", "7 7; 7 7", 1},
		// two rows, or two columns: the last one is as the first one
		{"1 2 3; ? 2 3", "1 2 3; 1 2 3", 1},
		{"1 1; 2 2; ? 3", "1 1; 2 2; 3 3", 1},
		{"? ?; ? ?", "? ?; ? ?", 10},
		{"? ?; ? 4", "4 4; 4 4", 1},
		{"?1 ?1; ?1 ?1", "?1 ?1; ?1 ?1", 9},
		{"5?1 5?1; 5?1 5?1", "5?1 5?1; 5?1 5?1", 10},
		{"?? 47; ?? 47", "47 47; 47 47", 1},
		// a digit alone may be a 0, the first one of several may not
		{"? 5 5; 2 ? 2; 2 5 7", "0 5 5; 2 0 2; 2 5 7", 1},
		{"10 5 15; ? 5 5; 10 10 20", "10 5 15; 0 5 5; 10 10 20", 1},
		{"20 ? 20; 2 ? ?; 22 1 23", "20 0 20; 2 1 3; 22 1 23", 1},
		{"1 ?? 11; 2 3 5; 3 13 16", "1 10 11; 2 3 5; 3 13 16", 1},
		// all of an entry, and of the corner
		{"11111 22222 33333; 11111 22222 33333; 22222 44444 ?????", "11111 22222 33333; 11111 22222 33333; 22222 44444 66666", 1},
		{"????? 22222 33333; 11111 22222 33333; 22222 44444 66666", "11111 22222 33333; 11111 22222 33333; 22222 44444 66666", 1},
		{"50000 49999 99999; 0 0 0; ????? 49999 99999", "50000 49999 99999; 0 0 0; 50000 49999 99999", 1},
		{"10000 10000; ????? 10000", "10000 10000; 10000 10000", 1},
		// a digit more makes all sure, or a part
		{"1? 4 1?; 2 3 5; 1? 7 ?2", "13 4 17; 2 3 5; 15 7 22", 1},
		{"1? 4 1?; 2 3 5; 1? 7 ?0", "11 4 15; 2 3 5; 13 7 20", 1},
		{"1? 4 1?; ? 3 5; 1? 7 21", "12 4 16; 2 3 5; 14 7 21", 1},
		{"1? ? 1?; 2 3 5; 1? 7 2?", "1? 4 1?; 2 3 5; 1? 7 2?", 5},
		{"1?? 1? 121; 1? 1? 31; 125 27 152", "1?? 1? 121; 1? 1? 31; 125 27 152", 6},
		{"? 1 ?; 3 4 7; ? 5 1?", "? 1 ?; 3 4 7; ? 5 1?", 5},
		{"? ? 6; ? ? 9; 8 7 15", "? ? 6; ? ? 9; 8 7 15", 7},
		{"? ? 9; ? ? 9; ? 9 18", "? ? 9; ? ? 9; 9 9 18", 10},
		// the five bytes of five rows
		{"? 1 1 1 3; ? 1 1 1 3; ? 1 1 1 3; ? 1 1 1 3; ? 4 4 4 12", "0 1 1 1 3; 0 1 1 1 3; 0 1 1 1 3; 0 1 1 1 3; 0 4 4 4 12", 1},
	} {
		if p, n, e := wreck.Restore(pageOf(x.page)); shown(p) != x.want || n != x.readings || e != api.OK {
			t.Errorf("Restore(%s): %s, %d, %d, not %s, %d", x.page, shown(p), n, e, x.want, x.readings)
		}
	}
}

// falsePages returns pages that no reading agrees with.
func falsePages() [][][]string {
	var list [][][]string
	for _, s := range []string{
		"12 ?5 48; 8 20 2?; 2? 55 75",
		"12 ?6 47; 8 20 2?; 2? 55 75",
		// nothing is lost
		"1 2 3; 4 5 9; 5 7 13",
		"1 2; 3 4",
		"0 1; 0 1",
		// the rows are right, a column is not
		"1 2 3; 4 5 9; 5 8 13",
		"1 2 3; 4 5 9; 6 7 13",
		"1 1; 2 2; 4 4",
		"1 ? 3; 4 5 9; 5 6 11",
		// the columns are right, a row is not
		"1 2 4; 4 5 9; 5 7 13",
		"1 2 3; 4 5 8; 5 7 11",
		"1 2; 1 2",
		"1 2 2; ? 5 9; 5 7 11",
		// a row before all that is lost
		"1 2 4; 4 5 9; ? ? 1?",
		// only with a 0 as the first digit of several
		"10 5 15; ?0 5 5; 10 10 20",
		"1 ?? 3; 2 3 5; 3 5 8",
		"?? ??; 5 5",
		// more than a digit could do
		"9 ? 19; 1 1 2; 10 11 21",
		"9 9 1?; 9 9 1?; 18 18 ?",
		"? ? 5; ? ? 5; 5 4 10",
	} {
		list = append(list, pageOf(s))
	}
	return list
}

// P9.2, P9.3
func TestNoReading(t *testing.T) {
	for _, p := range falsePages() {
		if restored, n, e := wreck.Restore(p); restored != nil || n != 0 || e != api.ErrWreckFalse {
			t.Errorf("Restore(%s): %s, %d, %d", shown(p), shown(restored), n, e)
		}
		if at, left, e := wreck.Ask(p); at != (api.WreckPlace{}) || left != 0 || e != api.ErrWreckFalse {
			t.Errorf("Ask(%s): %v, %d, %d", shown(p), at, left, e)
		}
	}
}

// P9.3
func TestAsk(t *testing.T) {
	for _, x := range []struct {
		page string
		at   api.WreckPlace
		left int
		e    api.Errno
	}{
		{shopSecond, place(0, 0, 1), 1, api.OK},
		{shopPage, api.WreckPlace{}, 0, api.ErrNone},
		{"1 2 3; 4 5 9; 5 7 12", api.WreckPlace{}, 0, api.ErrNone},
		{"? ?; ? 4", api.WreckPlace{}, 0, api.ErrNone},
		{"? ?; ? ?", place(0, 0, 0), 1, api.OK},
		{"?1 ?1; ?1 ?1", place(0, 0, 0), 1, api.OK},
		{"5?1 5?1; 5?1 5?1", place(0, 0, 1), 1, api.OK},
		{"? ? 6; ? ? 9; 8 7 15", place(0, 0, 0), 1, api.OK},
		// what is sure leaves all
		{"? ? 9; ? ? 9; ? 9 18", place(0, 0, 0), 1, api.OK},
		{"1 ? 3 6; ? 1 ? 9; ? 2 ? 8; 9 5 9 23", place(1, 0, 0), 1, api.OK},
		{"1 ? 3 6; 8 1 0 9; ? 2 6 8; 9 5 9 23", api.WreckPlace{}, 0, api.ErrNone},
		// the first one of these leaves four of six
		{"1?? 1? 121; 1? 1? 31; 125 27 152", place(0, 0, 2), 1, api.OK},
		{"9 1 10; 1? 1?? 121; 1? 1? 31; 39 123 162", place(1, 0, 1), 1, api.OK},
	} {
		if at, left, e := wreck.Ask(pageOf(x.page)); at != x.at || left != x.left || e != x.e {
			t.Errorf("Ask(%s): %v, %d, %d, not %v, %d, %d", x.page, at, left, e, x.at, x.left, x.e)
		}
	}
}

// checkByReadings checks what is restored, and asked for, against all readings, and returns how many agree, and the number of what is asked for among the lost bytes.
func checkByReadings(t *testing.T, p [][]string) (readings, asked int) {
	t.Helper()
	list := slowReadings(p)
	restored, n, e := wreck.Restore(p)
	at, left, f := wreck.Ask(p)
	if len(list) == 0 {
		if restored != nil || n != 0 || e != api.ErrWreckFalse || at != (api.WreckPlace{}) || left != 0 || f != api.ErrWreckFalse {
			t.Fatalf("%s: %s, %d, %d; %v, %d, %d", shown(p), shown(restored), n, e, at, left, f)
		}
		return 0, 0
	}
	if shown(restored) != shown(slowRestore(p, list)) || n != len(list) || e != api.OK {
		t.Fatalf("Restore(%s): %s, %d, %d, but %d agree", shown(p), shown(restored), n, e, len(list))
	}
	if len(list) == 1 {
		if at != (api.WreckPlace{}) || left != 0 || f != api.ErrNone {
			t.Fatalf("Ask(%s): %v, %d, %d", shown(p), at, left, f)
		}
		return 1, 0
	}
	if best, fewest := slowAsk(p, list); at != best || left != fewest || f != api.OK {
		t.Fatalf("Ask(%s): %v, %d, %d, not %v, %d", shown(p), at, left, f, best, fewest)
	}
	return len(list), slices.Index(placesOf(p, true), at)
}

// P9.2, P9.3: by all readings.
func TestReadings(t *testing.T) {
	var d dice
	counts := map[int]int{}
	later, most := 0, 0
	for i := range 900 {
		p, _ := d.wet(4 + i%2)
		if left := placesOf(p, false); len(left) > 0 && d.from(0, 4) == 0 {
			p = withByte(p, pick(&d, left...), byte(d.from('1', '9')))
		}
		n, asked := checkByReadings(t, p)
		counts[min(n, 2)]++
		if asked > 0 {
			later++
		}
		most = max(most, n)
	}
	for n, least := range []int{50, 200, 100} {
		if counts[n] < least {
			t.Errorf("only %d have %d readings", counts[n], n)
		}
	}
	if later < 10 || most < 10 {
		t.Errorf("only %d ask for a later byte, at most %d readings agree", later, most)
	}
}

// P9.2, P9.3: pages of which five bytes are lost where they help each other little.
func TestFiveBytes(t *testing.T) {
	for _, s := range []string{
		"? ? 9; ? ? 9; ? 9 18",
		"1? ? 1?; 2 3 5; 1? 7 21",
		"?? 1 ??; 2 3 5; 2? 4 30",
		"?? ??; 5 ?",
		"??? 47; ?? 47",
		"?1 ?2 23; 1? 1? 31; 31 23 54",
		"? ? ? 9; ? 1 ? 9; 9 2 9 20",
		"? ? 1 9; ? 1 ? 9; 9 ? 9 20",
		"? ? ?; 1 1 2; ? ? 9",
		"????? 99999; 99999 99999",
		"1? ?? 4?; 5 5 10; 20 35 55",
	} {
		checkByReadings(t, pageOf(s))
	}
}

// texts returns pages with their texts.
func texts() map[string]string {
	return map[string]string{
		shopPage:                  "12 ?5 47\n8 20 2?\n2? 55 75\n",
		shopSecond:                "1? 4 1?\n2 3 5\n1? 7 2?\n",
		"1 2; 3 4":                "1 2\n3 4\n",
		"? ?????":                 "",
		"? 0; 99999 ????":         "? 0\n99999 ????\n",
		"1 2 3 4 5; 6 7 8 9 0":    "1 2 3 4 5\n6 7 8 9 0\n",
		"1 2; 3 4; 5 6; 7 8; 9 0": "1 2\n3 4\n5 6\n7 8\n9 0\n",
	}
}

// P9.4
func TestPrintAndParse(t *testing.T) {
	for page, text := range texts() {
		want := api.OK
		if text == "" {
			want = api.ErrWreckPage
		}
		if s, e := wreck.Print(pageOf(page)); s != text || e != want {
			t.Errorf("Print(%s): %q, %d", page, s, e)
		}
		if text == "" {
			continue
		}
		if p, e := wreck.Parse(text); shown(p) != page || e != api.OK {
			t.Errorf("Parse(%q): %q, %d", text, p, e)
		}
	}
}

// P9.4
func TestNoPage(t *testing.T) {
	list := []string{
		"", "\n", "\n\n", " ", " \n \n", "1", "1 2", "1 2\n", "1 2\n3 4", "1 2\n3 4\n\n", "\n1 2\n3 4\n", "1 2\n\n3 4\n", "1 2\n3 4\n5 6", "1 2\n3 4\n ",
		"1  2\n3 4\n", " 1 2\n3 4\n", "1 2 \n3 4\n", "1 2\n 3 4\n", "1 2\n3 4 \n", "1\t2\n3 4\n", "1 2\r\n3 4\r\n", "1 2\r3 4\r", "1\n2\n3\n4\n", "1\n2\n", "1 2\n3\n", "1\n2 3\n",
		"1 2\n3 4 5\n", "1 2 3\n4 5\n", "1 2 3 4 5 6\n1 2 3 4 5 6\n", strings.Repeat("1 2\n", 6), "01 2\n3 4\n", "0? 2\n3 4\n", "1 2\n3 00\n", "1 123456\n3 4\n", "1 2\n3 a\n", "1 2\n3 -4\n", "1 2\n+3 4\n",
		"? ? ?\n? ? ?\n", "????? ?\n1 2\n", "1 2; 3 4\n", "1,2\n3,4\n", "1 2\x003 4\n", "\ufeff1 2\n3 4\n", "1\u00a02\n3 4\n", "1 2\u20283 4\n", "1 2\v3 4\n", "1 2\f3 4\n", "1 2\n3 4\n\x00", "x", "\xff\xfe",
		strings.Repeat("1 2\n", 16384), strings.Repeat("1", 65536), strings.Repeat("\n", 65536), strings.Repeat(" ", 65536), strings.Repeat("?", 65536), "1 2\n3 4\n" + strings.Repeat("\n", 65536-8),
	}
	for _, s := range list {
		if p, e := wreck.Parse(s); p != nil || e != api.ErrForm {
			t.Errorf("Parse(%.40q): %q, %d", s, p, e)
		}
	}
	for _, s := range []string{strings.Repeat("1 2\n", 16385), strings.Repeat("1", 65537), "1 2\n3 4\n" + strings.Repeat("\n", 65537-8), strings.Repeat("1 2\n", 1000000)} {
		if p, e := wreck.Parse(s); p != nil || e != api.ErrLong {
			t.Errorf("Parse of %d bytes: %q, %d", len(s), p, e)
		}
	}
}

// longBook returns one of so many records.
func longBook(count int) []api.WreckRecord {
	l := book(made(0, 7, "bird"))
	for len(l) < count {
		l = append(l, mend(len(l), 7, "sisson"))
	}
	return l
}

func validBooks() [][]api.WreckRecord {
	list := [][]api.WreckRecord{
		nil,
		{},
		shopBook(),
		longBook(40),
		book(made(0, 1, "a")),
		book(made(100000, 99999, "a")),
		book(made(5, 1, "a"), made(5, 2, "a"), made(5, 3, "a")),
		// all on one day
		book(made(5, 1, "a"), mend(5, 1, "b"), again(5, 1, 2), mend(5, 2, "b"), again(5, 2, 3), lost(5, 3)),
		book(made(0, 1, "a"), again(0, 1, 99999), again(0, 99999, 2)),
		book(made(0, 1, "a"), mend(1, 1, "a"), mend(2, 1, "a"), lost(3, 1)),
		book(made(0, 1, "a"), made(0, 2, "a"), lost(0, 1), again(0, 2, 3), lost(0, 3)),
	}
	for _, name := range []string{"a", "z", "a-", "z9", "abcdefghijklmnop", "a---------------", "x0123456789"} {
		list = append(list, book(made(0, 1, name), mend(0, 1, name)))
	}
	return list
}

// wrongNames returns texts that are no names.
func wrongNames() []string {
	return []string{"", "A", "Bird", "bIrd", "0", "9a", "-", "-a", "a b", " a", "a ", "a_b", "a.b", "a\n", "a,b", "é", "aé", "a\x00", "a`", "a{", "`a", "{a", "a/", "a:", "abcdefghijklmnopq", strings.Repeat("a", 100000)}
}

// withRecord returns the book of the examples with a change of a record.
func withRecord(i int, change func(r *api.WreckRecord)) []api.WreckRecord {
	l := shopBook()
	change(&l[i])
	return l
}

func invalidBooks() [][]api.WreckRecord {
	list := [][]api.WreckRecord{
		longBook(41),
		longBook(100),
		book(api.WreckRecord{}),
		// days that go back
		book(made(5, 1, "a"), made(4, 2, "a")),
		book(made(0, 1, "a"), made(9, 2, "a"), made(8, 3, "a"), made(9, 4, "a")),
		// a number that was there: in use, lost, given up, got
		book(made(0, 1, "a"), made(1, 1, "b")),
		book(made(0, 1, "a"), lost(1, 1), made(2, 1, "a")),
		book(made(0, 1, "a"), again(1, 1, 2), made(2, 1, "a")),
		book(made(0, 1, "a"), again(1, 1, 2), made(2, 2, "a")),
		book(made(0, 1, "a"), again(1, 1, 2), again(2, 2, 3), made(2, 2, "a")),
		book(made(0, 1, "a"), made(0, 2, "a"), again(1, 1, 2)),
		book(made(0, 1, "a"), made(0, 2, "a"), lost(1, 2), again(1, 1, 2)),
		book(made(0, 1, "a"), made(0, 2, "a"), again(1, 2, 3), again(1, 1, 2)),
		book(made(0, 1, "a"), made(0, 2, "a"), again(1, 2, 3), again(1, 1, 3)),
		book(made(0, 1, "a"), again(1, 1, 1)),
		book(made(0, 1, "a"), again(1, 1, 2), again(1, 2, 1)),
		book(made(0, 1, "a"), again(1, 1, 2), again(1, 2, 2)),
	}
	// a number that is not in use: never made, not made yet, lost, given up
	for _, r := range []api.WreckRecord{mend(3, 1, "a"), again(3, 1, 9), lost(3, 1)} {
		list = append(list, book(r), book(made(0, 2, "a"), r), book(r, made(3, 1, "a")),
			book(made(0, 1, "a"), lost(1, 1), r), book(made(0, 1, "a"), again(1, 1, 2), r),
			book(made(0, 1, "a"), again(1, 1, 2), again(2, 2, 3), r),
			book(made(0, 1, "a"), mend(0, 1, "a"), lost(1, 1), made(2, 2, "a"), r))
	}
	for _, x := range numbersOff(1, 99999) {
		for i := range shopBook() {
			list = append(list, withRecord(i, func(r *api.WreckRecord) { r.Number = x }))
		}
		list = append(list, withRecord(3, func(r *api.WreckRecord) { r.New = x }), book(made(0, x, "a")), book(made(0, x, "a"), mend(0, x, "a")), book(made(0, 1, "a"), again(0, 1, x)))
	}
	for _, x := range numbersOff(0, 100000) {
		for i := range shopBook() {
			list = append(list, withRecord(i, func(r *api.WreckRecord) { r.Day = x }))
		}
	}
	for i := range shopBook() {
		for _, kind := range []int{0, -1, 5, 6, math.MinInt, math.MaxInt} {
			list = append(list, withRecord(i, func(r *api.WreckRecord) { r.Kind = kind }))
		}
	}
	return append(list, booksWithMore()...)
}

// booksWithMore returns those with a record that has a field of another kind, or lacks one of its own.
func booksWithMore() [][]api.WreckRecord {
	var list [][]api.WreckRecord
	for _, i := range []int{0, 1, 2, 4} {
		for _, name := range wrongNames() {
			list = append(list, withRecord(i, func(r *api.WreckRecord) { r.By = name }))
		}
	}
	for _, i := range []int{3, 5} {
		for _, name := range append(wrongNames()[1:], "bird") {
			list = append(list, withRecord(i, func(r *api.WreckRecord) { r.By = name }))
		}
	}
	for _, i := range []int{0, 1, 2, 4, 5} {
		for _, x := range []int{-1, 1, 101, 900, 99999, math.MinInt, math.MaxInt} {
			list = append(list, withRecord(i, func(r *api.WreckRecord) { r.New = x }))
		}
	}
	return list
}

// numbersOff returns numbers that are not from low to high.
func numbersOff(low, high int) []int {
	return []int{low - 1, high + 1, math.MinInt, math.MaxInt}
}

// P9.1
func TestCheckBook(t *testing.T) {
	for _, l := range validBooks() {
		if e := wreck.CheckBook(l); e != api.OK {
			t.Errorf("CheckBook(%v): %d", l, e)
		}
	}
	for _, l := range invalidBooks() {
		if e := wreck.CheckBook(l); e != api.ErrWreckBook {
			t.Errorf("CheckBook(%v): %d", l, e)
		}
	}
}

// P9.1: books, and others, by what the document says of each record.
func TestBooks(t *testing.T) {
	var d dice
	valid := 0
	for range 20000 {
		numbers := d.from(1, 6)
		l := d.book(d.from(0, 8), numbers)
		for range d.from(0, 2) {
			r := d.record(l, numbers, 1)
			if d.from(0, 3) == 0 {
				r.New = d.from(0, 1)
			}
			if d.from(0, 3) == 0 {
				r.By = pick(&d, "", "bird", "0")
			}
			l = slices.Insert(l, d.from(0, len(l)), r)
		}
		want := api.ErrWreckBook
		if slowBook(l) {
			want = api.OK
			valid++
		}
		if e := wreck.CheckBook(l); e != want {
			t.Fatalf("CheckBook(%v): %d, not %d", l, e, want)
		}
	}
	if valid < 7000 || valid > 13000 {
		t.Errorf("%d books", valid)
	}
}

// P9.1, P9.5: the error of the book comes first, then that of what is asked, then that there is none; no result comes with an error.
func TestBookComesFirst(t *testing.T) {
	for _, c := range bookCalls() {
		for _, l := range invalidBooks() {
			in, wrong := shopInput(), shopInput()
			wrong.number, wrong.day, wrong.claim = 0, -1, api.WreckClaim{}
			in.records, wrong.records = l, l
			for _, x := range []input{in, wrong} {
				if r := c.do(x); !reflect.DeepEqual(r, result{e: api.ErrWreckBook}) {
					t.Errorf("%s with %v: %v", c.name, l, r)
				}
			}
		}
	}
}

// P9.5
func TestTrace(t *testing.T) {
	day := book(made(5, 1, "a"), again(5, 1, 2), made(5, 3, "b"), again(5, 2, 4), lost(5, 3), made(5, 99999, "c"))
	moved := book(made(0, 9, "a"), made(1, 5, "b"), again(2, 9, 8), again(3, 5, 4), lost(4, 8), mend(6, 4, "a"), again(100000, 4, 3))
	for _, x := range []struct {
		l           []api.WreckRecord
		number, day int
		want        int
		e           api.Errno
	}{
		{shopBook(), 205, 450, 0, api.OK},
		{shopBook(), 101, 450, 0, api.ErrNone},
		{shopBook(), 101, 350, 0, api.OK},
		{shopBook(), 102, 600, 0, api.ErrNone},
		// the days on which a number is got and lost
		{shopBook(), 101, 9, 0, api.ErrNone},
		{shopBook(), 101, 10, 0, api.OK},
		{shopBook(), 101, 399, 0, api.OK},
		{shopBook(), 101, 400, 0, api.ErrNone},
		{shopBook(), 205, 399, 0, api.ErrNone},
		{shopBook(), 205, 400, 0, api.OK},
		{shopBook(), 205, 100000, 0, api.OK},
		{shopBook(), 102, 19, 0, api.ErrNone},
		{shopBook(), 102, 20, 1, api.OK},
		{shopBook(), 102, 599, 1, api.OK},
		{shopBook(), 102, 100000, 0, api.ErrNone},
		{shopBook(), 103, 300, 0, api.ErrNone},
		{shopBook(), 1, 0, 0, api.ErrNone},
		{shopBook(), 99999, 100000, 0, api.ErrNone},
		{nil, 1, 0, 0, api.ErrNone},
		// all on one day
		{day, 1, 5, 0, api.ErrNone},
		{day, 2, 5, 0, api.ErrNone},
		{day, 3, 5, 0, api.ErrNone},
		{day, 4, 5, 0, api.OK},
		{day, 4, 4, 0, api.ErrNone},
		{day, 99999, 5, 5, api.OK},
		{moved, 9, 1, 0, api.OK},
		{moved, 9, 2, 0, api.ErrNone},
		{moved, 8, 3, 0, api.OK},
		{moved, 8, 4, 0, api.ErrNone},
		{moved, 5, 2, 1, api.OK},
		{moved, 5, 3, 0, api.ErrNone},
		{moved, 4, 3, 1, api.OK},
		{moved, 4, 99999, 1, api.OK},
		{moved, 4, 100000, 0, api.ErrNone},
		{moved, 3, 99999, 0, api.ErrNone},
		{moved, 3, 100000, 1, api.OK},
		{longBook(40), 7, 0, 0, api.OK},
		{longBook(40), 7, 100000, 0, api.OK},
	} {
		if made, e := wreck.Trace(x.l, x.number, x.day); made != x.want || e != x.e {
			t.Errorf("Trace(%v, %d, %d): %d, %d, not %d, %d", x.l, x.number, x.day, made, e, x.want, x.e)
		}
	}
}

// P9.5
func TestTraceOfNothing(t *testing.T) {
	for _, l := range [][]api.WreckRecord{shopBook(), nil} {
		for _, x := range numbersOff(1, 99999) {
			for _, day := range []int{450, -1} {
				if made, e := wreck.Trace(l, x, day); made != 0 || e != api.ErrWreckAsk {
					t.Errorf("Trace of %d on %d: %d, %d", x, day, made, e)
				}
			}
		}
		for _, x := range numbersOff(0, 100000) {
			if made, e := wreck.Trace(l, 205, x); made != 0 || e != api.ErrWreckAsk {
				t.Errorf("Trace on %d: %d, %d", x, made, e)
			}
		}
	}
}

// withClaim returns the claim of the examples with a change.
func withClaim(change func(c *api.WreckClaim)) api.WreckClaim {
	c := shopClaim()
	change(&c)
	return c
}

// marked returns the claim of the examples on a day with other marks.
func marked(day int, marks ...string) api.WreckClaim {
	return withClaim(func(c *api.WreckClaim) { c.Day, c.Marks = day, marks })
}

func why(kind, index int) api.WreckWhy { return api.WreckWhy{Kind: kind, Index: index} }

// P9.5
func TestJudge(t *testing.T) {
	for _, x := range []struct {
		c    api.WreckClaim
		want api.WreckWhy
	}{
		{shopClaim(), why(0, 0)},
		{marked(450, "ramsden", "dollond"), why(api.WreckMark, 1)},
		{marked(550, "ramsden"), why(api.WreckMark, 1)},
		{withClaim(func(c *api.WreckClaim) { c.Maker = "sisson" }), why(api.WreckMaker, 0)},
		{withClaim(func(c *api.WreckClaim) { c.Made = 11 }), why(api.WreckDay, 0)},
		{withClaim(func(c *api.WreckClaim) { c.Number = 101 }), why(api.WreckNobody, 0)},
		// the day of a repair counts
		{marked(500, "ramsden", "dollond"), why(0, 0)},
		{marked(499, "ramsden"), why(0, 0)},
		{marked(499, "ramsden", "dollond"), why(api.WreckMark, 1)},
		{marked(500, "ramsden"), why(api.WreckMark, 1)},
		{marked(400, "ramsden"), why(0, 0)},
		{marked(399, "ramsden"), why(api.WreckNobody, 0)},
		{marked(100000, "ramsden", "dollond"), why(0, 0)},
		// other marks
		{marked(550), why(api.WreckMark, 0)},
		{marked(550, "dollond"), why(api.WreckMark, 0)},
		{marked(550, "dollond", "ramsden"), why(api.WreckMark, 0)},
		{marked(550, "bird", "dollond"), why(api.WreckMark, 0)},
		{marked(550, "ramsden", "ramsden"), why(api.WreckMark, 1)},
		{marked(550, "ramsden", "dollon"), why(api.WreckMark, 1)},
		{marked(550, "ramsden", "dollond", "dollond"), why(api.WreckMark, 2)},
		{marked(550, slices.Repeat([]string{"ramsden"}, 40)...), why(api.WreckMark, 1)},
		// the first reason counts
		{api.WreckClaim{Number: 999, Day: 550, Maker: "x", Made: 11}, why(api.WreckNobody, 0)},
		{api.WreckClaim{Number: 205, Day: 550, Maker: "x", Made: 11}, why(api.WreckMaker, 0)},
		{api.WreckClaim{Number: 205, Day: 550, Maker: "bird", Made: 11}, why(api.WreckDay, 0)},
		{api.WreckClaim{Number: 205, Day: 550, Maker: "ramsden", Made: 10, Marks: []string{"ramsden", "dollond"}}, why(api.WreckMaker, 0)},
		{api.WreckClaim{Number: 205, Day: 550, Maker: "bird", Made: 400, Marks: []string{"ramsden", "dollond"}}, why(api.WreckDay, 0)},
		// under the number before, and without marks
		{api.WreckClaim{Number: 101, Day: 300, Maker: "bird", Made: 10, Marks: []string{"ramsden"}}, why(0, 0)},
		{api.WreckClaim{Number: 101, Day: 299, Maker: "bird", Made: 10, Marks: []string{"ramsden"}}, why(api.WreckMark, 0)},
		{api.WreckClaim{Number: 101, Day: 299, Maker: "bird", Made: 10}, why(0, 0)},
		{api.WreckClaim{Number: 101, Day: 9, Maker: "bird", Made: 10}, why(api.WreckNobody, 0)},
		{api.WreckClaim{Number: 102, Day: 599, Maker: "sisson", Made: 20}, why(0, 0)},
		{api.WreckClaim{Number: 102, Day: 600, Maker: "sisson", Made: 20}, why(api.WreckNobody, 0)},
		{api.WreckClaim{Number: 102, Day: 599, Maker: "sisson", Made: 20, Marks: []string{"ramsden"}}, why(api.WreckMark, 0)},
	} {
		if w, e := wreck.Judge(shopBook(), x.c); w != x.want || e != api.OK {
			t.Errorf("Judge(%v): %v, %d, not %v", x.c, w, e, x.want)
		}
	}
	c := api.WreckClaim{Number: 7, Day: 39, Maker: "bird", Marks: slices.Repeat([]string{"sisson"}, 39)}
	if w, e := wreck.Judge(longBook(40), c); w != why(0, 0) || e != api.OK {
		t.Errorf("Judge by a long book: %v, %d", w, e)
	}
	c.Marks = append(c.Marks, "sisson")
	if w, e := wreck.Judge(longBook(40), c); w != why(api.WreckMark, 39) || e != api.OK {
		t.Errorf("Judge by a long book: %v, %d", w, e)
	}
}

// P9.5
func TestNoClaim(t *testing.T) {
	list := []api.WreckClaim{{}, marked(550, slices.Repeat([]string{"ramsden"}, 41)...), marked(550, slices.Repeat([]string{""}, 1000)...)}
	for _, x := range numbersOff(1, 99999) {
		list = append(list, withClaim(func(c *api.WreckClaim) { c.Number = x }))
	}
	for _, x := range numbersOff(0, 100000) {
		list = append(list, withClaim(func(c *api.WreckClaim) { c.Day = x }), withClaim(func(c *api.WreckClaim) { c.Made = x }))
	}
	for _, name := range wrongNames() {
		list = append(list, withClaim(func(c *api.WreckClaim) { c.Maker = name }), marked(550, name), marked(550, "ramsden", name), marked(550, name, "dollond"))
	}
	for _, c := range list {
		for _, l := range [][]api.WreckRecord{shopBook(), nil} {
			if w, e := wreck.Judge(l, c); w != (api.WreckWhy{}) || e != api.ErrWreckAsk {
				t.Errorf("Judge(%v): %v, %d", c, w, e)
			}
		}
	}
}

// P9.5: by what the document says of instruments.
func TestTraceAndJudgeAll(t *testing.T) {
	var d dice
	kinds := map[int]int{}
	for range 2000 {
		numbers := d.from(1, 12)
		l := d.book(pick(&d, 8, 20, 40), numbers)
		for number := 1; number <= numbers+1; number++ {
			day := d.from(0, 30)
			want, found := slowTrace(l, number, day)
			e := api.OK
			if !found {
				e = api.ErrNone
			}
			if made, f := wreck.Trace(l, number, day); made != want || f != e {
				t.Fatalf("Trace(%v, %d, %d): %d, %d, not %d, %d", l, number, day, made, f, want, e)
			}
			c := d.claim(l, number, day)
			w, e := wreck.Judge(l, c)
			if w != slowJudge(l, c) || e != api.OK {
				t.Fatalf("Judge(%v, %v): %v, %d, not %v", l, c, w, e, slowJudge(l, c))
			}
			kinds[w.Kind]++
		}
	}
	for kind := range 5 {
		if kinds[kind] < 400 {
			t.Errorf("only %d claims are judged as %d", kinds[kind], kind)
		}
	}
}

// claim returns one of a number on a day, in which at most one thing is not as in the book, if an instrument bears it.
func (d *dice) claim(l []api.WreckRecord, number, day int) api.WreckClaim {
	made, found := slowTrace(l, number, day)
	if !found {
		return api.WreckClaim{Number: number, Day: day, Maker: d.name(), Made: d.from(0, 9)}
	}
	c, _ := copied(l, made, day)
	switch d.from(0, 5) {
	case 0:
		c.Maker = d.name()
	case 1:
		c.Made = d.from(0, 9)
	case 2:
		c.Marks = append(c.Marks, d.name())
	case 3:
		c.Marks = c.Marks[:d.from(0, len(c.Marks))]
	case 4:
		if len(c.Marks) > 0 {
			c.Marks[d.from(0, len(c.Marks)-1)] = d.name()
		}
	}
	return c
}
