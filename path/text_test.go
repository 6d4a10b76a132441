package path_test

import (
	"math"
	"strconv"
	"strings"
	"testing"
	"time"

	"excise/api"
	"excise/path"
)

const (
	maxId = "9007199254740992"
	past  = "9007199254740993"
)

func TestTexts(t *testing.T) {
	for _, c := range []struct {
		r    api.Row
		item int
		want string
		cell string
	}{
		{row(0), 0, "/", "/.a"},
		{row(0), 2, "/", "/.c"},
		{row(0), 3, "/", "?"},
		{row(0), -1, "/", "?"},
		{row(1, 3), 0, "/jobs:3", "/jobs:3.pay"},
		{row(1, 1), 1, "/jobs:1", "?"},
		{row(1, api.MaxId), 0, "/jobs:" + maxId, "/jobs:" + maxId + ".pay"},
		{row(2, 3, 7), 0, "/jobs:3/days:7", "/jobs:3/days:7.h"},
		{row(2, 10, 200), 1, "/jobs:10/days:200", "/jobs:10/days:200.k"},
		{row(3, 3, 7, 9), 0, "/jobs:3/days:7/hours:9", "/jobs:3/days:7/hours:9.m"},
		{row(4, 3, 7), 0, "/jobs:3/notes:7", "?"},
		{row(5, 12), 0, "/homes:12", "/homes:12.rent"},
		{row(6, 12, 1), 0, "/homes:12/rooms:1", "/homes:12/rooms:1.size"},
		{row(1), 0, "?", "?"},
		{row(0, 1), 0, "?", "?"},
		{row(1, api.MaxId+1), 0, "?", "?"},
		{row(-1), 0, "?", "?"},
		{row(7, 1), 0, "?", "?"},
	} {
		if s := path.Text(example(), c.r); s != c.want {
			t.Errorf("Text of %v: %q", c.r, s)
		}
		if s := path.CellText(example(), api.Cell{Row: c.r, Item: c.item}); s != c.cell {
			t.Errorf("CellText of %v, %d: %q", c.r, c.item, s)
		}
	}
}

// Each row that may be, and each cell of it, there and back.
func TestThereAndBack(t *testing.T) {
	l := example()
	for _, r := range goodRows() {
		wantRow(t, l, path.Text(l, r), r)
		for n := range l[r.Section].Items {
			c := api.Cell{Row: r, Item: n}
			wantCell(t, l, path.CellText(l, c), c)
		}
	}
}

// wantRow holds that a text is a row's, and no cell's.
func wantRow(t *testing.T, l []api.Sect, s string, want api.Row) {
	t.Helper()
	if r, ok := path.Parse(l, s); !ok || r != want {
		t.Errorf("Parse of %q: %v %v, not %v", s, r, ok, want)
	}
	if c, ok := path.ParseCell(l, s); ok || c != (api.Cell{}) {
		t.Errorf("ParseCell of %q: %v %v", s, c, ok)
	}
}

// wantCell holds that a text is a cell's, and no row's.
func wantCell(t *testing.T, l []api.Sect, s string, want api.Cell) {
	t.Helper()
	if c, ok := path.ParseCell(l, s); !ok || c != want {
		t.Errorf("ParseCell of %q: %v %v, not %v", s, c, ok, want)
	}
	if r, ok := path.Parse(l, s); ok || r != (api.Row{}) {
		t.Errorf("Parse of %q: %v %v", s, r, ok)
	}
}

// wantNeither holds that a text is nobody's.
func wantNeither(t *testing.T, l []api.Sect, s string) {
	t.Helper()
	if r, ok := path.Parse(l, s); ok || r != (api.Row{}) {
		t.Errorf("Parse of %q: %v %v", s, r, ok)
	}
	if c, ok := path.ParseCell(l, s); ok || c != (api.Cell{}) {
		t.Errorf("ParseCell of %q: %v %v", s, c, ok)
	}
}

func TestTextsOfNobody(t *testing.T) {
	for _, s := range []string{
		"", " ", "?", ".", ".a", "a", "/a", "/ ", " /", "//", "///", "//.a", "/.", "/.d", "/..a", "/.a.", "/.a.a", "/.A", "/.pay", "/.aa", "/. a", "/.a ",
		"jobs:3", "jobs:3.pay", "//jobs:3", "/jobs:3/", "/jobs:3//days:7", "/jobs:3/.pay", "/jobs:3/days:7/", "/jobs:3/days:7/.h", "//.pay",
		"/jobs", "/jobs:", "/jobs.pay", "/jobs:.pay", "/jobs3", "/jobs/3", "/jobs::3", "/job:3", "/jobss:3", "/Jobs:3", "/:3", "/ jobs:3", "/jobs :3",
		"/days:7", "/hours:9", "/days:7/jobs:3", "/jobs:3/jobs:3", "/jobs:3/hours:9", "/jobs:3/rooms:7", "/homes:3/days:7", "/root:1", "/root:1/jobs:3",
		"/jobs:3.", "/jobs:3.h", "/jobs:3.pay.", "/jobs:3..pay", "/jobs:3.pay/days:7", "/jobs:3.pa", "/jobs:3.payy", "/jobs:3 .pay", "/jobs:3.pay ",
		"/jobs:3/notes:7.h", "/jobs:3/notes:7.", "/jobs:3/days:7.pay", "/jobs:3/days:7.a", "/jobs:3/days:7/hours:9/hours:9",
		"/jobs:3?", "/jobs:3:", "/jobs:3:4", "/jobs:3x", "/jobs:3 ", "/jobs:3\x00", "/jobs:3\n", "/jobs:3,0", "/jobs:3é", "/jobs:٣", "/jobs:x", "/jobs:3jobs:4",
	} {
		wantNeither(t, example(), s)
	}
}

func TestIdsOfTexts(t *testing.T) {
	for _, c := range []struct {
		id   string
		want int64
	}{
		{"1", 1}, {"2", 2}, {"9", 9}, {"10", 10}, {"100", 100}, {"1000000000000000", 1e15}, {maxId, api.MaxId}, {"9007199254740991", api.MaxId - 1}, {"8999999999999999", 8999999999999999},
		{past, 0}, {"9007199254741000", 0}, {"9999999999999999", 0}, {"10000000000000000", 0}, {"90071992547409920", 0}, {"9223372036854775807", 0}, {"9223372036854775808", 0},
		{"18446744073709551616", 0}, {"18446744073709551617", 0}, {"18446744073709551619", 0}, {"1" + strings.Repeat("0", 64), 0}, {strings.Repeat("9", 400), 0},
		{"", 0}, {"0", 0}, {"00", 0}, {"01", 0}, {"03", 0}, {"0" + maxId, 0}, {"0000000000000000000000003", 0}, {"-1", 0}, {"+1", 0}, {"-0", 0}, {"- 1", 0}, {" 1", 0}, {"1 ", 0}, {"\t1", 0},
		{"1e3", 0}, {"1_0", 0}, {"0x1", 0}, {"a", 0}, {"1a", 0}, {"1.0", 0}, {"1,0", 0}, {"1/", 0}, {"1:", 0}, {":1", 0}, {"/1", 0}, {";", 0}, {"1;", 0},
	} {
		for _, at := range []struct{ ahead, behind string }{{"/jobs:", ""}, {"/jobs:3/days:", ""}, {"/jobs:", "/days:7"}, {"/jobs:3/days:", "/hours:9"}, {"/homes:4/rooms:", ""}} {
			wantId(t, at.ahead, c.id, at.behind, c.want)
		}
	}
}

// wantId holds what is parsed of a row's text and a cell's, with an id in the midst; 0 if it is none.
func wantId(t *testing.T, ahead, id, behind string, want int64) {
	t.Helper()
	l := example()
	rows := map[string]api.Row{
		"/jobs:":                row(1, want),
		"/jobs:/days:7":         row(2, want, 7),
		"/jobs:3/days:":         row(2, 3, want),
		"/jobs:3/days:/hours:9": row(3, 3, want, 9),
		"/homes:4/rooms:":       row(6, 4, want),
	}
	r, s := rows[ahead+behind], ahead+id+behind
	item := "." + l[r.Section].Items[0].Name
	if want == 0 {
		wantNeither(t, l, s)
		wantNeither(t, l, s+item)
		return
	}
	wantRow(t, l, s, r)
	wantCell(t, l, s+item, api.Cell{Row: r})
}

// Of several sections of one name at one place the least one counts, of several items likewise; what only a later one has is found there.
func TestLeastOfSeveral(t *testing.T) {
	l := []api.Sect{
		{Parent: -1, Depth: 1, Items: items("a", "b", "a")},
		{Parent: 0, Depth: 2, Name: "x", Items: items("p", "p")},
		{Parent: 0, Depth: 2, Name: "x", Items: items("p", "q", "q")},
		{Parent: 2, Depth: 3, Name: "y", Items: items("u")},
		{Parent: 1, Depth: 3, Name: "y", Items: items("u", "v")},
		{Parent: 1, Depth: 3, Name: "z"},
		{Parent: 2, Depth: 3, Name: "z", Items: items("w", "w")},
	}
	wantRow(t, l, "/", row(0))
	wantRow(t, l, "/x:4", row(1, 4))
	wantRow(t, l, "/x:4/y:5", row(3, 4, 5))
	wantRow(t, l, "/x:4/z:5", row(5, 4, 5))
	wantCell(t, l, "/.a", api.Cell{Item: 0})
	wantCell(t, l, "/.b", api.Cell{Item: 1})
	wantCell(t, l, "/x:4.p", api.Cell{Row: row(1, 4)})
	wantCell(t, l, "/x:4.q", api.Cell{Row: row(2, 4), Item: 1})
	wantCell(t, l, "/x:4/y:5.u", api.Cell{Row: row(3, 4, 5)})
	wantCell(t, l, "/x:4/y:5.v", api.Cell{Row: row(4, 4, 5), Item: 1})
	wantCell(t, l, "/x:4/z:5.w", api.Cell{Row: row(6, 4, 5)})
	wantNeither(t, l, "/x:4.u")
	wantNeither(t, l, "/x:4/z:5.u")
}

// Names that no definition has, in a raw list: empty, with the bytes that a text is made of, or alike up to some byte.
func TestRawNames(t *testing.T) {
	l := []api.Sect{
		{Parent: -1, Depth: 1, Name: "root", Items: items("", ".", "/", "a.b", "1")},
		{Parent: 0, Depth: 2, Name: "", Items: items("", "x")},
		{Parent: 0, Depth: 2, Name: "a/b", Items: items("x")},
		{Parent: 0, Depth: 2, Name: "a:1/b", Items: items("x", "y.z")},
		{Parent: 0, Depth: 2, Name: "a", Items: items("x", "5/b:2.x")},
		{Parent: 4, Depth: 3, Name: "b", Items: items("x", "w")},
		{Parent: 0, Depth: 2, Name: ":", Items: items(":")},
		{Parent: 0, Depth: 2, Name: "/", Items: items("/")},
		{Parent: 0, Depth: 2, Name: "1", Items: items("1")},
		{Parent: 8, Depth: 3, Name: "1", Items: items(":1")},
		{Parent: 1, Depth: 3, Name: "", Items: items("")},
		{Parent: 0, Depth: 2, Name: "\xff", Items: items("\xff")},
		{Parent: 0, Depth: 2, Name: ".a", Items: items("x")},
	}
	for _, c := range []struct {
		s string
		r api.Row
	}{
		{"/", row(0)}, {"/:3", row(1, 3)}, {"/a/b:3", row(2, 3)}, {"/a:1/b:2", row(3, 2)}, {"/a:2/b:2", row(5, 2, 2)}, {"/a:7", row(4, 7)},
		{"/::3", row(6, 3)}, {"//:3", row(7, 3)}, {"/1:1", row(8, 1)}, {"/1:1/1:1", row(9, 1, 1)}, {"/:1/:2", row(10, 1, 2)}, {"/\xff:1", row(11, 1)}, {"/.a:1", row(12, 1)},
	} {
		wantRow(t, l, c.s, c.r)
	}
	for _, c := range []struct {
		s    string
		r    api.Row
		item int
	}{
		{"/.", row(0), 0}, {"/..", row(0), 1}, {"/./", row(0), 2}, {"/.a.b", row(0), 3}, {"/.1", row(0), 4}, {"/:3.", row(1, 3), 0}, {"/:3.x", row(1, 3), 1},
		{"/a/b:2.x", row(2, 2), 0}, {"/a:1/b:2.x", row(3, 2), 0}, {"/a:1/b:2.y.z", row(3, 2), 1}, {"/a:1/b:2.w", row(5, 1, 2), 1}, {"/a:4.5/b:2.x", row(4, 4), 1},
		{"/::1.:", row(6, 1), 0}, {"//:1./", row(7, 1), 0}, {"/1:1/1:1.:1", row(9, 1, 1), 0}, {"/:1/:1.", row(10, 1, 1), 0}, {"/\xff:1.\xff", row(11, 1), 0}, {"/.a:1.x", row(12, 1), 0},
	} {
		wantCell(t, l, c.s, api.Cell{Row: c.r, Item: c.item})
	}
	for _, s := range []string{"/root:1", "/a:1/b", "/:", "/::", "/:1/", "/:1//:1", "/.x", "/a:1.5/b:2"} {
		wantNeither(t, l, s)
	}
}

// A name may begin as another one, or go on with what looks like an id: the section whose whole name stands there is meant.
func TestNamesAlike(t *testing.T) {
	l := []api.Sect{
		{Parent: -1, Depth: 1},
		{Parent: 0, Depth: 2, Name: "ab", Items: items("x")},
		{Parent: 0, Depth: 2, Name: "a", Items: items("x")},
		{Parent: 0, Depth: 2, Name: "abc", Items: items("x")},
		{Parent: 0, Depth: 2, Name: "a1", Items: items("xy", "x", "x1")},
	}
	for n, s := range map[int]string{1: "/ab:1", 2: "/a:1", 3: "/abc:1", 4: "/a1:1"} {
		wantRow(t, l, s, row(n, 1))
	}
	wantCell(t, l, "/a1:1.x", api.Cell{Row: row(4, 1), Item: 1})
	wantCell(t, l, "/a1:1.x1", api.Cell{Row: row(4, 1), Item: 2})
	wantNeither(t, l, "/a11:1")
}

// The bound: a name that is long, and around many sections; a text that is long, and begins alike for many sections.
func TestBound(t *testing.T) {
	const many = 1 << 17
	begin := time.Now()
	long := strings.Repeat("n", 1<<20)
	deep := []api.Sect{{Parent: -1, Depth: 1}, {Parent: 0, Depth: 2, Name: long}}
	flat := []api.Sect{{Parent: -1, Depth: 1}}
	for n := range many {
		deep = append(deep, api.Sect{Parent: 1, Depth: 3, Name: "k" + strconv.Itoa(n), Items: items("x")})
		flat = append(flat, api.Sect{Parent: 0, Depth: 2, Name: "k", Items: items("x")})
	}
	last := row(many+1, 5, 6)
	wantRow(t, deep, path.Text(deep, last), last)
	wantCell(t, deep, path.CellText(deep, api.Cell{Row: last}), api.Cell{Row: last})
	for _, id := range []string{strings.Repeat("0", 1<<20), strings.Repeat("9", 1<<20), "1" + strings.Repeat("0", 1<<20), "1." + long, "1/" + long, "1" + long} {
		wantNeither(t, flat, "/k:"+id)
	}
	if took := time.Since(begin); took > 20*time.Second {
		t.Errorf("it took %v", took)
	}
}

func TestNoPanicOnRawNumbers(t *testing.T) {
	for _, n := range []int{math.MinInt, -1, 0, 1, math.MaxInt} {
		for _, m := range []int{math.MinInt, -1, 0, 1, 2, math.MaxInt} {
			l := []api.Sect{{Parent: -1, Depth: 1}, {Parent: n, Depth: m, Name: "x"}, {Parent: m, Depth: n, Name: "y"}}
			for section := -1; section < 4; section++ {
				wantRefused(t, l, row(section, 1))
			}
			wantNeither(t, l, "/x:1")
		}
	}
}
