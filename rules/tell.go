package rules

import (
	"cmp"
	"slices"
	"strconv"
	"strings"

	"excise/api"
)

// Compare orders faults by where they stand, then by items, kinds and errors. Rows' ids count for nothing.
func Compare(a, b api.Fault) int {
	return cmp.Or(slices.Compare(a.At, b.At), cmp.Compare(a.Cell.Item, b.Cell.Item), cmp.Compare(a.Kind, b.Kind), cmp.Compare(a.Err, b.Err))
}

// Same tells whether two faults are the same, field by field.
func Same(a, b api.Fault) bool {
	return a.Kind == b.Kind && a.Err == b.Err && a.Cell == b.Cell && slices.Equal(a.At, b.At)
}

// Text says what a fault is, and where it stands.
func Text(l []api.Sect, f api.Fault) string {
	var b strings.Builder
	b.WriteString(kind(f))
	b.WriteString(" ")
	for n := 0; n+1 < len(f.At); n += 2 {
		b.WriteString("/" + section(l, f.At[n]) + "[" + strconv.Itoa(f.At[n+1]) + "]")
	}
	b.WriteString("." + item(l, f.Cell))
	return b.String()
}

func kind(f api.Fault) string {
	switch f.Kind {
	case api.FtNeed:
		return "needed"
	case api.FtFalse:
		return "false"
	case api.FtBlank:
		return "blank"
	case api.FtError:
		return "error " + strconv.Itoa(f.Err)
	}
	return "?"
}

func section(l []api.Sect, n int) string {
	if n < 0 || n >= len(l) {
		return "?"
	}
	return l[n].Name
}

func item(l []api.Sect, c api.Cell) string {
	n := c.Row.Section
	if n < 0 || n >= len(l) || c.Item < 0 || c.Item >= len(l[n].Items) {
		return "?"
	}
	return l[n].Items[c.Item].Name
}
