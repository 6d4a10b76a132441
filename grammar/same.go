package grammar

import (
	"slices"

	"excise/api"
)

// Same tells whether two definitions are the same.
func Same(a, b api.Def) bool {
	return a.Name == b.Name && sameSection(a.Root, b.Root) &&
		slices.EqualFunc(a.Tables, b.Tables, sameTable) && slices.EqualFunc(a.Pages, b.Pages, samePage)
}

// SameExpr tells whether two expressions are the same.
func SameExpr(a, b api.Expr) bool {
	return sameNode(a, b) && slices.EqualFunc(a.Args, b.Args, SameExpr)
}

// sameNode tells whether two expressions are the same but for their Args.
func sameNode(a, b api.Expr) bool {
	return a.Kind == b.Kind && a.Op == b.Op && a.Name == b.Name && a.Section == b.Section &&
		a.Value == b.Value && a.Scale == b.Scale && a.Policy == b.Policy
}

func sameSection(a, b api.Section) bool {
	return a.Name == b.Name && a.Max == b.Max &&
		slices.EqualFunc(a.Items, b.Items, sameItem) && slices.EqualFunc(a.Kids, b.Kids, sameSection)
}

func sameItem(a, b api.Item) bool {
	return a.Name == b.Name && a.Kind == b.Kind && a.Type == b.Type && a.Need == b.Need &&
		a.Policy == b.Policy && SameExpr(a.Expr, b.Expr)
}

func sameTable(a, b api.Table) bool { return a.Name == b.Name && slices.Equal(a.Steps, b.Steps) }

func samePage(a, b api.Page) bool {
	return a.Name == b.Name && SameExpr(a.When, b.When) && slices.Equal(a.Items, b.Items)
}

// Clone is a definition in memory of its own.
func Clone(d api.Def) api.Def {
	d.Root = cloneSection(d.Root)
	d.Tables = copies(d.Tables, cloneTable)
	d.Pages = copies(d.Pages, clonePage)
	return d
}

// copies is a list of copies of what is in another one.
func copies[T any](l []T, copyOf func(T) T) []T {
	var made []T
	for _, one := range l {
		made = append(made, copyOf(one))
	}
	return made
}

func cloneSection(s api.Section) api.Section {
	s.Items = copies(s.Items, cloneItem)
	s.Kids = copies(s.Kids, cloneSection)
	return s
}

func cloneItem(i api.Item) api.Item {
	i.Expr = cloneExpr(i.Expr)
	return i
}

func cloneExpr(x api.Expr) api.Expr {
	x.Args = copies(x.Args, cloneExpr)
	return x
}

func cloneTable(t api.Table) api.Table {
	t.Steps = slices.Clone(t.Steps)
	return t
}

func clonePage(p api.Page) api.Page {
	p.When = cloneExpr(p.When)
	p.Items = slices.Clone(p.Items)
	return p
}
