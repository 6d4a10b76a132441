package formula_test

import (
	"maps"
	"math/rand/v2"
	"slices"
	"testing"

	"excise/api"
	"excise/bracket"
	"excise/formula"
	"excise/grammar"
	"excise/summary"
	"excise/value"
)

// What the chapter's words say of expressions, slowly and plainly.

// saidEval evaluates no more than a choice asks for, and looks for tables one by one.
func saidEval(x api.Expr, env api.Env) api.Value {
	need, ok := needs[x.Kind]
	if !ok || len(x.Args) != need {
		return bad(2)
	}
	arg := func(n int) api.Value { return saidEval(x.Args[n], env) }
	v := api.Value{}
	switch x.Kind {
	case 1:
		v = x.Value
	case 2:
		if got, ok := env.Names[x.Name]; ok {
			v = got
		}
	case 3:
		v = value.Neg(arg(0))
	case 4:
		v = value.Not(arg(0))
	case 5:
		v = value.Op(x.Op, arg(0), arg(1))
	case 6:
		v = arg(0)
		if v.Kind != api.VFlag {
			v = value.If(v, v, v)
		} else if v.Flag {
			v = arg(1)
		} else {
			v = arg(2)
		}
	case 7:
		v = value.Round(arg(0), x.Scale, x.Policy)
	case 8:
		v = saidBracket(x.Name, arg(0), env.Tables)
	case 9:
		v = value.Blank(arg(0))
	case 10:
		v = saidAgg(x, env.Cols)
	}
	if value.Check(v) != api.OK {
		return bad(2)
	}
	return v
}

func saidBracket(name string, v api.Value, tables []api.Table) api.Value {
	if value.Check(v) != api.OK {
		return bad(2)
	}
	if v.Kind == 4 {
		return v
	}
	if v.Kind == 0 {
		return bad(3)
	}
	if v.Kind != 1 {
		return bad(2)
	}
	for _, t := range tables {
		if t.Name != name {
			continue
		}
		d, e := bracket.At(t, v.Num)
		if e == api.ErrLow {
			return bad(5)
		}
		if e == api.ErrOver {
			return bad(1)
		}
		if e != api.OK {
			return bad(2)
		}
		return api.Value{Kind: 1, Num: d}
	}
	return bad(2)
}

func saidKey(x api.Expr) api.ColKey {
	key := api.ColKey{Section: x.Section, Name: x.Name}
	if x.Op == 16 {
		key.Name = ""
	}
	return key
}

func saidAgg(x api.Expr, cols map[api.ColKey]api.Col) api.Value {
	for key, col := range cols {
		if key == saidKey(x) {
			return summary.Value(x.Op, col.Sum, col.Scale)
		}
	}
	return summary.Value(x.Op, api.Sum{}, 0)
}

// saidFold asks Eval of the node as it was handed in, not as it has folded.
func saidFold(x api.Expr, tables []api.Table) api.Expr {
	y := x
	y.Args = nil
	constants := 0
	for _, arg := range x.Args {
		folded := saidFold(arg, tables)
		y.Args = append(y.Args, folded)
		if folded.Kind == 1 && len(folded.Args) == 0 {
			constants++
		}
	}
	need, ok := needs[x.Kind]
	if ok && need == len(x.Args) && constants == need && x.Kind != 2 && x.Kind != 10 {
		return constant(saidEval(x, api.Env{Tables: tables}))
	}
	if x.Kind == 6 && len(x.Args) == 3 && y.Args[0].Kind == 1 && len(y.Args[0].Args) == 0 && y.Args[0].Value.Kind == 2 {
		if y.Args[0].Value.Flag {
			return y.Args[1]
		}
		return y.Args[2]
	}
	return y
}

// flat are all nodes of an expression.
func flat(x api.Expr) []api.Expr {
	l := []api.Expr{x}
	for _, arg := range x.Args {
		l = append(l, flat(arg)...)
	}
	return l
}

func saidNames(x api.Expr) []string {
	var l []string
	for _, n := range flat(x) {
		if n.Kind == 2 && !slices.Contains(l, n.Name) {
			l = append(l, n.Name)
		}
	}
	slices.Sort(l)
	return l
}

func keyBefore(a, b api.ColKey) bool {
	return a.Section < b.Section || a.Section == b.Section && a.Name < b.Name
}

// saidCols puts each column ahead of the first one that is behind it.
func saidCols(x api.Expr) []api.ColKey {
	var l []api.ColKey
	for _, n := range flat(x) {
		if n.Kind != 10 || slices.Contains(l, saidKey(n)) {
			continue
		}
		at := slices.IndexFunc(l, func(k api.ColKey) bool { return keyBefore(saidKey(n), k) })
		if at < 0 {
			at = len(l)
		}
		l = slices.Insert(l, at, saidKey(n))
	}
	return l
}

// Made-up things. Names are few, so that they meet.

var (
	someNames    = []string{"a", "b", "c", "d", "ab", ""}
	someSections = []string{"s", "t", "sa", ""}
	someTables   = []string{"a", "t", "u", ""}
	goodOnes     = good()
	refusedOnes  = refused()
)

func one[T any](r *rand.Rand, l []T) T { return l[r.IntN(len(l))] }

// oneOf is mostly one of the first list.
func oneOf(r *rand.Rand, l, wrong []int) int {
	if r.IntN(25) == 0 {
		return one(r, wrong)
	}
	return one(r, l)
}

func anyDec(r *rand.Rand) api.Dec {
	d := api.Dec{N: api.Nat{uint64(r.IntN(300))}, Scale: r.IntN(4)}
	switch r.IntN(12) {
	case 0:
		d.N = api.Nat{full, full, full, full}
	case 1:
		d.N[r.IntN(4)] = r.Uint64()
		d.Scale = r.IntN(api.MaxScale + 1)
	}
	d.Neg = d.N != (api.Nat{}) && r.IntN(4) == 0
	return d
}

func anyValue(r *rand.Rand) api.Value {
	switch r.IntN(12) {
	case 0:
		return api.Value{}
	case 1, 2:
		return of(one(r, []string{"true", "false"}))
	case 3:
		return text(one(r, []string{"", "a", "b"}))
	case 4:
		return one(r, goodOnes)
	case 5:
		return one(r, refusedOnes)
	case 6:
		return bad(1 + r.IntN(5))
	}
	return api.Value{Kind: api.VNum, Num: anyDec(r)}
}

// anyLeaf reads, or is a constant.
func anyLeaf(r *rand.Rand) api.Expr {
	switch r.IntN(4) {
	case 0:
		return name(one(r, someNames))
	case 1:
		return agg(oneOf(r, aggs, noOps), one(r, someSections), one(r, someNames))
	}
	return constant(anyValue(r))
}

// anyExpr is an expression of some depth, here and there with wrong nodes within it.
func anyExpr(r *rand.Rand, depth, wrong int) api.Expr {
	if depth == 0 || r.IntN(6) == 0 {
		x := anyLeaf(r)
		if wrong > 0 && r.IntN(wrong) == 0 {
			x.Args = []api.Expr{anyLeaf(r)}
		}
		return x
	}
	x := api.Expr{Kind: one(r, []int{3, 4, 5, 5, 5, 6, 6, 7, 8, 9})}
	x.Op, x.Name = oneOf(r, ops, noOps), one(r, someTables)
	x.Scale, x.Policy = r.IntN(6), oneOf(r, policies, noPolicies)
	many := needs[x.Kind]
	if wrong > 0 && r.IntN(wrong) == 0 {
		many = r.IntN(5)
	}
	if wrong > 0 && r.IntN(wrong) == 0 {
		x.Kind = one(r, slices.Concat(kinds, noKinds))
		x.Section, x.Value = one(r, someSections), anyValue(r)
	}
	for range many {
		x.Args = append(x.Args, anyExpr(r, depth-1, wrong))
	}
	return x
}

func anyCol(r *rand.Rand) api.Col {
	scale := r.IntN(3)
	var s api.Sum
	for range r.IntN(4) {
		v := anyValue(r)
		if v.Kind == api.VNum && r.IntN(5) > 0 {
			v.Num.Scale = scale
		}
		if v.Kind == api.VErr && r.IntN(3) > 0 {
			v = api.Value{}
		}
		s = summary.Join(s, summary.Of(v, scale))
	}
	switch r.IntN(20) {
	case 0:
		s.Err = r.IntN(9) - 2
	case 1:
		s.Some, s.Min.Scale, s.Max.Neg = true, r.IntN(21)-1, true
	case 2:
		scale = one(r, noScales)
	case 3:
		s.Rows, s.Filled, s.Total[4] = -s.Rows, -5, full
	}
	return api.Col{Sum: s, Scale: scale}
}

func anyTable(r *rand.Rand, name string) api.Table {
	t := api.Table{Name: name}
	from := int64(r.IntN(20) - 10)
	for range r.IntN(4) {
		step := api.Step{Base: anyDec(r), Rate: anyDec(r)}
		step.From = api.Dec{Neg: from < 0, N: api.Nat{uint64(max(from, -from))}}
		t.Steps = append(t.Steps, step)
		from += int64(r.IntN(30))
	}
	return t
}

func anyEnv(r *rand.Rand) api.Env {
	var env api.Env
	if r.IntN(20) > 0 {
		env.Names, env.Cols = map[string]api.Value{}, map[api.ColKey]api.Col{}
		for range r.IntN(8) {
			env.Names[one(r, someNames)] = anyValue(r)
		}
		for range r.IntN(30) {
			env.Cols[api.ColKey{Section: one(r, someSections), Name: one(r, someNames)}] = anyCol(r)
		}
	}
	for range r.IntN(6) {
		env.Tables = append(env.Tables, anyTable(r, one(r, someTables)))
	}
	return env
}

func copiedEnv(env api.Env) api.Env {
	env.Names, env.Cols, env.Tables = maps.Clone(env.Names), maps.Clone(env.Cols), slices.Clone(env.Tables)
	for n := range env.Tables {
		env.Tables[n].Steps = slices.Clone(env.Tables[n].Steps)
	}
	return env
}

func sameEnv(a, b api.Env) bool {
	return maps.Equal(a.Names, b.Names) && maps.Equal(a.Cols, b.Cols) && sameTables(a.Tables, b.Tables)
}

// made calls do with many made-up expressions and envs, of each size, without wrong nodes and with few or many.
func made(seed uint64, do func(r *rand.Rand, x api.Expr, env api.Env)) {
	for n := range uint64(10000) {
		r := rand.New(rand.NewPCG(seed, n))
		do(r, anyExpr(r, r.IntN(6), []int{0, 40, 8}[r.IntN(3)]), anyEnv(r))
	}
}

// P17.1 to P17.3: all calls say what the words say, and write to nothing.
func TestMade(t *testing.T) {
	made(1, func(r *rand.Rand, x api.Expr, env api.Env) {
		keptX, keptEnv := copied(x), copiedEnv(env)
		wantEval(t, x, env, saidEval(x, env))
		wantNames(t, x, saidNames(x)...)
		wantCols(t, x, saidCols(x)...)
		wantFold(t, x, saidFold(x, env.Tables), env.Tables...)
		if n := formula.Nodes(x); n != len(flat(x)) {
			t.Errorf("Nodes is %d, not %d", n, len(flat(x)))
		}
		if !grammar.SameExpr(x, keptX) || !sameEnv(env, keptEnv) {
			t.Errorf("what was handed in has changed: %+v", keptX)
		}
	})
}

// P17.3, R3: what Fold answers shares nothing with what it was given.
func TestMadeFoldOwn(t *testing.T) {
	made(2, func(r *rand.Rand, x api.Expr, env api.Env) {
		y := formula.Fold(x, env.Tables...)
		kept := copied(x)
		spoil(y)
		if !grammar.SameExpr(x, kept) {
			t.Errorf("a change of what Fold answers changes %+v", kept)
		}
		y = formula.Fold(x, env.Tables...)
		kept = copied(y)
		spoil(x)
		if !grammar.SameExpr(y, kept) {
			t.Errorf("a change of what was handed in changes what Fold answered: %+v", kept)
		}
	})
}

// P17.4, P17.7: items come to what their types take.
func TestMadeItem(t *testing.T) {
	made(3, func(r *rand.Rand, x api.Expr, env api.Env) {
		item := api.Item{Kind: r.IntN(5), Type: api.Type{Kind: oneOf(r, []int{1, 2, 3}, []int{-1, 0, 4, 5}), Scale: oneOf(r, []int{0, 1, 2, 18}, noScales)}, Policy: oneOf(r, policies, noPolicies), Expr: x}
		want := bad(2)
		switch item.Kind {
		case 2:
			want = value.Fit(saidEval(x, env), item.Type, item.Policy)
		case 3:
			want = value.Fit(saidEval(x, env), api.Type{Kind: 2}, 1)
		}
		v := formula.Item(item, env)
		if v != want || value.Check(v) != api.OK {
			t.Errorf("Item is %+v, not %+v, of %+v", v, want, item)
		}
	})
}

// P17.5: folding changes nothing, and what is folded folds to itself.
func TestFoldingChangesNothing(t *testing.T) {
	changed := 0
	made(4, func(r *rand.Rand, x api.Expr, env api.Env) {
		y := formula.Fold(x, env.Tables...)
		wantEval(t, y, env, formula.Eval(x, env))
		wantFold(t, y, y, env.Tables...)
		if !grammar.SameExpr(x, y) {
			changed++
		}
	})
	if changed < 2000 {
		t.Error("only", changed, "expressions fold to others")
	}
}

// P17.6: what is not read counts for nothing; what is not there is as a blank, or as an empty column.
func TestWhatIsNotRead(t *testing.T) {
	made(5, func(r *rand.Rand, x api.Expr, env api.Env) {
		want := formula.Eval(x, env)
		other := anyEnv(r)
		if other.Names == nil {
			other.Names, other.Cols = map[string]api.Value{}, map[api.ColKey]api.Col{}
		}
		other.Tables = env.Tables
		least := api.Env{Names: map[string]api.Value{}, Cols: map[api.ColKey]api.Col{}, Tables: env.Tables}
		for _, n := range formula.Names(x) {
			other.Names[n], least.Names[n] = env.Names[n], env.Names[n]
		}
		for _, k := range formula.Cols(x) {
			other.Cols[k], least.Cols[k] = env.Cols[k], env.Cols[k]
		}
		wantEval(t, x, other, want)
		wantEval(t, x, least, want)
	})
}

// P17.7: what Eval answers, value.Check takes. Of all kinds there are enough, or the made-up things would hold little.
func TestEvalMayBe(t *testing.T) {
	seen := map[string]int{}
	made(6, func(r *rand.Rand, x api.Expr, env api.Env) {
		v := formula.Eval(x, env)
		if value.Check(v) != api.OK {
			t.Errorf("Eval is %+v of %+v", v, x)
		}
		key := value.Text(v)
		if v.Kind == api.VNum || v.Kind == api.VText {
			key = []string{1: "number", 3: "text"}[v.Kind]
		}
		seen[key]++
	})
	for _, key := range []string{"blank", "true", "false", "number", "text", "!1", "!2", "!3", "!4", "!5"} {
		if seen[key] < 100 {
			t.Error("only", seen[key], "come to", key)
		}
	}
}
