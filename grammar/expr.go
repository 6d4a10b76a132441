package grammar

import "excise/api"

// Each of these takes what the language calls so, one within the other, from what is put together last to what is put together first.

func (r *reader) expr() api.Expr {
	x := r.both()
	for r.skip("or") {
		x = node(api.OpOr, x, r.both())
	}
	return x
}

func (r *reader) both() api.Expr {
	x := r.no()
	for r.skip("and") {
		x = node(api.OpAnd, x, r.no())
	}
	return x
}

func (r *reader) no() api.Expr {
	if r.skip("not") {
		return api.Expr{Kind: api.ExNot, Args: []api.Expr{r.no()}}
	}
	return r.rel()
}

func (r *reader) rel() api.Expr {
	x := r.sum()
	if op := r.operator(api.OpEq, api.OpGe); op != 0 {
		x = node(op, x, r.sum())
	}
	return x
}

func (r *reader) sum() api.Expr {
	x := r.product()
	for op := r.operator(api.OpAdd, api.OpSub); op != 0; op = r.operator(api.OpAdd, api.OpSub) {
		x = node(op, x, r.product())
	}
	return x
}

func (r *reader) product() api.Expr {
	x := r.sign()
	for r.skip("*") {
		x = node(api.OpMul, x, r.sign())
	}
	return x
}

func (r *reader) sign() api.Expr {
	if r.skip("-") {
		return api.Expr{Kind: api.ExNeg, Args: []api.Expr{r.sign()}}
	}
	return r.one()
}

func (r *reader) one() api.Expr {
	word := r.next()
	if word.Kind == api.TkNum || word.Kind == api.TkText {
		r.taken++
		return api.Expr{Kind: api.ExConst, Value: word.Value}
	}
	if op := r.operator(api.AgSum, api.AgRows); op != 0 {
		return r.column(op)
	}
	switch {
	case r.skip("true"):
		return api.Expr{Kind: api.ExConst, Value: api.Value{Kind: api.VFlag, Flag: true}}
	case r.skip("false"):
		return api.Expr{Kind: api.ExConst, Value: api.Value{Kind: api.VFlag}}
	case r.skip("("):
		x := r.expr()
		r.take(")")
		return x
	case r.skip("if"):
		return r.choice()
	case r.skip("round"):
		return r.round()
	case r.skip("blank"):
		return api.Expr{Kind: api.ExBlank, Args: r.inBrackets()}
	}
	name := r.name()
	if r.next().Text == "(" {
		return api.Expr{Kind: api.ExBracket, Name: name, Args: r.inBrackets()}
	}
	return api.Expr{Kind: api.ExName, Name: name}
}

// operator takes an operator's word, whose number is from first to last; 0, if none comes next.
func (r *reader) operator(first, last int) int {
	op := operator(r.next().Text, first, last)
	if op != 0 {
		r.taken++
	}
	return op
}

func node(op int, left, right api.Expr) api.Expr {
	return api.Expr{Kind: api.ExOp, Op: op, Args: []api.Expr{left, right}}
}

// inBrackets takes one expression in brackets.
func (r *reader) inBrackets() []api.Expr {
	r.take("(")
	x := r.expr()
	r.take(")")
	return []api.Expr{x}
}

// choice takes what is behind the word if.
func (r *reader) choice() api.Expr {
	r.take("(")
	condition := r.expr()
	r.take(",")
	yes := r.expr()
	r.take(",")
	no := r.expr()
	r.take(")")
	return api.Expr{Kind: api.ExIf, Args: []api.Expr{condition, yes, no}}
}

// round takes what is behind the word round.
func (r *reader) round() api.Expr {
	r.take("(")
	x := api.Expr{Kind: api.ExRound, Args: []api.Expr{r.expr()}}
	r.take(",")
	x.Scale = r.whole()
	r.take(",")
	x.Policy = r.policy()
	r.take(")")
	return x
}

// column takes what is behind a word that asks something of rows.
func (r *reader) column(op int) api.Expr {
	x := api.Expr{Kind: api.ExAgg, Op: op}
	r.take("(")
	x.Section = r.name()
	if op != api.AgRows {
		r.take(".")
		x.Name = r.name()
	}
	r.take(")")
	return x
}
