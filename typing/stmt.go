package typing

import (
	"cmp"

	"governor/api"
)

// shaped tells whether a statement is of a kind, and has as many expressions, blocks and labels as that kind has.
func shaped(x api.Stmt) bool {
	exprs, blocks, labels := len(x.Exprs), len(x.Blocks), len(x.Labels)
	switch x.Kind {
	case api.Assign, api.Attempt, api.Do:
		return exprs == 1 && blocks+labels == 0
	case api.Put, api.Step:
		return exprs == 2 && blocks+labels == 0
	case api.If:
		return exprs >= 1 && blocks == exprs+1 && labels == 0
	case api.Case:
		return exprs == 1 && blocks == labels+1 && allLabelled(x.Labels)
	case api.While:
		return exprs == 1 && blocks == 1 && labels == 0
	case api.For:
		return exprs == 2 && blocks == 1 && labels == 0
	case api.Return:
		return exprs <= 1 && blocks+labels == 0
	case api.Exit:
		return exprs+blocks+labels == 0
	}
	return false
}

// allLabelled tells whether each alternative has a label.
func allLabelled(alternatives [][]int) bool {
	for _, labels := range alternatives {
		if len(labels) == 0 {
			return false
		}
	}
	return true
}

// list answers the code of what is wrong first in statements; looped tells whether a loop is around them.
func (s *scope) list(l []api.Stmt, looped bool) int {
	for _, x := range l {
		if code := s.stmt(x, looped); code != api.Fine {
			return code
		}
	}
	return api.Fine
}

// stmt answers the code of what is wrong first in a statement: cmp.Or answers the
// first code that is one.
func (s *scope) stmt(x api.Stmt, looped bool) int {
	if !shaped(x) {
		return api.Typing
	}
	switch x.Kind {
	case api.Assign:
		return s.assign(x)
	case api.Put:
		return cmp.Or(s.must(x.Name, api.Array), s.want(x.Exprs, api.Int, api.Int))
	case api.Attempt:
		return cmp.Or(s.must(x.Name, api.Ref), s.want(x.Exprs, api.Ref))
	case api.Do:
		return s.do(x.Exprs[0])
	case api.If:
		return s.branches(x, looped)
	case api.Case:
		return cmp.Or(s.want(x.Exprs, api.Int), apart(x.Labels), s.blocks(x.Blocks, looped))
	case api.For:
		return cmp.Or(s.counter(x), s.want(x.Exprs, api.Int, api.Int), s.list(x.Blocks[0], true))
	case api.While:
		return cmp.Or(s.want(x.Exprs, api.Bool), s.list(x.Blocks[0], true))
	case api.Return:
		return s.answer(x)
	case api.Step:
		return cmp.Or(s.must(x.Name, api.Timer), s.want(x.Exprs, api.Bool, api.Int))
	}
	return s.exit(looped)
}

// blocks answers the code of what is wrong first in blocks.
func (s *scope) blocks(blocks [][]api.Stmt, looped bool) int {
	for _, block := range blocks {
		if code := s.list(block, looped); code != api.Fine {
			return code
		}
	}
	return api.Fine
}

// assign answers what is wrong first in an assignment.
func (s *scope) assign(x api.Stmt) int {
	v, ok := s.vars[x.Name]
	if !ok {
		return api.Unknown
	}
	if v.Dir == 1 {
		return api.Typing
	}
	return s.given(x.Exprs[0], v.Type)
}

// given answers what is wrong first in an expression whose value is to be kept as of a type.
func (s *scope) given(e api.Expr, to api.Type) int {
	t, code := s.expr(e)
	if code == api.Fine && !fits(s.unit, to, t) {
		return api.Typing
	}
	return code
}

// do answers what is wrong first in a call that is a statement.
func (s *scope) do(e api.Expr) int {
	if e.Kind != api.Invoke {
		return api.Typing
	}
	_, code := s.invoke(e)
	return code
}

// branches answers what is wrong first in an IF.
func (s *scope) branches(x api.Stmt, looped bool) int {
	for i := range x.Exprs {
		if code := cmp.Or(s.want(x.Exprs[i:i+1], api.Bool), s.list(x.Blocks[i], looped)); code != api.Fine {
			return code
		}
	}
	return s.list(x.Blocks[len(x.Exprs)], looped)
}

// apart answers Twice, if a label stands there again, or can be no number's.
func apart(alternatives [][]int) int {
	met := map[int]struct{}{}
	for _, labels := range alternatives {
		for _, label := range labels {
			if _, again := met[label]; again || label < api.Lowest || label > api.Highest {
				return api.Twice
			}
			met[label] = struct{}{}
		}
	}
	return api.Fine
}

// counter answers what is wrong with the variable of a FOR, or with its step.
func (s *scope) counter(x api.Stmt) int {
	v, code := s.variable(x.Name, api.Int)
	if code == api.Fine && (v.Dir == 1 || x.N == 0) {
		return api.Typing
	}
	return code
}

// answer answers what is wrong first in a RETURN: where there is no result nothing fits.
func (s *scope) answer(x api.Stmt) int {
	if len(x.Exprs) > 0 {
		return s.given(x.Exprs[0], s.result)
	}
	if s.result.Kind != api.None {
		return api.Typing
	}
	return api.Fine
}

// exit answers what is wrong with an EXIT: it must have a loop to leave.
func (s *scope) exit(looped bool) int {
	if !looped {
		return api.Typing
	}
	return api.Fine
}
