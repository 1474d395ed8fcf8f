package syntax

import "governor/api"

// unit reads all declarations, and their places. It leaves unread what begins none.
func (p *parser) unit() (api.Unit, []int) {
	var unit api.Unit
	var places []int
	for p.beginsDecl() {
		p.limit(len(unit.Decls), api.MaxDecls)
		places = append(places, p.place())
		unit.Decls = append(unit.Decls, p.decl())
	}
	return unit, places
}

// beginsDecl tells whether a declaration stands there.
func (p *parser) beginsDecl() bool {
	return p.isOne("INTERFACE", "CLASS", "PROGRAM", "TASK")
}

// decl reads a declaration.
func (p *parser) decl() api.Decl {
	switch {
	case p.take("INTERFACE"):
		return p.face()
	case p.take("CLASS"):
		return p.class()
	case p.take("PROGRAM"):
		return p.program()
	}
	p.expect("TASK")
	return p.task()
}

// face reads what stands behind INTERFACE.
func (p *parser) face() api.Decl {
	d := api.Decl{Kind: api.Interface, Name: p.name()}
	p.expect(";")
	d.Methods = p.methods(p.signature)
	p.expect("END_INTERFACE")
	return d
}

// class reads what stands behind CLASS.
func (p *parser) class() api.Decl {
	d := api.Decl{Kind: api.Class}
	d.Abstract = p.take("ABSTRACT")
	d.Final = p.take("FINAL")
	d.Name = p.name()
	if p.take("EXTENDS") {
		d.Base = p.name()
	}
	if p.take("IMPLEMENTS") {
		d.Faces = several(p, api.MaxFaces, p.beginsName, p.name)
	}
	p.expect(";")
	d.Vars = p.vars()
	d.Methods = p.methods(p.method)
	p.expect("END_CLASS")
	return d
}

// program reads what stands behind PROGRAM.
func (p *parser) program() api.Decl {
	d := api.Decl{Kind: api.Program, Name: p.name()}
	p.expect(";")
	d.Vars = p.vars()
	d.Body = p.list(outermost, p.is("END_PROGRAM"))
	p.expect("END_PROGRAM")
	return d
}

// task reads what stands behind TASK.
func (p *parser) task() api.Decl {
	d := api.Decl{Kind: api.TaskOf, Name: p.name()}
	p.expect("(", "INTERVAL")
	d.Every = p.number()
	p.expect(",", "PRIORITY")
	d.First = p.number()
	p.expect(")", ":")
	d.Base = p.name()
	p.expect(";")
	return d
}

// methods reads a declaration's methods, by what reads that which stands behind METHOD.
func (p *parser) methods(read func() api.Method) []api.Method {
	var methods []api.Method
	for p.is("METHOD") {
		p.limit(len(methods), api.MaxMethods)
		p.expect("METHOD")
		methods = append(methods, read())
	}
	return methods
}

// method reads a class's method.
func (p *parser) method() api.Method {
	over := p.take("OVERRIDE")
	abstract := p.take("ABSTRACT")
	final := p.take("FINAL")
	m := p.signature()
	m.Over, m.Abstract, m.Final = over, abstract, final
	m.Vars = p.vars()
	m.Body = p.list(outermost, p.is("END_METHOD"))
	p.expect("END_METHOD")
	return m
}

// signature reads what an interface tells of a method, and how a class's begins.
func (p *parser) signature() api.Method {
	m := api.Method{Name: p.name()}
	p.expect("(")
	if !p.is(")") {
		m.Params = several(p, api.MaxParams, p.beginsName, p.param)
	}
	p.expect(")")
	if p.take(":") {
		m.Result = p.typeOf()
	}
	p.expect(";")
	return m
}

// vars reads the variables of a declaration, or of a method.
func (p *parser) vars() []api.Var {
	var vars []api.Var
	for p.is("VAR") {
		p.limit(len(vars), api.MaxVars)
		p.expect("VAR")
		vars = append(vars, p.variable())
	}
	return vars
}

// variable reads what stands behind VAR.
func (p *parser) variable() api.Var {
	v := p.param()
	if p.take(":=") {
		v.Init = p.int()
	}
	if p.take("AT") {
		v.Dir = p.direction()
		v.Slot = p.number()
	}
	p.expect(";")
	return v
}

// param reads a name and its type.
func (p *parser) param() api.Var {
	v := api.Var{Name: p.name()}
	p.expect(":")
	v.Type = p.typeOf()
	return v
}

// direction reads whether a slot is an input's, 1, or an output's, 2.
func (p *parser) direction() int {
	if p.take("IN") {
		return 1
	}
	p.expect("OUT")
	return 2
}

// typeOf reads a type.
func (p *parser) typeOf() api.Type {
	switch {
	case p.take("INT"):
		return p.ints()
	case p.take("BOOL"):
		return api.Type{Kind: api.Bool}
	case p.take("ARRAY"):
		return p.array()
	case p.take("REF_TO"):
		return api.Type{Kind: api.Ref, Name: p.name()}
	case p.beginsName():
		return api.Type{Kind: api.Inst, Name: p.name()}
	}
	return p.timer()
}

// ints reads which numbers there are of INT: all, or those from one to another.
func (p *parser) ints() api.Type {
	if !p.take("(") {
		return api.Type{Kind: api.Int}
	}
	t := api.Type{Kind: api.Range, Lo: p.int()}
	p.expect("..")
	t.Hi = p.int()
	p.expect(")")
	return t
}

// array reads what stands behind ARRAY.
func (p *parser) array() api.Type {
	p.expect("[")
	t := api.Type{Kind: api.Array, Hi: p.number()}
	p.expect("]", "OF", "INT")
	return t
}

// timer reads a function block's word.
func (p *parser) timer() api.Type {
	block := blockOf(p.text())
	if block == 0 {
		p.fail(errSyntax)
		return api.Type{}
	}
	p.next()
	return api.Type{Kind: api.Timer, Lo: block}
}

// blockOf answers which function block a word is: 0, if it is none.
func blockOf(word string) int {
	switch word {
	case "TON":
		return api.TON
	case "TOF":
		return api.TOF
	case "TP":
		return api.TP
	case "CTU":
		return api.CTU
	case "CTD":
		return api.CTD
	case "R_TRIG":
		return api.RTrig
	case "F_TRIG":
		return api.FTrig
	}
	return 0
}
