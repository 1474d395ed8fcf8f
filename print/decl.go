package print

import "governor/api"

// blocks are the function blocks' words, each at its number.
var blocks = [...]string{
	api.TON: "TON", api.TOF: "TOF", api.TP: "TP", api.CTU: "CTU", api.CTD: "CTD",
	api.RTrig: "R_TRIG", api.FTrig: "F_TRIG",
}

// blockWord answers a function block's word.
func blockWord(block int) string {
	if block < api.TON || block > api.FTrig {
		return none
	}
	return blocks[block]
}

// decl writes a declaration.
func (l *line) decl(d api.Decl) {
	switch d.Kind {
	case api.Interface:
		l.face(d)
	case api.Class:
		l.class(d)
	case api.Program:
		l.program(d)
	case api.TaskOf:
		l.task(d)
	default:
		l.put(none)
	}
}

// face writes an interface.
func (l *line) face(d api.Decl) {
	l.put("INTERFACE", d.Name, ";")
	for _, m := range d.Methods {
		l.put("METHOD")
		l.signature(m)
	}
	l.put("END_INTERFACE")
}

// class writes a class.
func (l *line) class(d api.Decl) {
	l.put("CLASS")
	l.flag(d.Abstract, "ABSTRACT")
	l.flag(d.Final, "FINAL")
	l.put(d.Name)
	if d.Base != "" {
		l.put("EXTENDS", d.Base)
	}
	l.flag(len(d.Faces) > 0, "IMPLEMENTS")
	parted(l, d.Faces, func(face string) { l.put(face) })
	l.put(";")
	l.vars(d.Vars)
	for _, m := range d.Methods {
		l.method(m)
	}
	l.put("END_CLASS")
}

// program writes a program.
func (l *line) program(d api.Decl) {
	l.put("PROGRAM", d.Name, ";")
	l.vars(d.Vars)
	l.list(d.Body)
	l.put("END_PROGRAM")
}

// task writes a task.
func (l *line) task(d api.Decl) {
	l.put("TASK", d.Name, "(", "INTERVAL")
	l.int(d.Every)
	l.put(",", "PRIORITY")
	l.int(d.First)
	l.put(")", ":", d.Base, ";")
}

// method writes a class's method.
func (l *line) method(m api.Method) {
	l.put("METHOD")
	l.flag(m.Over, "OVERRIDE")
	l.flag(m.Abstract, "ABSTRACT")
	l.flag(m.Final, "FINAL")
	l.signature(m)
	l.vars(m.Vars)
	l.list(m.Body)
	l.put("END_METHOD")
}

// signature writes a method's name, parameters and result.
func (l *line) signature(m api.Method) {
	l.put(m.Name, "(")
	parted(l, m.Params, l.param)
	l.put(")")
	if m.Result.Kind != api.None {
		l.put(":")
		l.typeOf(m.Result)
	}
	l.put(";")
}

// vars writes the variables of a declaration, or of a method.
func (l *line) vars(vars []api.Var) {
	for _, v := range vars {
		l.variable(v)
	}
}

// variable writes a variable: what it is at first only where that isn't 0.
func (l *line) variable(v api.Var) {
	l.put("VAR")
	l.param(v)
	if v.Init != 0 {
		l.put(":=")
		l.int(v.Init)
	}
	switch v.Dir {
	case 1:
		l.put("AT", "IN")
		l.int(v.Slot)
	case 2:
		l.put("AT", "OUT")
		l.int(v.Slot)
	}
	l.put(";")
}

// param writes a name and its type.
func (l *line) param(v api.Var) {
	l.put(v.Name, ":")
	l.typeOf(v.Type)
}

// typeOf writes a type.
func (l *line) typeOf(t api.Type) {
	switch t.Kind {
	case api.Int:
		l.put("INT")
	case api.Bool:
		l.put("BOOL")
	case api.Range:
		l.put("INT", "(")
		l.int(t.Lo)
		l.put("..")
		l.int(t.Hi)
		l.put(")")
	case api.Array:
		l.put("ARRAY", "[")
		l.int(t.Hi)
		l.put("]", "OF", "INT")
	case api.Ref:
		l.put("REF_TO")
		fallthrough
	case api.Inst:
		l.put(t.Name)
	case api.Timer:
		l.put(blockWord(t.Lo))
	default:
		l.put(none)
	}
}
