package rules_test

import (
	"math"
	"slices"
	"strconv"
	"testing"

	"governor/api"
	"governor/rules"
)

// soundBut is a declaration's code; 0, if that is one of those codes.
func soundBut(u api.Unit, d int, codes ...int) int {
	if got := rules.Decl(u, d); !slices.Contains(codes, got) {
		return got
	}
	return api.Fine
}

// coded is a source, and the code of its last declaration.
type coded struct {
	want int
	src  string
}

// lastOf asks for the last declaration of each source that stands behind others.
func lastOf(t *testing.T, ahead string, list []coded) {
	t.Helper()
	for _, x := range list {
		u := read(t, ahead+x.src)
		oddDecl(t, u, len(u.Decls)-1, x.want, x.src)
	}
}

func TestInterface(t *testing.T) {
	lastOf(t, "CLASS A ; END_CLASS ", []coded{
		{api.Fine, "INTERFACE I ; END_INTERFACE"},
		{api.Fine, "INTERFACE I ; METHOD m ( x : INT , y : BOOL , z : REF_TO A ) : INT ; METHOD n ( x : REF_TO I ) : BOOL ; METHOD o ( x : INT ) ; END_INTERFACE"},
		{api.Twice, "INTERFACE I ; METHOD m ( ) ; METHOD m ( ) ; END_INTERFACE"},
		{api.Twice, "INTERFACE I ; METHOD m ( ) ; METHOD n ( ) ; METHOD m ( x : INT ) : INT ; END_INTERFACE"},
		{api.Twice, "INTERFACE I ; METHOD m ( x : INT , x : INT ) ; END_INTERFACE"},
		{api.Twice, "INTERFACE I ; METHOD m ( ) ; METHOD n ( x : INT , y : INT , x : BOOL ) ; END_INTERFACE"},
		{api.Fine, "INTERFACE I ; METHOD x ( x : INT ) ; METHOD I ( A : INT , I : INT ) ; END_INTERFACE"},
	})
	// Of an interface nothing else is asked.
	u := changed(t, func(l []api.Decl) {
		m := &l[faceJ].Methods[0]
		m.Over, m.Abstract, m.Final, m.Body = true, true, true, []api.Stmt{{}}
		m.Vars = []api.Var{{Name: "v", Type: api.Type{Kind: 9}, Init: 9, Dir: 9}, {Name: "v"}}
		m.Params = []api.Var{{Name: "v", Type: api.Type{Kind: api.Int}, Init: 1 << 20, Dir: 9, Slot: 9}}
		l[faceJ].Base, l[faceJ].Faces, l[faceJ].Abstract, l[faceJ].Final = "J", []string{"I", "I", "X"}, true, true
		l[faceJ].Vars, l[faceJ].Body, l[faceJ].Every, l[faceJ].First = m.Vars, m.Body, -1, -1
	})
	oddDecl(t, u, faceJ, api.Fine, "an interface with all that it may not have")
}

func TestBase(t *testing.T) {
	lastOf(t, "CLASS A ; END_CLASS CLASS FINAL F ; END_CLASS CLASS ABSTRACT B ; END_CLASS INTERFACE I ; END_INTERFACE PROGRAM P ; END_PROGRAM TASK T ( INTERVAL 1 , PRIORITY 1 ) : P ; ", []coded{
		{api.Fine, "CLASS X EXTENDS A ; END_CLASS"}, {api.Fine, "CLASS X EXTENDS B ; END_CLASS"}, {api.Fine, "CLASS FINAL X EXTENDS A ; END_CLASS"},
		{api.Base, "CLASS X EXTENDS F ; END_CLASS"}, {api.Base, "CLASS FINAL X EXTENDS F ; END_CLASS"},
		{api.Base, "CLASS X EXTENDS I ; END_CLASS"}, {api.Base, "CLASS X EXTENDS P ; END_CLASS"}, {api.Base, "CLASS X EXTENDS T ; END_CLASS"},
		{api.Base, "CLASS X EXTENDS X ; END_CLASS"}, {api.Base, "CLASS X EXTENDS Z ; END_CLASS"}, {api.Base, "CLASS X EXTENDS a ; END_CLASS"},
		// The first one of a name counts.
		{api.Fine, "PROGRAM A ; END_PROGRAM CLASS X EXTENDS A ; END_CLASS"}, {api.Base, "CLASS P ; END_CLASS CLASS X EXTENDS P ; END_CLASS"},
		{api.Base, "CLASS F ; END_CLASS CLASS X EXTENDS F ; END_CLASS"}, {api.Fine, "CLASS FINAL A ; END_CLASS CLASS X EXTENDS A ; END_CLASS"},
	})
	behind := read(t, "CLASS X EXTENDS Y ; END_CLASS CLASS Y ; END_CLASS CLASS V EXTENDS W ; END_CLASS CLASS W EXTENDS V ; END_CLASS")
	for d, want := range []int{api.Base, api.Fine, api.Base, api.Fine} {
		oddDecl(t, behind, d, want, "a base behind "+strconv.Itoa(d))
	}
	if got := rules.Unit(behind); !slices.Equal(got, []api.Wrong{{Code: api.Base}, {Code: api.Base, At: 2}}) {
		t.Errorf("P8.3: bases behind are %v", got)
	}
	// A name that is empty is no base, though one may have it.
	nameless := api.Unit{Decls: []api.Decl{{Kind: api.Class, Name: "A"}, {Kind: api.Class, Final: true}}}
	oddDecl(t, nameless, 0, api.Fine, "an empty base")
}

func TestFaces(t *testing.T) {
	const ahead = "INTERFACE I ; END_INTERFACE INTERFACE J ; END_INTERFACE CLASS A IMPLEMENTS I ; END_CLASS PROGRAM P ; END_PROGRAM TASK T ( INTERVAL 1 , PRIORITY 1 ) : P ; "
	lastOf(t, ahead, []coded{
		{api.Fine, "CLASS X IMPLEMENTS I ; END_CLASS"}, {api.Fine, "CLASS X IMPLEMENTS J , I ; END_CLASS"},
		// What its base implements it may implement again.
		{api.Fine, "CLASS X EXTENDS A IMPLEMENTS I ; END_CLASS"},
		{api.Face, "CLASS X IMPLEMENTS I , I ; END_CLASS"}, {api.Face, "CLASS X IMPLEMENTS I , J , I ; END_CLASS"},
		{api.Face, "CLASS X IMPLEMENTS A ; END_CLASS"}, {api.Face, "CLASS X IMPLEMENTS P ; END_CLASS"}, {api.Face, "CLASS X IMPLEMENTS T ; END_CLASS"}, {api.Face, "CLASS X IMPLEMENTS X ; END_CLASS"},
		{api.Face, "CLASS X IMPLEMENTS Z ; END_CLASS"}, {api.Face, "CLASS X IMPLEMENTS I , J , Z ; END_CLASS"},
		{api.Fine, "CLASS I ; END_CLASS CLASS X IMPLEMENTS I ; END_CLASS"}, {api.Face, "INTERFACE A ; END_INTERFACE CLASS X IMPLEMENTS A ; END_CLASS"},
	})
	behind := read(t, "CLASS X IMPLEMENTS K ; END_CLASS INTERFACE K ; END_INTERFACE")
	oddDecl(t, behind, 0, api.Fine, "an interface behind its class")
	nameless := api.Unit{Decls: []api.Decl{{Kind: api.Class, Name: "A", Faces: []string{""}}, {Kind: api.Interface}}}
	oddDecl(t, nameless, 0, api.Fine, "an interface of an empty name")
	nameless.Decls[1].Name = "I"
	oddDecl(t, nameless, 0, api.Face, "no interface of an empty name")
}

// TestDir has a Dir at each place of a class, and of a program.
func TestDir(t *testing.T) {
	for _, dir := range []int{1, 2, 3, -1, 1 << 32, math.MaxInt, math.MinInt} {
		for place, list := range spots() {
			for _, spot := range list {
				u := changed(t)
				v := spot(u.Decls)
				v.Type, v.Init, v.Dir, v.Slot = api.Type{Kind: api.Int}, 0, dir, 7
				d := owner(u.Decls, v)
				want := api.Kind
				if u.Decls[d].Kind == api.Interface || place == held && (dir == 1 || dir == 2) {
					want = api.Fine
				}
				if got := soundBut(u, d, api.Over, api.Typing); got != want {
					t.Errorf("P8.2: Dir %d at place %d of %s is %d, not %d", dir, place, u.Decls[d].Name, got, want)
				}
			}
		}
	}
	for kind, want := range map[api.Type]int{
		{Kind: api.Int}: api.Fine, {Kind: api.Bool}: api.Fine, {Kind: api.Range, Hi: 5}: api.Kind, {Kind: api.Array}: api.Kind,
		{Kind: api.Ref, Name: "A"}: api.Kind, {Kind: api.Inst, Name: "B"}: api.Kind, {Kind: api.Timer, Lo: 1}: api.Kind,
	} {
		for _, dir := range []int{1, 2} {
			u := changed(t, func(l []api.Decl) { l[programP].Vars[5] = api.Var{Name: "n", Type: kind, Dir: dir, Slot: 7} })
			oddDecl(t, u, programP, want, "a linked variable of kind "+strconv.Itoa(kind.Kind))
		}
	}
}

func TestNamesOfClass(t *testing.T) {
	lastOf(t, "CLASS A ; VAR f : INT ; VAR g : INT ; METHOD m ( p : INT ) ; VAR v : INT ; END_METHOD END_CLASS CLASS B EXTENDS A ; VAR h : INT ; END_CLASS ", []coded{
		{api.Fine, "CLASS X EXTENDS B ; VAR k : INT ; VAR m : INT ; VAR p : INT ; VAR v : INT ; METHOD n ( x : INT , y : INT ) ; VAR z : INT ; END_METHOD METHOD h ( x : INT ) ; VAR y : INT ; END_METHOD END_CLASS"},
		// Two fields: its own, or its bases'.
		{api.Twice, "CLASS X ; VAR k : INT ; VAR k : INT ; END_CLASS"}, {api.Twice, "CLASS X ; VAR k : INT ; VAR l : INT ; VAR k : BOOL ; END_CLASS"},
		{api.Twice, "CLASS X EXTENDS B ; VAR h : INT ; END_CLASS"}, {api.Twice, "CLASS X EXTENDS B ; VAR k : INT ; VAR f : BOOL ; END_CLASS"}, {api.Fine, "CLASS X ; VAR h : INT ; VAR f : BOOL ; END_CLASS"},
		{api.Twice, "CLASS X EXTENDS A ; VAR g : REF_TO X ; END_CLASS"}, {api.Fine, "CLASS X EXTENDS A ; VAR h : REF_TO X ; END_CLASS"},
		// Two methods.
		{api.Twice, "CLASS X ; METHOD n ( ) ; END_METHOD METHOD n ( ) ; END_METHOD END_CLASS"}, {api.Twice, "CLASS X ; METHOD n ( ) ; END_METHOD METHOD o ( ) ; END_METHOD METHOD n ( x : INT ) : INT ; END_METHOD END_CLASS"},
		// Two of what one method sees.
		{api.Twice, "CLASS X ; METHOD n ( x : INT , x : INT ) ; END_METHOD END_CLASS"}, {api.Twice, "CLASS X ; METHOD n ( x : INT ) ; VAR x : INT ; END_METHOD END_CLASS"}, {api.Twice, "CLASS X ; METHOD n ( ) ; VAR x : INT ; VAR x : INT ; END_METHOD END_CLASS"},
		{api.Twice, "CLASS X EXTENDS B ; METHOD n ( f : INT ) ; END_METHOD END_CLASS"}, {api.Twice, "CLASS X EXTENDS B ; METHOD n ( ) ; VAR h : INT ; END_METHOD END_CLASS"}, {api.Twice, "CLASS X ; VAR k : INT ; METHOD n ( k : INT ) ; END_METHOD END_CLASS"},
		{api.Twice, "CLASS X ; METHOD n ( ) ; END_METHOD METHOD o ( x : INT , y : INT , x : INT ) ; END_METHOD END_CLASS"},
		{api.Twice, "CLASS ABSTRACT X EXTENDS A ; METHOD ABSTRACT n ( g : INT ) ; END_METHOD END_CLASS"},
		{api.Fine, "CLASS X ; METHOD x ( x : INT ) ; VAR X : INT ; END_METHOD METHOD y ( x : INT ) ; VAR X : INT ; END_METHOD END_CLASS"},
	})
}

func TestAbstract(t *testing.T) {
	const ahead = "CLASS ABSTRACT A ; METHOD ABSTRACT bare ( ) ; END_METHOD METHOD full ( ) ; END_METHOD END_CLASS " +
		"CLASS ABSTRACT B EXTENDS A ; METHOD OVERRIDE ABSTRACT full ( ) ; END_METHOD END_CLASS " +
		"CLASS ABSTRACT C EXTENDS A ; METHOD OVERRIDE bare ( ) ; END_METHOD METHOD more ( ) ; END_METHOD END_CLASS "
	const bare, full = "METHOD OVERRIDE bare ( ) ; END_METHOD ", "METHOD OVERRIDE full ( ) ; END_METHOD "
	lastOf(t, ahead, []coded{
		{api.Fine, "CLASS ABSTRACT X ; END_CLASS"}, {api.Fine, "CLASS FINAL X ; END_CLASS"}, {api.Abstract, "CLASS ABSTRACT FINAL X ; END_CLASS"},
		{api.Fine, "CLASS ABSTRACT X ; METHOD ABSTRACT m ( x : INT ) : INT ; END_METHOD METHOD FINAL n ( ) ; END_METHOD END_CLASS"},
		{api.Abstract, "CLASS ABSTRACT X ; METHOD ABSTRACT FINAL m ( ) ; END_METHOD END_CLASS"},
		{api.Abstract, "CLASS ABSTRACT X ; METHOD n ( ) ; END_METHOD METHOD ABSTRACT FINAL m ( ) ; END_METHOD END_CLASS"},
		{api.Abstract, "CLASS ABSTRACT X ; METHOD ABSTRACT m ( ) ; VAR x : INT ; END_METHOD END_CLASS"},
		{api.Abstract, "CLASS ABSTRACT X ; METHOD ABSTRACT m ( ) ; RETURN ; END_METHOD END_CLASS"},
		{api.Abstract, "CLASS X ; METHOD ABSTRACT m ( ) ; END_METHOD END_CLASS"},
		{api.Abstract, "CLASS X ; METHOD n ( ) ; END_METHOD METHOD ABSTRACT m ( ) ; END_METHOD END_CLASS"},
		// Abstract ones of its bases: those that it finds, not those that are overridden on the way.
		{api.Abstract, "CLASS X EXTENDS A ; END_CLASS"}, {api.Fine, "CLASS ABSTRACT X EXTENDS A ; END_CLASS"}, {api.Fine, "CLASS X EXTENDS A ; " + bare + "END_CLASS"},
		{api.Abstract, "CLASS X EXTENDS A ; " + full + "END_CLASS"}, {api.Fine, "CLASS X EXTENDS C ; END_CLASS"},
		{api.Abstract, "CLASS X EXTENDS B ; END_CLASS"}, {api.Abstract, "CLASS X EXTENDS B ; " + bare + "END_CLASS"}, {api.Abstract, "CLASS X EXTENDS B ; " + full + "END_CLASS"},
		{api.Fine, "CLASS X EXTENDS B ; " + bare + full + "END_CLASS"}, {api.Fine, "CLASS ABSTRACT X EXTENDS C ; METHOD OVERRIDE ABSTRACT bare ( ) ; END_METHOD END_CLASS"},
		{api.Abstract, "CLASS X EXTENDS C ; METHOD OVERRIDE ABSTRACT bare ( ) ; END_METHOD END_CLASS"},
	})
}

func TestOver(t *testing.T) {
	const ahead = "CLASS A ; METHOD m ( x : INT ) : INT ; RETURN x ; END_METHOD METHOD FINAL f ( ) ; END_METHOD METHOD n ( ) ; END_METHOD END_CLASS " +
		"CLASS B EXTENDS A ; METHOD OVERRIDE FINAL n ( ) ; END_METHOD METHOD b ( r : REF_TO A ) ; END_METHOD END_CLASS "
	method := func(head string) string {
		return "CLASS X EXTENDS B ; METHOD other ( ) ; END_METHOD METHOD " + head + " ; RETURN 1 ; END_METHOD END_CLASS"
	}
	lastOf(t, ahead, []coded{
		{api.Fine, method("OVERRIDE m ( x : INT ) : INT")}, {api.Fine, method("OVERRIDE m ( y : INT ) : INT")}, {api.Fine, method("OVERRIDE FINAL m ( x : INT ) : INT")}, {api.Fine, method("new ( x : INT ) : INT")},
		{api.Over, method("m ( x : INT ) : INT")}, {api.Over, method("OVERRIDE new ( ) : INT")}, {api.Over, method("FINAL m ( x : INT ) : INT")},
		{api.Over, method("OVERRIDE m ( ) : INT")}, {api.Over, method("OVERRIDE m ( x : BOOL ) : INT")}, {api.Over, method("OVERRIDE m ( x : INT , y : INT ) : INT")}, {api.Over, method("OVERRIDE m ( x : INT )")}, {api.Over, method("OVERRIDE m ( x : INT ) : BOOL")},
		{api.Over, method("OVERRIDE f ( )")}, {api.Over, method("f ( )")}, {api.Over, method("OVERRIDE n ( )")}, {api.Over, method("n ( )")}, {api.Over, method("OVERRIDE b ( r : REF_TO B )")}, {api.Over, method("b ( r : REF_TO A )")},
		// What is found is the nearest one: B has a final one.
		{api.Fine, "CLASS X EXTENDS A ; METHOD OVERRIDE n ( ) ; END_METHOD END_CLASS"}, {api.Fine, "CLASS X EXTENDS B ; METHOD OVERRIDE b ( r : REF_TO A ) ; END_METHOD END_CLASS"},
		// Without a base there is nothing to override, and nothing is.
		{api.Fine, "CLASS X ; METHOD m ( ) ; END_METHOD METHOD f ( ) ; END_METHOD END_CLASS"}, {api.Over, "CLASS X ; METHOD m ( ) ; END_METHOD METHOD OVERRIDE f ( ) ; END_METHOD END_CLASS"},
		// A field is no method.
		{api.Over, "CLASS C ; VAR v : INT ; END_CLASS CLASS X EXTENDS C ; METHOD OVERRIDE v ( ) ; END_METHOD END_CLASS"},
		// An interface's method is not overridden.
		{api.Over, "INTERFACE I ; METHOD i ( ) ; END_INTERFACE CLASS X IMPLEMENTS I ; METHOD OVERRIDE i ( ) ; END_METHOD END_CLASS"},
		{api.Fine, "INTERFACE I ; METHOD i ( ) ; END_INTERFACE CLASS X IMPLEMENTS I ; METHOD i ( ) ; END_METHOD END_CLASS"},
	})
	// Bases that come back: what the ahead one finds in them is found in it.
	ring := read(t, "CLASS A EXTENDS B ; END_CLASS CLASS B EXTENDS A ; METHOD m ( ) ; END_METHOD END_CLASS")
	oddDecl(t, ring, 1, api.Over, "a method in a ring")
	ring.Decls[1].Methods[0].Over = true
	oddDecl(t, ring, 1, api.Fine, "an overriding method in a ring")
	// A class of an empty name is the base of one without.
	nameless := api.Unit{Decls: []api.Decl{{Kind: api.Class, Name: "A", Methods: methods(1)}, {Kind: api.Class, Methods: methods(1)}}}
	oddDecl(t, nameless, 0, api.Over, "a method of a base of an empty name")
}

func TestLackingFace(t *testing.T) {
	const ahead = "INTERFACE I ; METHOD m ( x : INT ) : INT ; METHOD n ( ) ; END_INTERFACE INTERFACE J ; METHOD o ( r : REF_TO I ) : BOOL ; END_INTERFACE INTERFACE E ; END_INTERFACE " +
		"CLASS A ; METHOD m ( y : INT ) : INT ; RETURN y ; END_METHOD METHOD n ( ) ; END_METHOD END_CLASS " +
		"CLASS ABSTRACT B ; METHOD ABSTRACT o ( r : REF_TO I ) : BOOL ; END_METHOD END_CLASS CLASS D EXTENDS A IMPLEMENTS I ; END_CLASS "
	const m, n, o = "METHOD m ( x : INT ) : INT ; RETURN x ; END_METHOD ", "METHOD n ( ) ; END_METHOD ", "METHOD o ( x : REF_TO I ) : BOOL ; RETURN TRUE ; END_METHOD "
	lastOf(t, ahead, []coded{
		{api.Fine, "CLASS X IMPLEMENTS I ; " + m + n + "END_CLASS"}, {api.Fine, "CLASS X IMPLEMENTS I , J ; " + o + n + m + "END_CLASS"}, {api.Fine, "CLASS X IMPLEMENTS E ; END_CLASS"},
		{api.Face, "CLASS X IMPLEMENTS I ; " + m + "END_CLASS"}, {api.Face, "CLASS X IMPLEMENTS I ; " + n + "END_CLASS"}, {api.Face, "CLASS X IMPLEMENTS I , J ; " + m + n + "END_CLASS"}, {api.Face, "CLASS X IMPLEMENTS E , J ; END_CLASS"},
		{api.Face, "CLASS X IMPLEMENTS J ; METHOD o ( x : REF_TO J ) : BOOL ; RETURN TRUE ; END_METHOD END_CLASS"}, {api.Face, "CLASS X IMPLEMENTS J ; METHOD o ( x : REF_TO I ) : INT ; RETURN 1 ; END_METHOD END_CLASS"},
		{api.Face, "CLASS X IMPLEMENTS J ; METHOD o ( ) : BOOL ; RETURN TRUE ; END_METHOD END_CLASS"}, {api.Face, "CLASS X IMPLEMENTS J ; METHOD o ( x : REF_TO I ) ; END_METHOD END_CLASS"},
		// An abstract class has them, too.
		{api.Face, "CLASS ABSTRACT X IMPLEMENTS J ; END_CLASS"}, {api.Fine, "CLASS ABSTRACT X IMPLEMENTS J ; METHOD ABSTRACT o ( r : REF_TO I ) : BOOL ; END_METHOD END_CLASS"}, {api.Fine, "CLASS ABSTRACT X EXTENDS B IMPLEMENTS J ; END_CLASS"},
		// Its bases' methods, its bases' interfaces.
		{api.Fine, "CLASS X EXTENDS A IMPLEMENTS I ; END_CLASS"}, {api.Fine, "CLASS X EXTENDS D ; END_CLASS"}, {api.Face, "CLASS X EXTENDS D IMPLEMENTS J ; END_CLASS"}, {api.Fine, "CLASS X EXTENDS D IMPLEMENTS J , I ; " + o + "END_CLASS"},
		// One that its base lacks it lacks, too.
		{api.Face, "CLASS Y IMPLEMENTS J ; END_CLASS CLASS X EXTENDS Y ; END_CLASS"}, {api.Fine, "CLASS Y IMPLEMENTS J ; END_CLASS CLASS X EXTENDS Y ; " + o + "END_CLASS"},
	})
}

func TestBodies(t *testing.T) {
	const ahead = "CLASS A ; VAR f : INT ; END_CLASS "
	lastOf(t, ahead, []coded{
		{api.Fine, "CLASS X EXTENDS A ; METHOD m ( p : INT ) ; VAR v : INT ; f := p + v ; END_METHOD END_CLASS"},
		{api.Unknown, "CLASS X EXTENDS A ; METHOD m ( p : INT ) ; g := p ; END_METHOD END_CLASS"}, {api.Typing, "CLASS X EXTENDS A ; METHOD m ( p : BOOL ) ; f := p ; END_METHOD END_CLASS"},
		{api.Call, "CLASS X EXTENDS A ; METHOD m ( ) ; SUPER . m ( ) ; END_METHOD END_CLASS"}, {api.Twice, "CLASS X EXTENDS A ; METHOD m ( ) ; CASE f OF 1 , 1 : END_CASE ; END_METHOD END_CLASS"},
		// The first method of those that are wrong.
		{api.Unknown, "CLASS X EXTENDS A ; METHOD l ( ) ; END_METHOD METHOD m ( ) ; g := 1 ; END_METHOD METHOD n ( ) ; EXIT ; END_METHOD END_CLASS"},
		{api.Typing, "CLASS X EXTENDS A ; METHOD l ( ) ; END_METHOD METHOD n ( ) ; EXIT ; END_METHOD METHOD m ( ) ; g := 1 ; END_METHOD END_CLASS"},
		{api.Fine, "PROGRAM X ; VAR x : INT ; x := x + 1 ; END_PROGRAM"}, {api.Unknown, "PROGRAM X ; VAR x : INT ; x := f ; END_PROGRAM"}, {api.Typing, "PROGRAM X ; VAR x : INT ; x := TRUE ; END_PROGRAM"},
		{api.Call, "PROGRAM X ; THIS . m ( ) ; END_PROGRAM"}, {api.Typing, "PROGRAM X ; RETURN 1 ; END_PROGRAM"},
	})
	// What a class has no body for, and what methods a program has, nobody reads.
	u := changed(t, func(l []api.Decl) {
		l[classB].Body = []api.Stmt{{}}
		l[programP].Methods = []api.Method{{Name: "m", Result: api.Type{Kind: 9}, Abstract: true, Final: true, Over: true, Body: []api.Stmt{{}}}, {Name: "m"}}
		l[programP].Base, l[programP].Faces, l[programP].Abstract, l[programP].Final = "Z", []string{"Z", "Z"}, true, true
		l[taskT].Vars, l[taskT].Body, l[taskT].Faces = []api.Var{{Name: "v", Type: api.Type{Kind: 9}, Dir: 9}, {Name: "v"}}, []api.Stmt{{}}, []string{"Z", "Z"}
		l[taskT].Methods = l[programP].Methods
	})
	for d := range u.Decls {
		oddDecl(t, u, d, api.Fine, "more than "+u.Decls[d].Name+" may have")
	}
}

func TestSlot(t *testing.T) {
	const ahead = "CLASS A ; END_CLASS PROGRAM P ; VAR a : INT AT OUT 0 ; VAR b : BOOL AT OUT 3 ; VAR c : INT AT IN 5 ; END_PROGRAM "
	variable := func(list ...string) string {
		src := "PROGRAM X ; "
		for i, link := range list {
			src += "VAR v" + strconv.Itoa(i) + " : INT " + link + " ; "
		}
		return src + "END_PROGRAM"
	}
	lastOf(t, ahead, []coded{
		{api.Fine, variable("AT IN 0", "AT IN 7", "AT OUT 1", "AT OUT 7", "")}, {api.Slot, variable("AT IN 8")}, {api.Slot, variable("AT OUT 8")}, {api.Slot, variable("AT OUT 1", "AT IN 9")}, {api.Slot, variable("AT IN 1", "AT OUT 32767")},
		// An input may be read by many.
		{api.Fine, variable("AT IN 5", "AT IN 5", "AT IN 0")}, {api.Fine, variable("AT OUT 5", "AT IN 6", "AT IN 3")},
		{api.Slot, variable("AT OUT 1", "AT OUT 1")}, {api.Slot, variable("AT OUT 1", "AT OUT 2", "AT IN 1", "AT OUT 1")}, {api.Fine, variable("AT IN 1", "AT OUT 1")},
		{api.Slot, variable("AT OUT 0")}, {api.Slot, variable("AT OUT 3")}, {api.Slot, variable("", "AT OUT 1", "AT OUT 3")},
		// What is behind, or no program's, does not count.
		{api.Fine, "PROGRAM Y ; VAR v : INT AT OUT 1 ; END_PROGRAM " + variable("AT OUT 2")}, {api.Slot, "PROGRAM Y ; VAR v : INT AT OUT 1 ; END_PROGRAM " + variable("AT OUT 1")},
	})
	u := read(t, ahead+variable("AT OUT 0"))
	oddDecl(t, u, 1, api.Fine, "an output that one behind has, too")
	for _, kind := range []int{0, api.Interface, api.Class, api.TaskOf, 9} {
		u.Decls[1].Kind = kind
		oddDecl(t, u, 2, api.Fine, "an output that no program has")
	}
	u = read(t, ahead+variable("AT OUT 1"))
	for _, slot := range []int{-1, 8, 1 << 32, math.MaxInt, math.MinInt} {
		u.Decls[2].Vars[0].Slot = slot
		for dir, want := range []int{api.Fine, api.Slot, api.Slot} {
			u.Decls[2].Vars[0].Dir = dir
			oddDecl(t, u, 2, want, "slot "+strconv.Itoa(slot))
		}
	}
	// An output of a program ahead counts, whatever is wrong with that one; one of no Dir 2 does not.
	u = read(t, "PROGRAM P ; VAR a : INT AT OUT 0 ; VAR b : INT ; END_PROGRAM PROGRAM X ; VAR v : INT AT OUT 0 ; END_PROGRAM")
	u.Decls[0].Vars[0].Type.Kind, u.Decls[0].Vars[1] = 9, u.Decls[0].Vars[0]
	oddDecl(t, u, 1, api.Slot, "an output of a program that is wrong")
	for _, dir := range []int{0, 1, 3, -1} {
		u.Decls[0].Vars[0].Dir, u.Decls[0].Vars[1].Dir = dir, dir
		oddDecl(t, u, 1, api.Fine, "what is no output, of Dir "+strconv.Itoa(dir))
	}
}

func TestNamesOfProgram(t *testing.T) {
	lastOf(t, "CLASS A ; END_CLASS ", []coded{
		{api.Fine, "PROGRAM X ; VAR a : INT ; VAR A : A ; VAR X : INT ; END_PROGRAM"},
		{api.Twice, "PROGRAM X ; VAR a : INT ; VAR a : INT ; END_PROGRAM"}, {api.Twice, "PROGRAM X ; VAR a : INT ; VAR b : INT ; VAR a : BOOL ; END_PROGRAM"},
	})
}

func TestTask(t *testing.T) {
	const ahead = "PROGRAM P ; END_PROGRAM CLASS A ; END_CLASS INTERFACE I ; END_INTERFACE TASK T ( INTERVAL 5 , PRIORITY 5 ) : P ; PROGRAM Q ; END_PROGRAM "
	lastOf(t, ahead, []coded{
		{api.Fine, "TASK X ( INTERVAL 1 , PRIORITY 0 ) : Q ;"}, {api.Fine, "TASK X ( INTERVAL 100 , PRIORITY 9 ) : Q ;"}, {api.Fine, "TASK X ( INTERVAL 5 , PRIORITY 5 ) : Q ;"},
		{api.Task, "TASK X ( INTERVAL 0 , PRIORITY 0 ) : Q ;"}, {api.Task, "TASK X ( INTERVAL 101 , PRIORITY 0 ) : Q ;"}, {api.Task, "TASK X ( INTERVAL 1 , PRIORITY 10 ) : Q ;"},
		{api.Task, "TASK X ( INTERVAL 1 , PRIORITY 0 ) : A ;"}, {api.Task, "TASK X ( INTERVAL 1 , PRIORITY 0 ) : I ;"}, {api.Task, "TASK X ( INTERVAL 1 , PRIORITY 0 ) : T ;"}, {api.Task, "TASK X ( INTERVAL 1 , PRIORITY 0 ) : X ;"},
		{api.Task, "TASK X ( INTERVAL 1 , PRIORITY 0 ) : Z ;"}, {api.Task, "TASK X ( INTERVAL 1 , PRIORITY 0 ) : p ;"},
		// One task a program.
		{api.Task, "TASK X ( INTERVAL 1 , PRIORITY 0 ) : P ;"}, {api.Task, "TASK U ( INTERVAL 1 , PRIORITY 0 ) : Q ; TASK X ( INTERVAL 2 , PRIORITY 0 ) : Q ;"},
		{api.Fine, "TASK U ( INTERVAL 1 , PRIORITY 0 ) : R ; TASK X ( INTERVAL 2 , PRIORITY 0 ) : Q ;"},
		// The first one of a name counts.
		{api.Task, "PROGRAM A ; END_PROGRAM TASK X ( INTERVAL 1 , PRIORITY 0 ) : A ;"}, {api.Fine, "CLASS Q ; END_CLASS TASK X ( INTERVAL 1 , PRIORITY 0 ) : Q ;"},
	})
	behind := read(t, "TASK T ( INTERVAL 1 , PRIORITY 0 ) : P ; PROGRAM P ; END_PROGRAM TASK U ( INTERVAL 1 , PRIORITY 0 ) : P ; CLASS C EXTENDS P ; END_CLASS TASK V ( INTERVAL 1 , PRIORITY 0 ) : C ;")
	for d, want := range []int{api.Task, api.Fine, api.Task, api.Base, api.Task} {
		oddDecl(t, behind, d, want, "a task ahead of its program, or behind a task of it: "+strconv.Itoa(d))
	}
	// A base of what is no task does not count.
	behind.Decls[0].Kind, behind.Decls[0].Name = api.Interface, "I"
	oddDecl(t, behind, 2, api.Fine, "a task behind no task")
	u := read(t, ahead+"TASK X ( INTERVAL 1 , PRIORITY 0 ) : Q ;")
	for _, n := range []int{-1, -100, 1 << 32, 1<<32 + 1, math.MaxInt, math.MinInt} {
		u.Decls[5].Every, u.Decls[5].First = n, 0
		oddDecl(t, u, 5, api.Task, "interval "+strconv.Itoa(n))
		u.Decls[5].Every, u.Decls[5].First = 1, n
		oddDecl(t, u, 5, api.Task, "priority "+strconv.Itoa(n))
	}
	for n := 1; n <= api.MaxEvery; n++ {
		u.Decls[5].Every, u.Decls[5].First = n, n%10
		oddDecl(t, u, 5, api.Fine, "interval "+strconv.Itoa(n))
	}
}
