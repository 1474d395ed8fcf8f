package syntax_test

import "strings"

// grammar is the chapter's forms, one way of each a line: what is in lower case
// is another form, a name or a number, all else stands there as it is.
const grammar = `
unit =
unit = unit decl
decl = INTERFACE name ; signatures END_INTERFACE
decl = CLASS mayAbstract mayFinal name mayExtend mayImplement ; vars methods END_CLASS
decl = PROGRAM name ; vars list END_PROGRAM
decl = TASK name ( INTERVAL number , PRIORITY number ) : name ;
signatures =
signatures = signatures METHOD name ( params ) mayResult ;
mayAbstract =
mayAbstract = ABSTRACT
mayFinal =
mayFinal = FINAL
mayOver =
mayOver = OVERRIDE
mayExtend =
mayExtend = EXTENDS name
mayImplement =
mayImplement = IMPLEMENTS names
names = name
names = names , name
methods =
methods = methods method
method = METHOD mayOver mayAbstract mayFinal name ( params ) mayResult ; vars list END_METHOD
mayResult =
mayResult = : type
vars =
vars = vars VAR name : type mayInit maySlot ;
mayInit =
mayInit = := int
maySlot =
maySlot = AT IN number
maySlot = AT OUT number
params =
params = someParams
someParams = name : type
someParams = someParams , name : type
type = INT
type = INT ( int .. int )
type = BOOL
type = ARRAY [ number ] OF INT
type = REF_TO name
type = name
type = TON
type = TOF
type = TP
type = CTU
type = CTD
type = R_TRIG
type = F_TRIG
int = number
int = - number
list =
list = list stmt
stmt = name := expr ;
stmt = name [ expr ] := expr ;
stmt = name ?= expr ;
stmt = invoke ;
stmt = IF expr THEN list elsifs mayElse END_IF ;
stmt = CASE expr OF cases mayElse END_CASE ;
stmt = WHILE expr DO list END_WHILE ;
stmt = FOR name := expr TO expr BY int DO list END_FOR ;
stmt = RETURN ;
stmt = RETURN expr ;
stmt = EXIT ;
stmt = STEP name ( expr , expr ) ;
elsifs =
elsifs = elsifs ELSIF expr THEN list
mayElse =
mayElse = ELSE list
cases =
cases = cases ints : list
ints = int
ints = ints , int
expr = - operand
expr = NOT operand
expr = operand
expr = operand op operand
op = +
op = -
op = *
op = /
op = MOD
op = =
op = <>
op = <
op = <=
op = >
op = >=
op = AND
op = OR
op = XOR
operand = number
operand = TRUE
operand = FALSE
operand = NULL
operand = name
operand = name [ expr ]
operand = invoke
operand = REF ( name )
operand = DONE ( name )
operand = COUNT ( name )
operand = AS name ( expr )
operand = ( expr )
invoke = name . name ( args )
invoke = THIS . name ( args )
invoke = SUPER . name ( args )
args =
args = someArgs
someArgs = expr
someArgs = someArgs , expr
`

// ways are the ways of each form: what stands there, one behind another.
var ways = func() map[string][][]string {
	all := map[string][][]string{}
	for _, line := range strings.Split(strings.TrimSpace(grammar), "\n") {
		fields := strings.Fields(line)
		all[fields[0]] = append(all[fields[0]], fields[2:])
	}
	return all
}()

// partial is a way of a form that was begun at a token, and how much of it stands there.
type partial struct {
	form        string
	way, behind int
	from        int
}

// expected is what a partial goes on with: "" at its end.
func (x partial) expected() string {
	if way := ways[x.form][x.way]; x.behind < len(way) {
		return way[x.behind]
	}
	return ""
}

func (x partial) onward() partial {
	x.behind++
	return x
}

// set is all that is open ahead of a token, in order, each once.
type set struct {
	list []partial
	met  map[partial]bool
}

func (s *set) add(x partial) {
	if s.met == nil {
		s.met = map[partial]bool{}
	}
	if !s.met[x] {
		s.met[x] = true
		s.list = append(s.list, x)
	}
}

// close adds what begins, and what goes on behind what ended: forms that may be
// empty go on at once, too.
func (s *set) close(sets []set, here int) {
	for i := 0; i < len(s.list); i++ {
		x := s.list[i]
		wanted := x.expected()
		if wanted == "" {
			origin := s
			if x.from != here {
				origin = &sets[x.from]
			}
			for j := 0; j < len(origin.list); j++ {
				if y := origin.list[j]; y.expected() == x.form {
					s.add(y.onward())
				}
			}
			continue
		}
		for way := range ways[wanted] {
			s.add(partial{form: wanted, way: way, from: here})
			if len(ways[wanted][way]) == 0 {
				s.add(x.onward())
			}
		}
	}
}

// open answers what is open ahead of each of the tokens, and behind the last one:
// nothing, behind one with which nothing of that form could go on.
func open(form string, tokens []string) []set {
	sets := make([]set, len(tokens)+1)
	for way := range ways[form] {
		sets[0].add(partial{form: form, way: way})
	}
	sets[0].close(sets, 0)
	for i, token := range tokens {
		for _, x := range sets[i].list {
			if x.expected() == sort(token) {
				sets[i+1].add(x.onward())
			}
		}
		sets[i+1].close(sets, i+1)
	}
	return sets
}

// stuck answers the first of the tokens with which nothing of that form could go
// on, and true; or how many they are, and whether they end too early. Names and
// numbers are told by their first byte.
func stuck(form string, tokens []string) (int, bool) {
	sets := open(form, tokens)
	for i := range tokens {
		if len(sets[i+1].list) == 0 {
			return i, true
		}
	}
	for _, x := range sets[len(tokens)].list {
		if x.form == form && x.from == 0 && x.expected() == "" {
			return len(tokens), false
		}
	}
	return len(tokens), true
}

// goOn answers all with which something of that form could go on behind the tokens.
func goOn(form string, tokens []string) map[string]bool {
	going := map[string]bool{}
	for _, x := range open(form, tokens)[len(tokens)].list {
		going[x.expected()] = true
	}
	return going
}

// sort tells names and numbers from what stands in the grammar as it is. The
// names of the tests begin with a letter in lower case.
func sort(token string) string {
	switch c := token[0]; {
	case 'a' <= c && c <= 'z':
		return "name"
	case '0' <= c && c <= '9':
		return "number"
	}
	return token
}
