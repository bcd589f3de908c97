package tests

import (
	"fmt"
	"math"
	"math/rand/v2"
	"slices"
	"strings"
	"testing"

	"loop.example/g00809/impl"
)

func numberNode(n int) impl.Node {
	return impl.Node{Op: 1, Number: n}
}

func nameNode(name string) impl.Node {
	return impl.Node{Op: 2, Name: name}
}

func negateNode(operand int) impl.Node {
	return impl.Node{Op: 3, Args: []int{operand}}
}

// binaryNode has the operation of one of the symbols + - * /.
func binaryNode(symbol string, left, right int) impl.Node {
	return impl.Node{Op: 4 + strings.Index("+-*/", symbol), Args: []int{left, right}}
}

func callNode(name string, args ...int) impl.Node {
	return impl.Node{Op: 8, Name: name, Args: args}
}

func nodeList(l ...impl.Node) []impl.Node {
	return l
}

func assign(name string, root int) impl.Assignment {
	return impl.Assignment{Name: name, Root: root}
}

func programOf(nodes []impl.Node, assignments ...impl.Assignment) impl.Program {
	return impl.Program{Nodes: nodes, Assignments: assignments}
}

func programCopy(p impl.Program) impl.Program {
	q := impl.Program{Nodes: slices.Clone(p.Nodes), Assignments: slices.Clone(p.Assignments)}
	for k := range q.Nodes {
		q.Nodes[k].Args = slices.Clone(q.Nodes[k].Args)
	}
	return q
}

func equalPrograms(p, q impl.Program) bool {
	if len(p.Nodes) != len(q.Nodes) || len(p.Assignments) != len(q.Assignments) {
		return false
	}
	for k, x := range p.Nodes {
		y := q.Nodes[k]
		if x.Op != y.Op || x.Name != y.Name || x.Number != y.Number || len(x.Args) != len(y.Args) {
			return false
		}
		for i := range x.Args {
			if x.Args[i] != y.Args[i] {
				return false
			}
		}
	}
	for k := range p.Assignments {
		if p.Assignments[k] != q.Assignments[k] {
			return false
		}
	}
	return true
}

func isZeroProgram(p impl.Program) bool {
	return len(p.Nodes) == 0 && len(p.Assignments) == 0
}

// waiting is an operation, or an open parenthesis, whose last operand has not been read.
type waiting struct {
	kind   string // "negate", one of the symbols + - * /, "(" or "call"
	name   string
	commas int
}

// reading is a parser with a stack of what is waiting. It knows five states, and reduces the stack when the next token shows that an operand is complete.
type reading struct {
	program impl.Program
	values  []int
	stack   []waiting
	state   string // "start", "equals", "operand", "first" (behind the parenthesis of a call), "named" (behind a name that may be that of a call) or "operator"
	target  string
	name    string
	last    int
	bad     int
}

func (r *reading) fail(offset int) {
	if r.bad == -1 {
		r.bad = offset
	}
}

func (r *reading) add(node impl.Node, args int, offset int) {
	if len(r.program.Nodes) == 60 {
		r.fail(offset)
	}
	rest := len(r.values) - args
	node.Args = slices.Clone(r.values[rest:])
	r.values = append(r.values[:rest], len(r.program.Nodes))
	r.program.Nodes = append(r.program.Nodes, node)
}

func (r *reading) top() waiting {
	if len(r.stack) == 0 {
		return waiting{}
	}
	return r.stack[len(r.stack)-1]
}

func (r *reading) pop() {
	r.stack = r.stack[:len(r.stack)-1]
}

// reduce completes the waiting operations of these kinds.
func (r *reading) reduce(kinds ...string) {
	for slices.Contains(kinds, r.top().kind) {
		kind := r.top().kind
		r.pop()
		if kind == "negate" {
			r.add(impl.Node{Op: 3}, 1, r.last)
		} else {
			r.add(impl.Node{Op: 4 + strings.Index("+-*/", kind)}, 2, r.last)
		}
	}
}

func (r *reading) factors() int {
	count := 0
	for _, w := range r.stack {
		if !strings.Contains("+-*/", w.kind) {
			count++
		}
	}
	return count
}

func (r *reading) readOperand(x impl.Token) {
	if r.factors() >= 64 || r.top().commas > 2 {
		r.fail(x.Offset)
	}
	switch {
	case x.Kind == 1:
		r.add(impl.Node{Op: 1, Number: x.Number}, 0, x.Offset)
		r.state = "operator"
	case x.Kind == 2:
		r.name, r.state = x.Text, "named"
	case x.Text == "-":
		r.stack, r.state = append(r.stack, waiting{kind: "negate"}), "operand"
	case x.Text == "(":
		r.stack, r.state = append(r.stack, waiting{kind: "("}), "operand"
	default:
		r.fail(x.Offset)
	}
}

func (r *reading) closeParenthesis(offset int, args int) {
	w := r.top()
	if w.kind != "(" && w.kind != "call" {
		r.fail(offset)
		return
	}
	r.pop()
	if w.kind == "call" {
		r.add(impl.Node{Op: 8, Name: w.name}, args, offset)
	}
	r.state = "operator"
}

func (r *reading) readOperator(x impl.Token) {
	switch x.Text {
	case "*", "/":
		r.reduce("negate", "*", "/")
	default:
		r.reduce("negate", "+", "-", "*", "/")
	}
	switch {
	case x.Text == ")":
		r.closeParenthesis(x.Offset, r.top().commas+1)
	case x.Text == "," && r.top().kind == "call":
		r.stack[len(r.stack)-1].commas++
		r.state = "operand"
	case x.Text == ";" && len(r.stack) == 0:
		r.program.Assignments = append(r.program.Assignments, impl.Assignment{Name: r.target, Root: r.values[0]})
		r.values, r.state = nil, "start"
	case x.Kind == 3 && strings.Contains("+-*/", x.Text):
		r.stack, r.state = append(r.stack, waiting{kind: x.Text}), "operand"
	default:
		r.fail(x.Offset)
	}
}

func (r *reading) read(x impl.Token) {
	if r.state == "named" && x.Text != "(" {
		r.add(impl.Node{Op: 2, Name: r.name}, 0, r.last)
		r.state = "operator"
	}
	switch {
	case r.state == "start" && x.Kind == 2:
		r.target, r.state = x.Text, "equals"
	case r.state == "start" && x.Kind == 0:
	case r.state == "equals" && x.Text == "=":
		r.state = "operand"
	case r.state == "first" && x.Text == ")":
		r.closeParenthesis(x.Offset, 0)
	case r.state == "operand" || r.state == "first":
		r.readOperand(x)
	case r.state == "named":
		r.stack, r.state = append(r.stack, waiting{kind: "call", name: r.name}), "first"
	case r.state == "operator":
		r.readOperator(x)
	default:
		r.fail(x.Offset)
	}
	r.last = x.Offset
}

// wantParse follows the document without recursion.
func wantParse(source string) (impl.Program, int) {
	tokens, at := wantTokens(source)
	if at != -1 {
		return impl.Program{}, at
	}
	r := &reading{state: "start", bad: -1}
	for _, x := range tokens {
		r.read(x)
		if r.bad != -1 {
			return impl.Program{}, r.bad
		}
	}
	return r.program, -1
}

func checkParse(t *testing.T, source string) {
	t.Helper()
	got, at := impl.Parse(source)
	want, wantAt := wantParse(source)
	if !equalPrograms(got, want) || at != wantAt {
		t.Fatalf("Parse(%q) = %+v, %d, not %+v, %d", source, got, at, want, wantAt)
	}
}

func wantRejected(t *testing.T, source string, want int) {
	t.Helper()
	if got, at := impl.Parse(source); !isZeroProgram(got) || at != want {
		t.Errorf("Parse(%q) = %+v, %d, not the zero value and %d", source, got, at, want)
	}
}

// wantMarked expects that a source is rejected at the token behind the mark |.
func wantMarked(t *testing.T, marked string) {
	t.Helper()
	before, behind, found := strings.Cut(marked, "|")
	if !found {
		t.Fatalf("%q has no mark", marked)
	}
	wantRejected(t, before+behind, len(before))
}

func wantNodes(t *testing.T, source string, count int) impl.Program {
	t.Helper()
	p, at := impl.Parse(source)
	if at != -1 || len(p.Nodes) != count {
		t.Errorf("Parse(%q) has %d nodes, %d, not %d", source, len(p.Nodes), at, count)
	}
	return p
}

// wantProgramText writes the nodes in their order, each with the texts of its arguments.
func wantProgramText(p impl.Program) string {
	if !wantValidProgram(p) {
		return ""
	}
	var texts []string
	for _, x := range p.Nodes {
		var args []string
		for _, k := range x.Args {
			args = append(args, texts[k])
		}
		var text string
		switch x.Op {
		case 1:
			text = impl.FormatNumber(x.Number)
		case 2:
			text = x.Name
		case 3:
			text = "(-" + args[0] + ")"
		case 8:
			text = x.Name + "(" + strings.Join(args, ", ") + ")"
		default:
			text = "(" + args[0] + " " + string("+-*/"[x.Op-4]) + " " + args[1] + ")"
		}
		texts = append(texts, text)
	}
	lines := ""
	for _, a := range p.Assignments {
		lines += a.Name + " = " + texts[a.Root] + ";\n"
	}
	return lines
}

// wantValidProgram tests the document's conditions one by one.
func wantValidProgram(p impl.Program) bool {
	references := map[int]int{}
	for k, x := range p.Nodes {
		named, least, most := false, 0, 0
		switch x.Op {
		case 1:
		case 2:
			named = true
		case 3:
			least, most = 1, 1
		case 4, 5, 6, 7:
			least, most = 2, 2
		case 8:
			named, most = true, 3
		default:
			return false
		}
		if named && !wholeName.MatchString(x.Name) || !named && x.Name != "" || len(x.Args) < least || len(x.Args) > most {
			return false
		}
		if x.Number < 0 || x.Number > 2559999 || x.Number != 0 && x.Op != 1 {
			return false
		}
		for _, arg := range x.Args {
			if arg < 0 || arg >= k {
				return false
			}
			references[arg]++
		}
	}
	for _, a := range p.Assignments {
		if !wholeName.MatchString(a.Name) || a.Root < 0 || a.Root >= len(p.Nodes) {
			return false
		}
		references[a.Root]++
	}
	for k := range p.Nodes {
		if references[k] != 1 {
			return false
		}
	}
	return len(p.Nodes) <= 60
}

func checkProgram(t *testing.T, p impl.Program) {
	t.Helper()
	if got, want := impl.IsValidProgram(p), wantValidProgram(p); got != want {
		t.Fatalf("IsValidProgram(%+v) = %v", p, got)
	}
	if got, want := impl.FormatProgram(p), wantProgramText(p); got != want {
		t.Fatalf("FormatProgram(%+v) = %q, not %q", p, got, want)
	}
}

// factorDepths is the greatest depth of a factor in the text of each node.
func factorDepths(p impl.Program) []int {
	var depths []int
	for _, x := range p.Nodes {
		inner := 0
		for _, k := range x.Args {
			inner = max(inner, depths[k])
		}
		if x.Op == 3 {
			inner++
		}
		depths = append(depths, inner+1)
	}
	return depths
}

func textFits(p impl.Program) bool {
	for _, d := range factorDepths(p) {
		if d > 64 {
			return false
		}
	}
	return len(impl.FormatProgram(p)) <= 2000
}

// filled is a source of that many nodes.
func filled(nodes int) string {
	return strings.Repeat("a=1;", nodes)
}

// between writes text between that many pairs of before and behind.
func between(count int, before, text, behind string) string {
	return strings.Repeat(before, count) + text + strings.Repeat(behind, count)
}

// randomExpression writes an expression, and prefers short ones when it is deep.
func randomExpression(r *rand.Rand, depth int) string {
	kind := r.IntN(12)
	if depth > 5 {
		kind = r.IntN(3)
	}
	next := func() string { return randomExpression(r, depth+1) }
	switch kind {
	case 0:
		return []string{"0", "1", "2.5", "0.004", "9999.9999", "0012"}[r.IntN(6)]
	case 1, 2:
		return []string{"u", "v", "color", "abcdefgh", "x1"}[r.IntN(5)]
	case 3, 4:
		return "-" + []string{"1", "u", "(" + next() + ")", "-" + next()}[r.IntN(4)]
	case 5:
		return "(" + next() + ")"
	case 6, 7:
		var args []string
		for range r.IntN(4) {
			args = append(args, next())
		}
		return []string{"f", "mix", "g"}[r.IntN(3)] + "(" + strings.Join(args, ",") + ")"
	}
	return next() + string("+-*/"[kind-8]) + next()
}

// randomSources lists sources of programs, of which some have too many nodes. They have blanks between their tokens.
func randomSources(count int) []string {
	r := rand.New(rand.NewPCG(13, 14))
	var l []string
	for range count {
		source := ""
		for range r.IntN(9) + 1 {
			source += []string{"color", "alpha", "c", "a1"}[r.IntN(4)] + "=" + randomExpression(r, r.IntN(5)) + ";"
		}
		spread := ""
		for _, x := range impl.JoinTokens(mustTokenize(source)) {
			spread += []string{string(x), string(x), strings.ReplaceAll(string(x), " ", "\n  ")}[r.IntN(3)]
		}
		l = append(l, source, spread)
	}
	return l
}

func mustTokenize(source string) []impl.Token {
	l, at := impl.Tokenize(source)
	if at != -1 {
		panic("not a list of tokens: " + source)
	}
	return l
}

// programSources lists sources of programs, up to the limits.
func programSources() []string {
	return []string{
		"", " \n", "a=1;", "color = u * 2;", " color\n=\nu*2 ;\n", "a=b;", "a=-b;", "a=--b;", "a=(b);", "a=((b));", "a=f();", "a=f(1);", "a=f(1,b);", "a=f(1,b,-2.5);", "a=b+c;", "a=b-c;", "a=b*c;", "a=b/c;",
		"a=1+2*3;", "a=1*2+3;", "a=(1+2)*3;", "a=1-2-3;", "a=1-(2-3);", "a=8/4/2;", "a=8/(4/2);", "a=-b*c;", "a=b*-c;", "a=-(b+c);", "a=b--c;", "a=---(-b);", "a=f(g(),h(1));", "a=f((1),(b+c)*2);", "f=f(f)*f;",
		"a=1;b=a;c=a+b;", "a=1;a=2;a=a;", "color = mix(u, v, 0.5) * -x1;\nalpha = (color + 1) / 2;\n", "a=0.004;b=9999.9999;c=0000;d=0.5000;", "abcdefgh=abcdefgh(abcdefgh,9999.9999);",
		filled(60), "a=" + between(59, "-", "1", "") + ";", "a=" + between(29, "1+", "1", "") + ";", "a=-" + between(29, "1/", "1", "") + ";", "a=" + between(59, "f(", "1", ")") + ";", "a=" + between(63, "(", "1", ")") + ";", "a=" + between(21, "-(f(", "1", "))") + ";",
		"a=" + between(31, "-", "1", "") + ";", "a=" + between(31, "-", "(1+1)", "") + ";", "a=" + between(14, "f(1,(-", "b", "),2)") + ";", strings.Repeat("abcdefgh=abcdefgh();", 60), strings.Repeat(" ", 1996) + "a=1;", "a=1;" + strings.Repeat("\n", 1996),
	}
}

// parsedPrograms lists what sources are parsed to.
func parsedPrograms() []impl.Program {
	var l []impl.Program
	for _, source := range append(programSources(), randomSources(200)...) {
		if p, at := impl.Parse(source); at == -1 {
			l = append(l, p)
		}
	}
	return l
}

// Programs are recovered from their text, and their text is that of what it is parsed to.
func TestP6ProgramsAreRecoveredFromTheirText(t *testing.T) {
	fits := 0
	for _, p := range parsedPrograms() {
		text := impl.FormatProgram(p)
		q, at := impl.Parse(text)
		if !textFits(p) {
			if at == -1 || !isZeroProgram(q) {
				t.Errorf("Parse(%q) = %+v, %d", text, q, at)
			}
			continue
		}
		fits++
		if at != -1 || !equalPrograms(p, q) || !impl.SameProgram(p, q) {
			t.Fatalf("Parse(%q) = %+v, %d, not %+v", text, q, at, p)
		}
		if again := impl.FormatProgram(q); again != text {
			t.Fatalf("the text of %q is %q", text, again)
		}
	}
	if fits < 200 {
		t.Errorf("only %d programs have a text within the limits", fits)
	}
}

func TestP6ShortProgramsAreRecovered(t *testing.T) {
	found := 0
	for _, words := range wordsOver([]string{"b ", "2 ", "+", "-", "*", "/", "(", ")", ","}, 5) {
		for _, source := range []string{"a=" + words + ";", "a=f(" + words + ");"} {
			p, at := impl.Parse(source)
			if at != -1 {
				continue
			}
			found++
			text := impl.FormatProgram(p)
			if q, at := impl.Parse(text); at != -1 || !equalPrograms(p, q) || len(p.Nodes) == 0 {
				t.Fatalf("Parse(%q) = %+v, and Parse(%q) = %+v, %d", source, p, text, q, at)
			}
		}
	}
	if found < 500 {
		t.Errorf("only %d programs were found", found)
	}
}

// A text with parentheses around every operation may be deeper than its source. It is never too long.
func TestP6TextOfDeepPrograms(t *testing.T) {
	for count := range 60 {
		for _, c := range []struct {
			source string
			depth  int
		}{
			{"a=" + between(count, "-", "1", "") + ";", 2*count + 1},
			{"a=" + between(count, "f(", "1", ")") + ";", count + 1},
			{"a=" + between(min(count, 57), "-", "(1+1)", "") + ";", 2*min(count, 57) + 2},
			{"a=" + between(count/2, "1+(", "1", ")") + ";", count/2 + 1},
			{"a=" + between(count/2, "1*", "1", "") + ";", count/2 + 1},
		} {
			p, at := impl.Parse(c.source)
			if at != -1 {
				t.Fatalf("Parse(%q) returns %d", c.source, at)
			}
			q, at := impl.Parse(impl.FormatProgram(p))
			if (at == -1) != (c.depth <= 64) || at == -1 && !equalPrograms(p, q) || at != -1 && !isZeroProgram(q) {
				t.Fatalf("the text of %q with the depth %d is parsed to %+v, %d", c.source, c.depth, q, at)
			}
		}
	}
	wantRejected(t, impl.FormatProgram(wantNodes(t, "a="+between(32, "-", "1", "")+";", 33)), 4+64)
	wantRejected(t, impl.FormatProgram(wantNodes(t, "a="+between(59, "-", "1", "")+";", 60)), 4+64)
	if text := impl.FormatProgram(wantNodes(t, strings.Repeat("abcdefgh=abcdefgh();", 60), 60)); len(text) != 60*23 {
		t.Errorf("the longest text has %d bytes", len(text))
	}
}

// Where blanks are, and parentheses around an expression, does not matter.
func TestP6ProgramsDoNotDependOnBlanksAndParentheses(t *testing.T) {
	for _, source := range randomSources(500) {
		p, at := impl.Parse(source)
		if at != -1 {
			continue
		}
		joined := impl.JoinTokens(mustTokenize(source))
		around := strings.NewReplacer("=", "=(", ";", ");", ",", "),(", "(", "((", ")", "))", "u", "(u)", " ", "", "\n", "").Replace(source)
		around = strings.NewReplacer("(())", "()").Replace(around)
		around = strings.ReplaceAll(around, ";", "\n;")
		for _, other := range []string{joined, around} {
			if q, at := impl.Parse(other); at != -1 || !equalPrograms(p, q) {
				t.Fatalf("Parse(%q) = %+v, %d, not %+v as for %q", other, q, at, p, source)
			}
		}
	}
}

func TestP15ParserConstants(t *testing.T) {
	got := [10]int{impl.MaxNodes, impl.MaxDepth, impl.NodeNumber, impl.NodeName, impl.NodeNegate, impl.NodeAdd, impl.NodeSubtract, impl.NodeMultiply, impl.NodeDivide, impl.NodeCall}
	if got != [10]int{60, 64, 1, 2, 3, 4, 5, 6, 7, 8} {
		t.Errorf("the constants are %v", got)
	}
}

func TestP15ParseCases(t *testing.T) {
	one, two, three, b, c := numberNode(256), numberNode(512), numberNode(768), nameNode("b"), nameNode("c")
	cases := []struct {
		source string
		want   impl.Program
	}{
		{"", programOf(nil)}, {" \n \n", programOf(nil)},
		{"a=1;", programOf(nodeList(one), assign("a", 0))}, {"a=0;", programOf(nodeList(numberNode(0)), assign("a", 0))}, {"color1 = 2.5;", programOf(nodeList(numberNode(640)), assign("color1", 0))}, {"a=9999.9999;", programOf(nodeList(numberNode(2559999)), assign("a", 0))},
		{"a=b;", programOf(nodeList(b), assign("a", 0))}, {"abcdefgh=z1234567;", programOf(nodeList(nameNode("z1234567")), assign("abcdefgh", 0))}, {"a=a;", programOf(nodeList(nameNode("a")), assign("a", 0))},
		{"a=-b;", programOf(nodeList(b, negateNode(0)), assign("a", 1))}, {"a=-1;", programOf(nodeList(one, negateNode(0)), assign("a", 1))}, {"a=---b;", programOf(nodeList(b, negateNode(0), negateNode(1), negateNode(2)), assign("a", 3))}, {"a=-(-b);", programOf(nodeList(b, negateNode(0), negateNode(1)), assign("a", 2))},
		{"a=(b);", programOf(nodeList(b), assign("a", 0))}, {"a=(((1)));", programOf(nodeList(one), assign("a", 0))}, {"a=(f());", programOf(nodeList(callNode("f")), assign("a", 0))},
		{"a=f();", programOf(nodeList(callNode("f")), assign("a", 0))}, {"a=f ( ) ;", programOf(nodeList(callNode("f")), assign("a", 0))}, {"a=f(1);", programOf(nodeList(one, callNode("f", 0)), assign("a", 1))}, {"a=f(b,1);", programOf(nodeList(b, one, callNode("f", 0, 1)), assign("a", 2))}, {"a=f(1,b,-2.5);", programOf(nodeList(one, b, numberNode(640), negateNode(2), callNode("f", 0, 1, 3)), assign("a", 4))},
		{"a=f(g(),h(1,2),b);", programOf(nodeList(callNode("g"), one, two, callNode("h", 1, 2), b, callNode("f", 0, 3, 4)), assign("a", 5))}, {"f=f(f);", programOf(nodeList(nameNode("f"), callNode("f", 0)), assign("f", 1))}, {"a=f(g(h(b)));", programOf(nodeList(b, callNode("h", 0), callNode("g", 1), callNode("f", 2)), assign("a", 3))}, {"a=f((b),((1)+(2)));", programOf(nodeList(b, one, two, binaryNode("+", 1, 2), callNode("f", 0, 3)), assign("a", 4))},
		{"a=f(b)*g(c);", programOf(nodeList(b, callNode("f", 0), c, callNode("g", 2), binaryNode("*", 1, 3)), assign("a", 4))}, {"a=-f(b);", programOf(nodeList(b, callNode("f", 0), negateNode(1)), assign("a", 2))},
		{"a=1+2;", programOf(nodeList(one, two, binaryNode("+", 0, 1)), assign("a", 2))}, {"a=1-2;", programOf(nodeList(one, two, binaryNode("-", 0, 1)), assign("a", 2))}, {"a=1*2;", programOf(nodeList(one, two, binaryNode("*", 0, 1)), assign("a", 2))}, {"a=1/2;", programOf(nodeList(one, two, binaryNode("/", 0, 1)), assign("a", 2))},
		{"a=1+2*3;", programOf(nodeList(one, two, three, binaryNode("*", 1, 2), binaryNode("+", 0, 3)), assign("a", 4))}, {"a=1*2+3;", programOf(nodeList(one, two, binaryNode("*", 0, 1), three, binaryNode("+", 2, 3)), assign("a", 4))}, {"a=1-2/3;", programOf(nodeList(one, two, three, binaryNode("/", 1, 2), binaryNode("-", 0, 3)), assign("a", 4))}, {"a=1/2-3;", programOf(nodeList(one, two, binaryNode("/", 0, 1), three, binaryNode("-", 2, 3)), assign("a", 4))},
		{"a=(1+2)*3;", programOf(nodeList(one, two, binaryNode("+", 0, 1), three, binaryNode("*", 2, 3)), assign("a", 4))}, {"a=1*(2+3);", programOf(nodeList(one, two, three, binaryNode("+", 1, 2), binaryNode("*", 0, 3)), assign("a", 4))},
		{"a=1-2-3;", programOf(nodeList(one, two, binaryNode("-", 0, 1), three, binaryNode("-", 2, 3)), assign("a", 4))}, {"a=1-(2-3);", programOf(nodeList(one, two, three, binaryNode("-", 1, 2), binaryNode("-", 0, 3)), assign("a", 4))}, {"a=1/2/3;", programOf(nodeList(one, two, binaryNode("/", 0, 1), three, binaryNode("/", 2, 3)), assign("a", 4))}, {"a=1/(2/3);", programOf(nodeList(one, two, three, binaryNode("/", 1, 2), binaryNode("/", 0, 3)), assign("a", 4))},
		{"a=1-2+3;", programOf(nodeList(one, two, binaryNode("-", 0, 1), three, binaryNode("+", 2, 3)), assign("a", 4))}, {"a=1+2-3;", programOf(nodeList(one, two, binaryNode("+", 0, 1), three, binaryNode("-", 2, 3)), assign("a", 4))}, {"a=1/2*3;", programOf(nodeList(one, two, binaryNode("/", 0, 1), three, binaryNode("*", 2, 3)), assign("a", 4))}, {"a=1*2/3;", programOf(nodeList(one, two, binaryNode("*", 0, 1), three, binaryNode("/", 2, 3)), assign("a", 4))},
		{"a=1*2-b*c+3;", programOf(nodeList(one, two, binaryNode("*", 0, 1), b, c, binaryNode("*", 3, 4), binaryNode("-", 2, 5), three, binaryNode("+", 6, 7)), assign("a", 8))},
		{"a=-b*c;", programOf(nodeList(b, negateNode(0), c, binaryNode("*", 1, 2)), assign("a", 3))}, {"a=b*-c;", programOf(nodeList(b, c, negateNode(1), binaryNode("*", 0, 2)), assign("a", 3))}, {"a=-(b*c);", programOf(nodeList(b, c, binaryNode("*", 0, 1), negateNode(2)), assign("a", 3))}, {"a=-b+c;", programOf(nodeList(b, negateNode(0), c, binaryNode("+", 1, 2)), assign("a", 3))}, {"a=b--c;", programOf(nodeList(b, c, negateNode(1), binaryNode("-", 0, 2)), assign("a", 3))}, {"a=b/--c;", programOf(nodeList(b, c, negateNode(1), negateNode(2), binaryNode("/", 0, 3)), assign("a", 4))},
		{"a=1;b=2;", programOf(nodeList(one, two), assign("a", 0), assign("b", 1))}, {"a=b;c=-a;b=a+c;\n", programOf(nodeList(b, nameNode("a"), negateNode(1), nameNode("a"), c, binaryNode("+", 3, 4)), assign("a", 0), assign("c", 2), assign("b", 5))}, {"a=1;a=1;a=1;", programOf(nodeList(one, one, one), assign("a", 0), assign("a", 1), assign("a", 2))},
		{"color = u * 2;", programOf(nodeList(nameNode("u"), two, binaryNode("*", 0, 1)), assign("color", 2))},
	}
	for _, x := range cases {
		if got, at := impl.Parse(x.source); !equalPrograms(got, x.want) || at != -1 {
			t.Errorf("Parse(%q) = %+v, %d, not %+v", x.source, got, at, x.want)
		}
	}
}

func TestP15ParseProgramSources(t *testing.T) {
	for _, source := range programSources() {
		checkParse(t, source)
		if p, at := impl.Parse(source); at != -1 || !impl.IsValidProgram(p) {
			t.Errorf("Parse(%q) = %+v, %d", source, p, at)
		}
		for end := range min(len(source), 250) {
			checkParse(t, source[:end])
		}
	}
}

// Every order of a few tokens, behind beginnings that lead to every place of the grammar.
func TestP15ParseEveryShortSource(t *testing.T) {
	all := wordsOver([]string{"b ", "2 ", "+", "-", "*", "(", ")", ",", "=", ";"}, 4)
	for _, before := range []string{"", "a=", "a=b+", "a=-2*", "a=f(", "a=f(1,g(),", "a=(f(2", "a=1;b"} {
		for _, words := range all {
			checkParse(t, before+words)
		}
	}
}

// A token more, a token less, or another token somewhere in a program.
func TestP15ParseChangedSources(t *testing.T) {
	words := []string{"b", "2", "+", "-", "*", "/", "(", ")", ",", "=", ";", "f(", "f()", "-("}
	for _, source := range append(programSources(), randomSources(25)...) {
		texts := impl.TokenTexts(mustTokenize(source))
		if len(texts) > 80 {
			continue
		}
		for k := range len(texts) + 1 {
			before, behind := strings.Join(texts[:k], " "), strings.Join(texts[k:], " ")
			checkParse(t, before)
			for _, word := range words {
				checkParse(t, before+" "+word+" "+behind)
				if k < len(texts) {
					checkParse(t, before+"\n"+word+" "+strings.Join(texts[k+1:], " "))
				}
			}
			if k < len(texts) {
				checkParse(t, before+" "+strings.Join(texts[k+1:], " "))
			}
		}
	}
}

func TestP15ParseRandomSources(t *testing.T) {
	rejected := 0
	for _, source := range randomSources(3000) {
		checkParse(t, source)
		if _, at := impl.Parse(source); at != -1 {
			rejected++
		}
	}
	if rejected < 100 || rejected > 3000 {
		t.Errorf("%d sources have too many nodes", rejected)
	}
}

// The tokens in front of the one that is reported begin some program, and no program begins with that one, too.
func TestP15ParseReportsTheFirstTokenThatContinuesNoProgram(t *testing.T) {
	var rests []string
	for closed := range 7 {
		rests = append(rests, strings.Repeat(")", closed)+";", " 1"+strings.Repeat(")", closed)+";")
	}
	rests = append(rests, "", "=1;")
	continues := func(part string) bool {
		return slices.ContainsFunc(rests, func(rest string) bool {
			_, at := impl.Parse(part + rest)
			return at == -1
		})
	}
	for _, before := range []string{"", "a=", "a=f("} {
		for _, words := range wordsOver([]string{"b ", "2 ", "+", "-", "*", "(", ")", ",", "=", ";"}, 4) {
			source := before + words
			_, at := impl.Parse(source)
			if at == -1 {
				continue
			}
			if !continues(source[:at]) {
				t.Fatalf("Parse(%q) returns %d, but no program begins with %q", source, at, source[:at])
			}
			if part := source[:min(at+1, len(source))]; at < len(source) && continues(part) {
				t.Fatalf("Parse(%q) returns %d, but some program begins with %q", source, at, part)
			}
		}
	}
}

func TestP15ParseOfSourcesThatAreNotTokens(t *testing.T) {
	for _, c := range []struct {
		source string
		want   int
	}{
		{"?", 0}, {"a=1;?", 4}, {"a=12345;", 2}, {"a=1.;", 2}, {"a=b+abcdefghi;", 4}, {"A=1;", 0}, {"a=é;", 2}, {"a\t=1;", 1}, {"a=1.23456;", 2}, {"a=.5;", 2},
		{"; ?", 2}, {"a=;b=12345;", 5}, {"=1;a_b", 4}, {"a=(((;\n%", 7}, {filled(61) + "#", 244}, {"a=" + between(70, "(", "1", ")") + ";$", 144}, {"a=f(1,2,3,4);&", 13}, {"a=1?;", 3},
		{strings.Repeat(" ", 2001), 0}, {strings.Repeat("a=1;", 501), 0}, {"a=1;" + strings.Repeat("\n", 1997), 0}, {strings.Repeat("?", 2001), 0}, {strings.Repeat("a", 5000), 0}, {strings.Repeat("(", 100000), 0}, {strings.Repeat("-", 2001), 0},
	} {
		wantRejected(t, c.source, c.want)
		if l, at := impl.Tokenize(c.source); at != c.want || len(l) != 0 {
			t.Errorf("Tokenize(%q) = %+v, %d", c.source, l, at)
		}
	}
	for _, b := range otherBytes() {
		wantRejected(t, b, 0)
		if b != "." {
			wantRejected(t, "a=1"+b+";", 3)
		}
		wantRejected(t, ";a=b"+b, 4)
		wantRejected(t, "a=f("+b+"12345);", 4)
	}
}

func TestP15ParseRejectsWhatIsNoAssignment(t *testing.T) {
	for _, before := range []string{"", "a=1;", " b = f(2) ;\n", "a=1;b=2;"} {
		for _, marked := range []string{
			"|1", "|1=2;", "|2.5", "|=1;", "|;", "|(a)=1;", "|-a=1;", "|+", "|,", "|)", "|*a", "|/", "|( ", "|;;",
			"a|", "a \n|", "a|;", "a |1=2;", "a |b=1;", "a|(1)=2;", "a|,b=1;", "a|+=1;", "a|-1;", "a|)", "a|*2", "a|/", "a|(", "abcdefgh|;",
			"a=|", "a= |", "a=\n|;", "a=|=1;", "a=|)", "a=|,", "a=|+1;", "a=|*1;", "a=|/1;", "a=|;b=1;", "a=|);",
		} {
			wantMarked(t, before+marked)
		}
	}
}

func TestP15ParseRejectsMissingOperands(t *testing.T) {
	for _, marked := range []string{
		"a=(|)", "a=(|);", "a=(|;", "a=(|", "a=(|=", "a=(|,", "a=(|*", "a=(|+2)", "a=(( |))", "a=(-|)", "a=f(|;", "a=f(|", "a=f(|,1);", "a=f(|+1)", "a=f(|=", "a=f(|/", "a=f((|));", "a=f(g(|;",
		"a=-|;", "a=-|", "a=-|)", "a=-|*1;", "a=-|+1;", "a=--|;", "a=---|=", "a=-|,", "a=-(|)", "a=-(-|)", "a=f(-|)", "a=f(-|,1)", "a=2*-|;", "a=2--|;",
		"a=f(1,|);", "a=f(1,|", "a=f(1,|;", "a=f(1,|,2);", "a=f(1,|=", "a=f(1,|*2)", "a=f(1,2,|);", "a=f(1,2,|,3);", "a=f(1,2,|;", "a=f(1,2,3,|);", "a=f(1,2,3,|", "a=f(1,2,3,|;", "a=f(1,2,3,|,", "a=f(g(1,|),2);", "a=f(1,-|);", "a=f((1),|)",
	} {
		wantMarked(t, marked)
	}
	for _, op := range []string{"+", "-", "*", "/", " - -", "*-"} {
		for _, marked := range []string{"|;", "|", " |", "|)", "|);", "|=", "|=2;", "|,", "|,2;", "|*2;", "|/2;", "|+2;"} {
			for _, before := range []string{"a=1", "a=b", "a=(1)", "a=f()", "a=f(2)", "a=-1", "a=2*3", "a=2+3", "a=(2", "a=((b)", "a=f(1", "a=f(1,2", "a=f(1,2,3", "a=1;c=2"} {
				wantMarked(t, before+op+marked)
			}
		}
	}
}

func TestP15ParseRejectsParenthesesCommasAndEnds(t *testing.T) {
	for _, marked := range []string{
		"a=(1|;", "a=(1|", "a=(1|=", "a=(b|;", "a=(b|", "a=((1)|;", "a=((1)|", "a=(1 |2)", "a=(1|(2)", "a=(1 |b)", "a=(b |c)", "a=(b|=c)", "a=(1+2|;", "a=(-1|;", "a=(f()|;", "a=(f()|(", "a=(1|;)", "a=-(1|;", "a=2*(1|;",
		"a=f(1|;", "a=f(1|", "a=f(b|;", "a=f(b|", "a=f(1,2|;", "a=f(1,2,3|;", "a=f(1,2,3|", "a=f(g(1)|;", "a=f(g()|", "a=f(1 |2)", "a=f(1|=", "a=f(1|(", "a=f(b |c)", "a=f(b|=1)", "a=f(1|;)", "a=f(1+2|;", "a=f((1|;", "a=f((1)|;",
		"a=1|);", "a=1|)", "a=b|);", "a=-1|);", "a=(1)|);", "a=((1))|);", "a=f()|);", "a=f(1)|)", "a=f(1,2,3)|);", "a=1+2|);", "a=1*2|);", "a=(1)+(2)|);", "a=f((1))|);", "a=1;b=2|);",
		"a=1|,2;", "a=b|,", "a=b|,c;", "a=(1)|,2;", "a=f(1)|,2;", "a=f()|,", "a=-1|,2;", "a=1+2|,3;", "a=(1|,2);", "a=(b|,", "a=f((1|,2));", "a=f(2,(b|,c));", "a=f(-(1|,2));", "a=f(1,(g(2,3)|,4));", "a=(f(1,2)|,3);",
		"a=1|", "a=1 \n|", "a=b|", "a=(1)|", "a=f()|", "a=f(1)|", "a=-b|", "a=1+2|", "a=1*b|", "a=1;b=2|", "a=1 |b=2;", "a=1 |2;", "a=b|=2;", "a=b|=c;", "a=b |c;", "a=b |2;", "a=(1)|2;", "a=(1)|(2);", "a=(b)|c;", "a=1|(2);", "a=1|=2;", "a=f()|(1);", "a=f() |g();", "a=f(1) |b=2;", "a=f(1)|=2;", "a=2 |f(1);", "a=2|b;", "a=1+2 |3;", "a=1+2|=3;", "a=-1|=2;", "a=1;b=2 |c=3;", "a=f()|2;", "a=1*2|(3);",
	} {
		wantMarked(t, marked)
	}
}

// Each mark | stands in front of the token that completes the next node, in the order of the nodes. The source is tried behind so many others that this node is one too many.
func TestP15ParseLimitsTheNumberOfNodes(t *testing.T) {
	for _, marked := range []string{
		"b=|2;", "b=|c;", "b=f(|);", "b=-||2;", "b=-||c;", "b=--|||2;", "b=-(|2|);", "b=-(-||2|);", "b=-f(||);", "b=-f(|2||);", "b=f(|2|);", "b=f(|2,|c|);", "b=f(|2,|c,|3|);", "b=f(g(|)|);", "b=f(-||2|);", "b=f((|2)|);",
		"b=|2+||3;", "b=|c-||d;", "b=|2*||3;", "b=|2/||c;", "b=|2*f(||);", "b=|2+(|3|);", "b=(|2)*(|3|);", "b=(|2+||3);", "b=((|2/||3));", "b=|2+-|||3;", "b=-||2+||3;", "b=|2-((|3)|);",
		"b=|1+|2*|||3;", "b=|1*||2+||3;", "b=(|1+||2)*||3;", "b=|1*(|2+||3|);", "b=|1+||2+||3+||4;", "b=|1*||2*||3;", "b=|1-(|2-(|3|)|);", "b=|1+|2*-||||3;", "b=|1+||2-f(|3|)/|||4;",
		"b=|1;c=|2;d=|b+||c;", "b=|1;c=-||2;d=f(|);e=|3;", "b=|1;b=f(|b,|b|);b=-(|b|);",
	} {
		checkNodeLimit(t, marked)
	}
}

func checkNodeLimit(t *testing.T, marked string) {
	t.Helper()
	source := strings.ReplaceAll(marked, "|", "")
	var completing []int
	at := 0
	for _, x := range marked {
		if x == '|' {
			completing = append(completing, at)
		} else {
			at++
		}
	}
	count := len(completing)
	wantNodes(t, source, count)
	wantNodes(t, filled(60-count)+source, 60)
	for k, offset := range completing {
		before := filled(60 - k)
		wantRejected(t, before+source, len(before)+offset)
		for _, behind := range []string{"", ";", ")", ",", "=", " 9", " e", "+", "-5;", ";;", ";e=1;", "+2)"} {
			wantRejected(t, before+source[:offset+1]+behind, len(before)+offset)
		}
	}
}

func TestP15ParseLimitsTheNumberOfNodesOfOneAssignment(t *testing.T) {
	for _, c := range []struct {
		source string
		nodes  int
		marked string
	}{
		{"a=" + between(59, "-", "1", "") + ";", 60, "a=" + between(60, "-", "|1", "") + ";"},
		{"a=" + between(59, "-", "12.5", "") + ";", 60, "a=" + between(60, "-", "|12.5", "") + ";"},
		{"a=" + between(59, "f(", "1", ")") + ";", 60, "a=f(" + between(59, "f(", "1", ")") + "|);"},
		{"a=" + between(59, "f(", "g()", ")") + ";", 60, "a=f(" + between(59, "f(", "g()", ")") + "|);"},
		{"a=" + between(29, "b+", "b", "") + ";", 59, "a=" + between(30, "b+", "|b", "") + ";"},
		{"a=-" + between(29, "b*", "color", "") + ";", 60, "a=-" + between(30, "b*", "|color", "") + ";"},
		{"a=" + between(29, "b-(", "b", ")") + ";", 59, "a=b-(" + between(29, "b-(", "b", ")") + "|);"},
		{"a=f(" + between(28, "b/", "b", "") + ",1);", 59, "a=f(" + between(28, "b/", "b", "") + ",1,2+|3);"},
		{"a=" + between(14, "f(1,2,", "3", ")") + ";", 43, "a=f(1,2," + between(19, "f(1,2,", "3", ")") + "|);"},
		{"a=" + between(19, "f(1,2,", "3", ")") + ";", 58, "a=" + between(30, "f(1,2,", "|3", ")") + ";"},
	} {
		wantNodes(t, c.source, c.nodes)
		wantMarked(t, c.marked)
		checkParse(t, c.source)
		checkParse(t, strings.Replace(c.marked, "|", "", 1))
	}
	wantNodes(t, filled(60), 60)
	wantMarked(t, filled(60)+"a=|1;")
	wantMarked(t, filled(60)+"a=|12.5;")
	wantMarked(t, filled(60)+"a=|abcdefgh;")
	wantMarked(t, filled(60)+"a=abcdefgh( \n|);")
	wantMarked(t, filled(59)+"a=-abcdefgh( \n|);")
	wantMarked(t, filled(59)+"a=- |12.5;")
	wantMarked(t, filled(58)+"a=b / |12.5 ;")
	wantMarked(t, filled(58)+"a=b + |abcdefgh\n;")
}

func TestP15ParseLimitsArguments(t *testing.T) {
	for _, marked := range []string{
		"a=f(1,2,3,|4);", "a=f(1,2,3,|b);", "a=f(1,2,3,|-4);", "a=f(1,2,3,|(4));", "a=f(1,2,3,|g());", "a=f(1,2,3,|g(1,2,3,4));", "a=f(1,2,3,|4+5);", "a=f(1,2,3,|4", "a=f(1,2,3,|4;", "a=f(1,2,3,|4,5,6);", "a=f(1,2,3, \n|12.5 );", "a=f(1,2,3,|((((4))));",
		"a=f(b,b,b,|b);", "a=f((1),(2),(3),|(4));", "a=f(-1,-2,-3,|-4);", "a=f(1+2,3*4,5-6,|7);", "a=f(g(),g(),g(),|g());", "a=f(g(1,2,3),g(1,2,3),g(1,2,3),|4);", "a=f(1,2,g(1,2,3,|4));", "a=f(g(1,2,3,|4),5,6,7);", "a=f(1,(g(2,3,4,|5)));", "a=-f(1,2,3,|4);", "a=(f(1,2,3,|4));", "a=1+f(1,2,3,|4);", "a=f(1,2,3);b=f(1,2,3,|4);",
	} {
		wantMarked(t, marked)
		checkParse(t, strings.Replace(marked, "|", "", 1))
	}
	for _, name := range []string{"f", "abs", "mix", "u", "abcdefgh"} {
		for count := range 8 {
			args := strings.TrimSuffix(strings.Repeat("b,", count), ",")
			source := "a=" + name + "(" + args + ");"
			if count > 3 {
				wantRejected(t, source, len("a="+name+"(b,b,b,"))
				continue
			}
			p := wantNodes(t, source, count+1)
			if last := p.Nodes[count]; last.Op != 8 || last.Name != name || last.Number != 0 || !slices.Equal(last.Args, []int{0, 1, 2}[:count]) || p.Assignments[0] != assign("a", count) {
				t.Errorf("Parse(%q) = %+v", source, p)
			}
		}
	}
}

// Every part of a nest contains the next one. Negations and calls are nodes, parentheses are not.
func TestP15ParseLimitsTheDepth(t *testing.T) {
	for _, c := range []struct {
		source string
		nodes  int
		marked string
	}{
		{"a=" + between(63, "(", "1", ")") + ";", 1, "a=" + between(64, "(", "|1", ")") + ";"},
		{"a=" + between(63, "(", "b", ")") + ";", 1, "a=" + between(64, "(", "|abc", ")") + ";"},
		{"a=" + between(63, "(", "f()", ")") + ";", 1, "a=" + between(64, "(", "|f()", ")") + ";"},
		{"a=" + between(62, "(", "-1", ")") + ";", 2, "a=" + between(63, "(", "-|1", ")") + ";"},
		{"a=" + between(62, "(", "f(1)", ")") + ";", 2, "a=" + between(63, "(", "f(|1)", ")") + ";"},
		{"a=" + between(62, "(", "f(1,2,3)", ")") + ";", 4, "a=" + between(63, "(", "f(|1,2,3)", ")") + ";"},
		{"a=" + between(63, "(", "1+2*3", ")") + ";", 5, "a=" + between(64, "(", "|1+2*3", ")") + ";"},
		{"a=" + between(4, "(", between(59, "-", "1", ""), ")") + ";", 60, "a=" + between(5, "(", between(59, "-", "|1", ""), ")") + ";"},
		{"a=" + between(59, "-", between(4, "(", "1", ")"), "") + ";", 60, "a=" + between(59, "-", between(5, "(", "|1", ")"), "") + ";"},
		{"a=" + between(4, "(", between(59, "f(", "1", ")"), ")") + ";", 60, "a=" + between(5, "(", between(59, "f(", "|1", ")"), ")") + ";"},
		{"a=" + between(59, "f(", between(4, "(", "b", ")"), ")") + ";", 60, "a=" + between(59, "f(", between(5, "(", "|b", ")"), ")") + ";"},
		{"a=" + between(21, "-(f(", "1", "))") + ";", 43, "a=" + between(21, "-(f(", "(|1)", "))") + ";"},
		{"a=" + between(21, "(-f(", "1", "))") + ";", 43, "a=" + between(21, "(-f(", "-|1", "))") + ";"},
		{"a=" + between(21, "f(-(", "g()", "))") + ";", 43, "a=" + between(21, "f(-(", "g(|2)", "))") + ";"},
		{"a=" + between(31, "(-", "(b)", ")") + ";", 32, "a=" + between(32, "(-", "|(b)", ")") + ";"},
		{"a=" + between(31, "(-", "-b", ")") + ";", 33, "a=" + between(32, "(-", "|-b", ")") + ";"},
		{"a=" + between(31, "(-", "f(b)", ")") + ";", 33, "a=" + between(32, "(-", "|f(b)", ")") + ";"},
		{"a=" + between(28, "1+(", between(35, "(", "2", ")"), ")") + ";", 57, "a=" + between(28, "1+(", between(36, "(", "|2", ")"), ")") + ";"},
		{"a=" + between(28, "(", between(35, "(", "2", ")"), ")*1") + ";", 57, "a=" + between(28, "(", between(36, "(", "|2", ")"), ")*1") + ";"},
		{"a=" + between(19, "f(1,", between(44, "(", "2", ")"), ")") + ";", 39, "a=" + between(19, "f(1,", between(45, "(", "|2", ")"), ")") + ";"},
		{"a=" + between(63, "(", "1", ")") + "+" + between(63, "(", "1", ")") + ";", 3, "a=" + between(63, "(", "1", ")") + "+" + between(64, "(", "|1", ")") + ";"},
		{"a=" + between(63, "(", "1", ")") + "*" + between(63, "(", "1", ")") + ";", 3, "a=" + between(63, "(", "1", ")") + "*" + between(64, "(", "|1", ")") + ";"},
		{"a=f(" + between(62, "(", "1", ")") + "," + between(62, "(", "1", ")") + "," + between(62, "(", "1", ")") + ");", 4, "a=f(" + between(62, "(", "1", ")") + ",2," + between(63, "(", "|1", ")") + ");"},
		{"a=" + between(63, "(", "1", ")") + ";b=" + between(63, "(", "1", ")") + ";", 2, "a=" + between(63, "(", "1", ")") + ";b=" + between(64, "(", "|1", ")") + ";"},
		{"a=1+1*1+1*-1-1/" + between(62, "(", "-b", ")") + ";", 15, "a=1+1*1+1*-1-1/" + between(63, "(", "-|b", ")") + ";"},
		{"a=(1)+((1)+(1))+" + between(62, "(", "(1)+1", ")") + ";", 9, "a=(1)+((1)+(1))+" + between(63, "(", "(|1)+1", ")") + ";"},
	} {
		wantNodes(t, c.source, c.nodes)
		wantMarked(t, c.marked)
		checkParse(t, c.source)
		checkParse(t, strings.Replace(c.marked, "|", "", 1))
		cut, _, _ := strings.Cut(c.marked, "|")
		for _, token := range []string{"(", "-", "7", "b", "f(", ")", ",", "*", "=", ";", ""} {
			if !strings.HasSuffix(cut, "f(") && !strings.HasSuffix(cut, "g(") || token != ")" {
				wantRejected(t, cut+token, len(cut))
			}
		}
	}
	for _, part := range []string{"(", "-", "f(", "-(", "(f(", "f(g(-", "1+(", "f(1,", "f(1,2,-(", "-b*("} {
		for count := 1; count <= 70; count++ {
			source := "a=" + strings.Repeat(part, count)
			checkParse(t, source)
			checkParse(t, source+"1")
			checkParse(t, source+"1"+strings.Repeat(")", strings.Count(source, "("))+";")
		}
	}
}

// The first of several faults is reported, even if it is a limit.
func TestP15ParseReportsTheFirstFault(t *testing.T) {
	for _, marked := range []string{
		"a=|;b=;", "a=(1|;b=f(1,2,3,4);", "a=f(1,2,3,|4;b=;", "a=f(1,2,3,|*);", "a=f(1,2,3,|", "a=f(1,2,g(1,2,3,|4),5);", "|;" + filled(61), filled(60) + "a=|;", filled(60) + "|=1;", filled(60) + "a=|1)", filled(60) + "a=|b=", filled(60) + "a=|1,2;", filled(60) + "a=(|1;",
		filled(58) + "a=f(1,2,|3,4);", filled(57) + "a=f(1,2,3,|4);", filled(56) + "a=f(1,2,3,|4);", filled(57) + "a=f(1,2,3|);", filled(58) + "a=f(1,2|);", filled(60) + "a=f(|1,2,3,4);", filled(58) + "a=1+|2)", filled(58) + "a=1+|2 3", filled(59) + "a=-|1)", filled(59) + "a=f(1|));", filled(59) + "a=f(1|=", filled(60) + "a=f(|1=",
		"a=" + between(64, "(", "|=1", ")"), "a=" + between(63, "(", "1|=", ")"), "a=" + between(62, "(", "f(1,2,3,|4)", ")"), "a=" + between(62, "(", "f(1,2,3,|(4))", ")"), "a=f(1,2,3,|" + between(80, "(", "1", ")"), "a=" + strings.Repeat("(", 64) + "|(((((=",
		filled(60) + "a=" + between(63, "(", "|1", ")"), filled(60) + "a=" + between(64, "(", "|1", ")"), filled(60) + "a=|1+" + between(64, "(", "1", ")"), filled(58) + "a=1+" + between(64, "(", "|2", ")"), filled(59) + "a=1-" + between(63, "(", "|2", ")"), "a=" + between(64, "-", "|1", ""), "a=" + between(64, "f(", "|1", ")"), "a=" + strings.Repeat("f(", 63) + "1" + strings.Repeat(")", 59) + "|);",
		"a=(" + strings.Repeat("f(", 63) + "|f(1", "a=1;b=(((2|;;" + filled(61), "a=1;|2=f(1,2,3,4);",
	} {
		wantMarked(t, marked)
		checkParse(t, strings.Replace(marked, "|", "", 1))
	}
}

func TestP15FormatProgramCases(t *testing.T) {
	for _, c := range []struct {
		source string
		want   string
	}{
		{"", ""}, {" \n", ""}, {"a=1;", "a = 1;\n"}, {"a=b;", "a = b;\n"}, {"a=-b;", "a = (-b);\n"}, {"a=--1;", "a = (-(-1));\n"}, {"a=1+b;", "a = (1 + b);\n"}, {"a=1-b;", "a = (1 - b);\n"}, {"a=1*b;", "a = (1 * b);\n"}, {"a=1/b;", "a = (1 / b);\n"},
		{"a=f();", "a = f();\n"}, {"a=f(1);", "a = f(1);\n"}, {"a=f(1,b);", "a = f(1, b);\n"}, {"a=f(1,b,2);", "a = f(1, b, 2);\n"}, {"a=((b));", "a = b;\n"}, {"a=(1+2);", "a = (1 + 2);\n"},
		{"a=1+2*3;", "a = (1 + (2 * 3));\n"}, {"a=(1+2)*3;", "a = ((1 + 2) * 3);\n"}, {"a=1-2-3;", "a = ((1 - 2) - 3);\n"}, {"a=1-(2-3);", "a = (1 - (2 - 3));\n"}, {"a=1/2/3*4;", "a = (((1 / 2) / 3) * 4);\n"}, {"a=-b*c;", "a = ((-b) * c);\n"}, {"a=-(b*c);", "a = (-(b * c));\n"}, {"a=b--c;", "a = (b - (-c));\n"},
		{"a=f(1+2,-g(),(h(b)));", "a = f((1 + 2), (-g()), h(b));\n"}, {"a=f(b)/g(c)-1;", "a = ((f(b) / g(c)) - 1);\n"},
		{"a=0;b=0.5;c=1.50;d=0.0039;e=0.0040;f=9999.9999;g=0012.25;", "a = 0;\nb = 0.5;\nc = 1.5;\nd = 0;\ne = 0.004;\nf = 9999.997;\ng = 12.25;\n"},
		{"color = u * 2;", "color = (u * 2);\n"}, {"b=1;a=b;b=a+b;", "b = 1;\na = b;\nb = (a + b);\n"}, {"color=mix(u,v,0.5)*-x1;alpha=color;", "color = (mix(u, v, 0.5) * (-x1));\nalpha = color;\n"}, {filled(60), strings.Repeat("a = 1;\n", 60)},
	} {
		p, at := impl.Parse(c.source)
		if got := impl.FormatProgram(p); got != c.want || at != -1 {
			t.Errorf("FormatProgram(Parse(%q)) = %q, not %q", c.source, got, c.want)
		}
	}
}

// Programs whose nodes are in an order that Parse does not use have a text, too.
func TestP15FormatProgramOfOtherOrders(t *testing.T) {
	one, b := numberNode(256), nameNode("b")
	for _, c := range []struct {
		p    impl.Program
		want string
	}{
		{programOf(nodeList(one, b, binaryNode("-", 1, 0)), assign("a", 2)), "a = (b - 1);\n"}, {programOf(nodeList(one, b), assign("a", 1), assign("c", 0)), "a = b;\nc = 1;\n"}, {programOf(nodeList(b, one, negateNode(1), callNode("f", 2, 0)), assign("a", 3)), "a = f((-1), b);\n"},
		{programOf(nodeList(callNode("g"), b, one, callNode("f", 2, 0, 1)), assign("a", 3)), "a = f(1, g(), b);\n"}, {programOf(nodeList(one, b, numberNode(640), binaryNode("/", 1, 0), negateNode(2)), assign("x", 4), assign("y", 3)), "x = (-2.5);\ny = (b / 1);\n"},
	} {
		if got := impl.FormatProgram(c.p); got != c.want || !impl.IsValidProgram(c.p) {
			t.Errorf("FormatProgram(%+v) = %q, not %q", c.p, got, c.want)
		}
		checkProgram(t, c.p)
		if q, at := impl.Parse(c.want); at != -1 || impl.FormatProgram(q) != c.want || impl.SameProgram(q, c.p) {
			t.Errorf("Parse(%q) = %+v, %d", c.want, q, at)
		}
	}
}

func TestP15ParsedProgramsAreValid(t *testing.T) {
	for _, p := range parsedPrograms() {
		checkProgram(t, p)
		if !impl.IsValidProgram(p) || impl.FormatProgram(p) == "" != isZeroProgram(p) {
			t.Fatalf("%+v is not valid", p)
		}
	}
}

func wantInvalid(t *testing.T, p impl.Program) {
	t.Helper()
	if impl.IsValidProgram(p) || impl.FormatProgram(p) != "" || wantValidProgram(p) {
		t.Errorf("%+v is valid, with the text %q", p, impl.FormatProgram(p))
	}
}

func TestP15IsValidProgramCases(t *testing.T) {
	one, b := numberNode(256), nameNode("b")
	for _, p := range []impl.Program{
		programOf(nil), {Nodes: []impl.Node{}, Assignments: []impl.Assignment{}}, programOf(nodeList(one), assign("a", 0)), programOf(nodeList(numberNode(0)), assign("a", 0)), programOf(nodeList(numberNode(2559999)), assign("z1234567", 0)),
		programOf(nodeList(b), assign("b", 0)), programOf(nodeList(callNode("f")), assign("a", 0)), programOf(nodeList(b, negateNode(0)), assign("a", 1)), programOf(nodeList(b, one, binaryNode("/", 0, 1)), assign("a", 2)), programOf(nodeList(b, one, one, callNode("f", 1, 0, 2)), assign("a", 3)),
		programOf([]impl.Node{{Op: 1, Args: []int{}}, {Op: 2, Name: "b", Args: []int{}}, {Op: 8, Name: "f", Args: []int{}}}, assign("a", 2), assign("a", 0), assign("a", 1)),
	} {
		if !impl.IsValidProgram(p) || !wantValidProgram(p) {
			t.Errorf("%+v is not valid", p)
		}
	}
	for _, p := range []impl.Program{
		programOf(nodeList(one)), programOf(nil, assign("a", 0)), programOf(nil, assign("a", -1)), programOf(nodeList(one), assign("a", 1)), programOf(nodeList(one), assign("a", -1)), programOf(nodeList(one), assign("a", 0), assign("b", 0)), programOf(nodeList(one), assign("a", 0), assign("b", 1)), programOf(nodeList(one, b), assign("a", 0)), programOf(nodeList(one, b), assign("a", 1)), programOf(nodeList(one, b), assign("a", 0), assign("b", 0)),
		programOf(nodeList(one), assign("", 0)), programOf(nodeList(one), assign("A", 0)), programOf(nodeList(one), assign("1a", 0)), programOf(nodeList(one), assign("abcdefghi", 0)), programOf(nodeList(one), assign("a b", 0)), programOf(nodeList(one), assign("a\n", 0)), programOf(nodeList(one), assign("é", 0)),
		programOf(nodeList(numberNode(-1)), assign("a", 0)), programOf(nodeList(numberNode(2560000)), assign("a", 0)), programOf(nodeList(nameNode("")), assign("a", 0)), programOf(nodeList(nameNode("B")), assign("a", 0)), programOf(nodeList(nameNode("abcdefghi")), assign("a", 0)), programOf(nodeList(callNode("")), assign("a", 0)), programOf(nodeList(callNode("2")), assign("a", 0)),
		programOf(nodeList(impl.Node{Op: 1, Name: "b"}), assign("a", 0)), programOf(nodeList(impl.Node{Op: 2, Name: "b", Number: 1}), assign("a", 0)), programOf(nodeList(impl.Node{Op: 8, Name: "f", Number: 1}), assign("a", 0)), programOf(nodeList(b, impl.Node{Op: 3, Name: "b", Args: []int{0}}), assign("a", 1)), programOf(nodeList(b, impl.Node{Op: 3, Number: 1, Args: []int{0}}), assign("a", 1)), programOf(nodeList(b, b, impl.Node{Op: 4, Name: "b", Args: []int{0, 1}}), assign("a", 2)), programOf(nodeList(b, b, impl.Node{Op: 7, Number: 256, Args: []int{0, 1}}), assign("a", 2)),
		programOf(nodeList(one, impl.Node{Op: 1, Args: []int{0}}), assign("a", 1)), programOf(nodeList(one, impl.Node{Op: 2, Name: "b", Args: []int{0}}), assign("a", 1)), programOf(nodeList(impl.Node{Op: 3}), assign("a", 0)), programOf(nodeList(one, b, impl.Node{Op: 3, Args: []int{0, 1}}), assign("a", 2)), programOf(nodeList(impl.Node{Op: 4}), assign("a", 0)), programOf(nodeList(one, impl.Node{Op: 5, Args: []int{0}}), assign("a", 1)), programOf(nodeList(one, b, b, impl.Node{Op: 6, Args: []int{0, 1, 2}}), assign("a", 3)), programOf(nodeList(one, b, b, b, callNode("f", 0, 1, 2, 3)), assign("a", 4)),
		programOf(nodeList(one, negateNode(-1)), assign("a", 0), assign("b", 1)), programOf(nodeList(one, negateNode(1)), assign("a", 0)), programOf(nodeList(negateNode(0))), programOf(nodeList(negateNode(1), one), assign("a", 0)), programOf(nodeList(negateNode(1), negateNode(0))), programOf(nodeList(binaryNode("+", 1, 2), one, one), assign("a", 0)), programOf(nodeList(callNode("f", 0))), programOf(nodeList(one, negateNode(2)), assign("a", 0), assign("b", 1)), programOf(nodeList(callNode("f", 1), one), assign("a", 0)),
		programOf(nodeList(one, binaryNode("+", 0, 0)), assign("a", 1)), programOf(nodeList(one, negateNode(0)), assign("a", 0), assign("b", 1)), programOf(nodeList(one, negateNode(0), negateNode(0)), assign("a", 1), assign("b", 2)), programOf(nodeList(one, b, binaryNode("*", 0, 0)), assign("a", 2)), programOf(nodeList(one, b, binaryNode("*", 0, 0)), assign("a", 2), assign("b", 1)), programOf(nodeList(one, b, negateNode(0)), assign("a", 2)), programOf(nodeList(one, negateNode(0))), programOf(nodeList(one, one, callNode("f", 0, 1, 0)), assign("a", 2)), programOf(nodeList(one, one), assign("a", 0), assign("a", 0)),
	} {
		wantInvalid(t, p)
	}
}

func TestP15IsValidProgramLimitsTheNumberOfNodes(t *testing.T) {
	for _, count := range []int{0, 1, 59, 60, 61, 62, 100, 5000} {
		var p, chain impl.Program
		for k := range count {
			p.Nodes = append(p.Nodes, numberNode(k))
			p.Assignments = append(p.Assignments, assign("a", k))
			chain.Nodes = append(chain.Nodes, negateNode(k-1))
		}
		if count > 0 {
			chain.Nodes[0] = nameNode("b")
			chain.Assignments = []impl.Assignment{assign("a", count-1)}
		}
		for _, q := range []impl.Program{p, chain} {
			if got := impl.IsValidProgram(q); got != (count <= 60) || (impl.FormatProgram(q) != "") != (got && count > 0) {
				t.Errorf("IsValidProgram of %d nodes is %v", count, got)
			}
			if count <= 100 {
				checkProgram(t, q)
			}
		}
		p.Assignments = append(p.Assignments, assign("a", 0))
		wantInvalid(t, p)
	}
	wantInvalid(t, programOf(nodeList(numberNode(1)), slices.Repeat([]impl.Assignment{assign("a", 0)}, 1000)...))
	wantInvalid(t, programOf(nodeList(numberNode(1), callNode("f", make([]int, 1000)...)), assign("a", 1)))
}

// changedPrograms lists programs that differ from p in one field, one element or one length.
func changedPrograms(p impl.Program) []impl.Program {
	var l []impl.Program
	change := func(edit func(q *impl.Program)) {
		q := programCopy(p)
		edit(&q)
		if !equalPrograms(p, q) {
			l = append(l, q)
		}
	}
	names := []string{"", "a", "b", "f", "u", "color", "abcdefgh", "abcdefghi", "A", "1", "a ", "a\x00", "é"}
	numbers := []int{math.MinInt, -256, -1, 0, 1, 256, 384, 2559999, 2560000, 1 << 32, math.MaxInt}
	indices := []int{math.MinInt, -2, -1, 0, 1, 2, 3, 4, 5, 6, len(p.Nodes) - 1, len(p.Nodes), len(p.Nodes) + 1, 1 << 32, math.MaxInt}
	for k, x := range p.Nodes {
		for _, op := range append(indices, 7, 8, 9, 256) {
			change(func(q *impl.Program) { q.Nodes[k].Op = op })
		}
		for _, name := range names {
			change(func(q *impl.Program) { q.Nodes[k].Name = name })
		}
		for _, n := range numbers {
			change(func(q *impl.Program) { q.Nodes[k].Number = n })
		}
		for _, index := range indices {
			change(func(q *impl.Program) { q.Nodes[k].Args = append(q.Nodes[k].Args, index) })
			for i := range x.Args {
				change(func(q *impl.Program) { q.Nodes[k].Args[i] = index })
			}
		}
		change(func(q *impl.Program) { q.Nodes[k].Args = nil })
		change(func(q *impl.Program) { slices.Reverse(q.Nodes[k].Args) })
		change(func(q *impl.Program) { q.Nodes[k].Args = q.Nodes[k].Args[:len(x.Args)/2] })
		change(func(q *impl.Program) { q.Nodes = q.Nodes[:k] })
		change(func(q *impl.Program) { q.Nodes = slices.Delete(q.Nodes, k, k+1) })
		change(func(q *impl.Program) { q.Nodes[0], q.Nodes[k] = q.Nodes[k], q.Nodes[0] })
	}
	for k := range p.Assignments {
		for _, name := range names {
			change(func(q *impl.Program) { q.Assignments[k].Name = name })
		}
		for _, index := range indices {
			change(func(q *impl.Program) { q.Assignments[k].Root = index })
		}
		change(func(q *impl.Program) { q.Assignments = slices.Delete(q.Assignments, k, k+1) })
		change(func(q *impl.Program) { q.Assignments[0], q.Assignments[k] = q.Assignments[k], q.Assignments[0] })
		change(func(q *impl.Program) { q.Assignments = append(q.Assignments, q.Assignments[k]) })
	}
	change(func(q *impl.Program) { q.Nodes = append(q.Nodes, nameNode("b")) })
	change(func(q *impl.Program) { q.Nodes = append(q.Nodes, impl.Node{}) })
	change(func(q *impl.Program) { q.Assignments = append(q.Assignments, impl.Assignment{}) })
	change(func(q *impl.Program) {
		q.Nodes = append(q.Nodes, numberNode(7))
		q.Assignments = append(q.Assignments, assign("c", len(q.Nodes)-1))
	})
	return l
}

// plainPrograms lists a few small programs with all kinds of nodes, and two of the largest ones.
func plainPrograms() []impl.Program {
	l := []impl.Program{{}}
	for _, source := range []string{"a=1;", "a=b;", "a=-b;", "a=f();", "a=f(b,2,c);", "a=1+b-c*d/2;", "a=f(g(),-(b-1));b=2.5;a=b/a;", "a=1;b=c;", filled(60), "a=" + between(29, "1+", "b", "") + ";"} {
		p, at := wantParse(source)
		if at != -1 {
			panic("not a program: " + source)
		}
		l = append(l, p)
	}
	return l
}

func TestP15IsValidProgramOfChangedPrograms(t *testing.T) {
	valid, invalid := 0, 0
	for _, p := range plainPrograms() {
		for _, q := range changedPrograms(p) {
			checkProgram(t, q)
			if impl.IsValidProgram(q) {
				valid++
			} else {
				invalid++
			}
		}
	}
	if valid < 500 || invalid < 5000 {
		t.Errorf("%d changed programs are valid, %d are not", valid, invalid)
	}
}

// Every way in which up to three nodes refer to each other.
func TestP15IsValidProgramOfAllSmallReferences(t *testing.T) {
	var nodes []impl.Node
	for _, a := range []int{-1, 0, 1, 2} {
		nodes = append(nodes, negateNode(a), callNode("f", a))
		for _, b := range []int{0, 1, 2} {
			nodes = append(nodes, binaryNode("+", a, b))
		}
	}
	nodes = append(nodes, numberNode(1), nameNode("b"), callNode("f"))
	roots := [][]int{nil, {0}, {1}, {2}, {0, 1}, {1, 0}, {0, 2}, {1, 2}, {0, 1, 2}, {2, 0, 1}, {0, 0}, {1, 1}, {-1}, {3}}
	valid := 0
	for _, x := range nodes {
		for _, y := range nodes {
			for _, z := range nodes {
				for _, list := range roots {
					p := programOf(nodeList(x, y, z))
					for _, root := range list {
						p.Assignments = append(p.Assignments, assign("a", root))
					}
					checkProgram(t, p)
					if impl.IsValidProgram(p) {
						valid++
					}
				}
			}
		}
	}
	if valid == 0 {
		t.Error("no program is valid")
	}
}

func TestP15SameProgram(t *testing.T) {
	all := plainPrograms()
	for i, p := range all {
		for k, q := range all {
			if got := impl.SameProgram(p, programCopy(q)); got != (i == k) {
				t.Errorf("SameProgram(%+v, %+v) = %v", p, q, got)
			}
		}
		for _, q := range changedPrograms(p) {
			if impl.SameProgram(p, q) || impl.SameProgram(q, p) {
				t.Fatalf("SameProgram(%+v, %+v) = true", p, q)
			}
			if !impl.SameProgram(q, programCopy(q)) {
				t.Fatalf("%+v is not the same as its copy", q)
			}
		}
	}
	empty := impl.Program{Nodes: []impl.Node{}, Assignments: []impl.Assignment{}}
	none := impl.Node{Op: 2, Name: "b"}
	some := impl.Node{Op: 2, Name: "b", Args: []int{}}
	if !impl.SameProgram(impl.Program{}, empty) || !impl.SameProgram(empty, impl.Program{}) || !impl.SameProgram(programOf(nodeList(none), assign("a", 0)), programOf(nodeList(some), assign("a", 0))) || !impl.SameProgram(programOf(nodeList(some)), impl.Program{Nodes: nodeList(none), Assignments: []impl.Assignment{}}) {
		t.Error("nil and empty slices are not the same")
	}
}

func TestP15RootsAndCountOp(t *testing.T) {
	var programs []impl.Program
	for _, p := range plainPrograms() {
		programs = append(append(programs, p), changedPrograms(p)...)
	}
	for _, p := range programs {
		roots := impl.Roots(p)
		if len(roots) != len(p.Assignments) {
			t.Fatalf("Roots(%+v) = %v", p, roots)
		}
		for k, root := range roots {
			if root != p.Assignments[k].Root {
				t.Fatalf("Roots(%+v) = %v", p, roots)
			}
		}
		counts := map[int]int{}
		for _, x := range p.Nodes {
			counts[x.Op]++
		}
		for _, op := range append(extremeInts(), 4, 5, 6, 7, 8, 9, 10, 256, 257, 1<<32+1) {
			if got := impl.CountOp(p, op); got != counts[op] {
				t.Fatalf("CountOp(%+v, %d) = %d, not %d", p, op, got, counts[op])
			}
		}
	}
}

func TestP15RootsAndCountOpCases(t *testing.T) {
	p, _ := impl.Parse("a=f(1,-b)+-2*c;b=a/b-a;c=3;d=g(h());")
	for op, want := range []int{0, 3, 5, 2, 1, 1, 1, 1, 3, 0, 0} {
		if got := impl.CountOp(p, op); got != want {
			t.Errorf("CountOp(p, %d) = %d, not %d", op, got, want)
		}
	}
	if got := impl.Roots(p); !slices.Equal(got, []int{8, 13, 14, 16}) {
		t.Errorf("Roots(p) = %v", got)
	}
	odd := programOf(nodeList(impl.Node{Op: -3}, impl.Node{}, impl.Node{Op: math.MaxInt}, impl.Node{Op: -3, Args: []int{9}}, impl.Node{Op: 1, Name: "b"}), assign("", -5), assign("A", math.MinInt), assign("a", math.MaxInt), assign("a", 0), assign("a", 0))
	if got := impl.Roots(odd); !slices.Equal(got, []int{-5, math.MinInt, math.MaxInt, 0, 0}) {
		t.Errorf("Roots(odd) = %v", got)
	}
	if got := [6]int{impl.CountOp(odd, -3), impl.CountOp(odd, 0), impl.CountOp(odd, 1), impl.CountOp(odd, math.MaxInt), impl.CountOp(odd, math.MinInt), impl.CountOp(odd, 2)}; got != [6]int{2, 1, 1, 1, 0, 0} {
		t.Errorf("the numbers of nodes of odd are %v", got)
	}
	for _, p := range []impl.Program{{}, {Nodes: []impl.Node{}, Assignments: []impl.Assignment{}}} {
		if len(impl.Roots(p)) != 0 || impl.CountOp(p, 0) != 0 || impl.CountOp(p, 1) != 0 {
			t.Errorf("the empty program has %v and %d nodes", impl.Roots(p), impl.CountOp(p, 0))
		}
	}
}

// roomyProgram gives every slice spare capacity, which belongs to the caller.
func roomyProgram(p impl.Program) impl.Program {
	q := impl.Program{Nodes: append(make([]impl.Node, 0, len(p.Nodes)+3), p.Nodes...), Assignments: append(make([]impl.Assignment, 0, len(p.Assignments)+3), p.Assignments...)}
	for k, x := range p.Nodes {
		q.Nodes[k].Args = append(make([]int, 0, len(x.Args)+3), x.Args...)
	}
	return q
}

// wholeProgram copies a program together with the spare capacity of its slices.
func wholeProgram(p impl.Program) impl.Program {
	q := impl.Program{Nodes: slices.Clone(p.Nodes[:cap(p.Nodes)]), Assignments: slices.Clone(p.Assignments[:cap(p.Assignments)])}
	for k, x := range q.Nodes {
		q.Nodes[k].Args = slices.Clone(x.Args[:cap(x.Args)])
	}
	return q
}

func TestP15ParserFunctionsChangeNothing(t *testing.T) {
	for _, plain := range plainPrograms() {
		for _, q := range append(changedPrograms(plain), plain) {
			p, other := roomyProgram(q), roomyProgram(plain)
			before, otherBefore := wholeProgram(p), wholeProgram(other)
			impl.FormatProgram(p)
			impl.IsValidProgram(p)
			impl.SameProgram(p, other)
			impl.SameProgram(other, p)
			impl.Roots(p)
			impl.CountOp(p, 2)
			if !equalPrograms(wholeProgram(p), before) || !equalPrograms(wholeProgram(other), otherBefore) {
				t.Fatalf("%+v became %+v", before, wholeProgram(p))
			}
		}
	}
}

func overwriteProgram(p impl.Program) {
	for _, x := range p.Nodes {
		overwrite(x.Args)
	}
	nodes, assignments := p.Nodes[:cap(p.Nodes)], p.Assignments[:cap(p.Assignments)]
	for k := range nodes {
		nodes[k] = impl.Node{Op: -1, Name: "overwritten", Number: -2}
	}
	for k := range assignments {
		assignments[k] = impl.Assignment{Name: "overwritten", Root: -3}
	}
}

func TestP15ParserResultsAreNew(t *testing.T) {
	for _, source := range programSources() {
		p, _ := impl.Parse(source)
		want, text, roots := programCopy(p), impl.FormatProgram(p), impl.Roots(p)
		wantRoots := slices.Clone(roots)
		other, _ := impl.Parse(source)
		overwrite(impl.Roots(other))
		overwrite(impl.Roots(p))
		overwriteProgram(other)
		if !equalPrograms(p, want) || !slices.Equal(roots, wantRoots) {
			t.Fatalf("the program of %q changes with that of another call", source)
		}
		overwriteProgram(p)
		again, at := impl.Parse(source)
		if !equalPrograms(again, want) || at != -1 || !slices.Equal(roots, wantRoots) || impl.FormatProgram(again) != text {
			t.Fatalf("Parse(%q) = %+v, %d when it is parsed again", source, again, at)
		}
	}
}

// Each list of arguments is overwritten, with its spare capacity, and must change no other part of its program.
func TestP15ListsOfOneProgramAreApart(t *testing.T) {
	for _, source := range append(programSources(), randomSources(30)...) {
		p, _ := impl.Parse(source)
		for k, x := range p.Nodes {
			want := programCopy(p)
			overwrite(x.Args)
			copy(want.Nodes[k].Args, x.Args)
			if !equalPrograms(p, want) {
				t.Fatalf("the arguments of node %d of %q are a part of %+v", k, source, p)
			}
		}
	}
}

func TestP15TextsOfProgramsAreCopies(t *testing.T) {
	for _, source := range []string{"abcdefgh=abcdefgh;", "a=b;", "f=f(f,f,-f);f=f;", "color = mix(u, v, 2) * u;"} {
		p, _ := impl.Parse(source)
		var names []string
		for _, x := range p.Nodes {
			if x.Name != "" {
				names = append(names, x.Name)
			}
		}
		for _, a := range p.Assignments {
			names = append(names, a.Name)
		}
		text := impl.FormatProgram(p)
		for _, name := range names {
			if sharesMemory(name, source) || sharesMemory(name, text) {
				t.Errorf("the name %q shares the memory of %q or %q", name, source, text)
			}
		}
		if sharesMemory(text, source) || sharesMemory(text, impl.FormatProgram(p)) {
			t.Errorf("the text %q shares the memory of another", text)
		}
	}
}

// parserResults is what the functions of the chapter return for a source.
func parserResults(source string) string {
	p, at := impl.Parse(source)
	return fmt.Sprintf("%+v %d %q %v %v %v %d", p, at, impl.FormatProgram(p), impl.IsValidProgram(p), impl.SameProgram(p, impl.Program{}), impl.Roots(p), impl.CountOp(p, 2))
}

func TestP15ParserFunctionsRepeatTheirResults(t *testing.T) {
	all := append(programSources(), randomSources(30)...)
	for _, source := range programSources() {
		all = append(all, source+"a=;", source+"a=(1;", source+"a=f(1,2,3,4);", source+"?")
	}
	checkRepeated(t, all, parserResults)
}
