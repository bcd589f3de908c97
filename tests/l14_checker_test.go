package tests

import (
	"fmt"
	"math/rand/v2"
	"slices"
	"strings"
	"testing"

	"loop.example/g00809/impl"
)

func variableNames() []string {
	return []string{"u", "v", "x", "y", "z", "t"}
}

func functionArities() map[string]int {
	return map[string]int{"abs": 1, "floor": 1, "min": 2, "max": 2, "step": 2, "noise": 2, "clamp": 3, "mix": 3, "tex": 2, "du": 1, "dv": 1}
}

func functionNames() []string {
	return []string{"abs", "clamp", "du", "dv", "floor", "max", "min", "mix", "noise", "step", "tex"}
}

func codeTexts() []string {
	return []string{"ok", "program", "name", "arity", "assign", "color"}
}

func mustParse(t *testing.T, source string) impl.Program {
	t.Helper()
	p, at := impl.Parse(source)
	if at != -1 {
		t.Fatalf("Parse(%q) returns %d", source, at)
	}
	return p
}

// callOf writes a call with that many arguments.
func callOf(name string, count int, arg string) string {
	return name + "(" + strings.Join(slices.Repeat([]string{arg}, count), ",") + ")"
}

// wantOwners descends from the roots of a valid program.
func wantOwners(p impl.Program) []int {
	owners := make([]int, len(p.Nodes))
	var visit func(node, owner int)
	visit = func(node, owner int) {
		owners[node] = owner
		for _, arg := range p.Nodes[node].Args {
			visit(arg, owner)
		}
	}
	for k, a := range p.Assignments {
		visit(a.Root, k)
	}
	return owners
}

func wantKnown(p impl.Program, node, owner int) bool {
	x := p.Nodes[node]
	_, isFunction := functionArities()[x.Name]
	switch x.Op {
	case 8:
		return isFunction
	case 2:
		for k := range owner {
			if p.Assignments[k].Name == x.Name {
				return true
			}
		}
		return slices.Contains(variableNames(), x.Name)
	}
	return true
}

// wantCheck tests the document's conditions one by one.
func wantCheck(p impl.Program) (int, int) {
	if !wantValidProgram(p) {
		return 1, 0
	}
	owners := wantOwners(p)
	for k := range p.Nodes {
		if !wantKnown(p, k, owners[k]) {
			return 2, k
		}
	}
	for k, x := range p.Nodes {
		if x.Op == 8 && functionArities()[x.Name] != len(x.Args) {
			return 3, k
		}
	}
	assigned := map[string]bool{}
	for k, a := range p.Assignments {
		if assigned[a.Name] || slices.Contains(variableNames(), a.Name) {
			return 4, k
		}
		assigned[a.Name] = true
	}
	if !assigned["color"] {
		return 5, 0
	}
	return 0, 0
}

// wantUniform spreads what is not uniform, from where it comes from, until it reaches nothing more.
func wantUniform(p impl.Program) []bool {
	code, _ := wantCheck(p)
	uniform := slices.Repeat([]bool{code == 0}, len(p.Nodes))
	for spreads := code == 0; spreads; {
		spreads = false
		for k, x := range p.Nodes {
			varies := x.Op == 2 && strings.Contains("u v x y z", x.Name) || x.Op == 8 && x.Name == "tex"
			for _, arg := range x.Args {
				varies = varies || !uniform[arg]
			}
			for _, a := range p.Assignments {
				varies = varies || x.Op == 2 && x.Name == a.Name && !uniform[a.Root]
			}
			if varies && uniform[k] {
				uniform[k], spreads = false, true
			}
		}
	}
	return uniform
}

// nodeNumbers lists the indices of nodes, and numbers that are none.
func nodeNumbers(p impl.Program) []int {
	l := append(extremeInts(), len(p.Nodes), len(p.Nodes)+1, len(p.Assignments), impl.MaxNodes, 1<<32)
	for k := range p.Nodes {
		l = append(l, k, ^k)
	}
	return l
}

// checkChecker compares all results for a program with those of the document.
func checkChecker(t *testing.T, p impl.Program) {
	t.Helper()
	code, at := impl.Check(p)
	wantCode, wantAt := wantCheck(p)
	if code != wantCode || at != wantAt {
		t.Fatalf("Check(%+v) = %d, %d, not %d, %d", p, code, at, wantCode, wantAt)
	}
	uniform, count := wantUniform(p), 0
	var owners []int
	if wantCode != 1 {
		owners = wantOwners(p)
	}
	for _, k := range nodeNumbers(p) {
		inside := k >= 0 && k < len(p.Nodes)
		if got, want := impl.IsUniform(p, k), inside && uniform[k]; got != want {
			t.Fatalf("IsUniform(%+v, %d) = %v", p, k, got)
		}
		want := -1
		if inside && owners != nil {
			want = owners[k]
		}
		if got := impl.OwnerOf(p, k); got != want {
			t.Fatalf("OwnerOf(%+v, %d) = %d, not %d", p, k, got, want)
		}
	}
	for _, yes := range uniform {
		if yes {
			count++
		}
	}
	if got := impl.UniformCount(p); got != count {
		t.Fatalf("UniformCount(%+v) = %d, not %d", p, got, count)
	}
}

// checkCase is a source with the results of Check for its program.
type checkCase struct {
	source string
	code   int
	at     int
}

func wantCodes(t *testing.T, cases []checkCase) {
	t.Helper()
	for _, c := range cases {
		p := mustParse(t, c.source)
		if code, at := impl.Check(p); code != c.code || at != c.at {
			t.Errorf("Check(Parse(%q)) = %d, %d, not %d, %d", c.source, code, at, c.code, c.at)
		}
		checkChecker(t, p)
	}
}

// acceptedSources lists sources of programs that Check accepts.
func acceptedSources() []string {
	return []string{
		"color=1;", "color=u;", "color=t;", "color = u * 2;", "color=-t;", "color=-x;", "alpha=1;color=u;", "color=1;alpha=t;", "color=u;alpha=color;", "a=t;color=a;", "a=v;color=a+t;", "color=tex(u,v);", "color=tex(1,t);", "color=du(x);", "color=dv(t);",
		"a=t*2;b=u;c=a+b;d=a-1;color=mix(a,c,d);alpha=clamp(d,0,a);", "abs=1;color=abs(abs);", "du=t;dv=u;color=du(du)+dv(dv);alpha=dv(du);", "color=min(1,max(t,step(2,noise(t,3))));", "a=1;b=a;c=b;d=c;e=d;color=e;alpha=a+b+c+d+e;", "a=z;b=a;c=b;d=t;color=abs(c)/floor(d);",
		"color=mix(clamp(u,0,1),abs(floor(t)),min(max(x,y),step(z,noise(u,v))));alpha=1-color/2;", "a=tex(u,v);b=1;color=du(a)+dv(b);", "x1=x;t1=t;color=x1*t1;alpha=t1*t1;", "colors=1;alphas=2;color=colors;", "color=" + between(58, "-", "t", "") + ";", "color=" + between(29, "t+", "1", "") + ";",
	}
}

// rejectedSources lists a few sources of programs for each code that Parse can lead to.
func rejectedSources() map[int][]string {
	return map[int][]string{
		2: {"color=w;", "color=t;alpha=beta;", "color=f(1);", "color=1+t(2);", "color=color;"},
		3: {"color=abs();", "color=t+mix(1,2);", "color=tex(1,2,3);"},
		4: {"t=1;color=t;", "color=1;color=t;", "color=1;u=2;"},
		5: {"", "alpha=1;", "a=t;b=a;", "colors=2;"},
	}
}

func TestP15CheckerConstants(t *testing.T) {
	got := [6]int{impl.CheckOk, impl.CheckProgram, impl.CheckName, impl.CheckArity, impl.CheckAssign, impl.CheckColor}
	if got != [6]int{0, 1, 2, 3, 4, 5} {
		t.Errorf("the constants are %v", got)
	}
}

// namesLike lists variants of a name that are other names.
func namesLike(name string) []string {
	return []string{
		strings.ToUpper(name), strings.ToUpper(name[:1]) + name[1:], name + name, name + "s", name + "1", "a" + name, name + " ", " " + name, name + "\n", name + "\x00", name + "(", name + "()", name + ";", "é" + name, name[:len(name)-1], name[1:],
	}
}

func TestP15IsVariableAndArity(t *testing.T) {
	names := []string{"", " ", "_", "A", "color", "alpha", "pi", "sin", "time", "uv", "xyz", "uvxyzt", "u v", "abs floor", "absfloor", "min,max", "-1", "0", "tex2", "texture", "derivu", "abcdefgh", strings.Repeat("u", 1000)}
	names = append(names, wordsOver(strings.Split("abcdefghijklmnopqrstuvwxyz0189 ", ""), 2)...)
	for _, name := range append(variableNames(), functionNames()...) {
		names = append(append(names, name), namesLike(name)...)
	}
	variables, functions := map[string]bool{}, map[string]bool{}
	for _, name := range names {
		isVariable := slices.Contains(variableNames(), name)
		if got := impl.IsVariable(name); got != isVariable {
			t.Errorf("IsVariable(%q) = %v", name, got)
		}
		want, isFunction := functionArities()[name]
		if !isFunction {
			want = -1
		}
		if got := impl.Arity(name); got != want {
			t.Errorf("Arity(%q) = %d, not %d", name, got, want)
		}
		variables[name], functions[name] = isVariable, isFunction
	}
	for _, name := range variableNames() {
		if !variables[name] || functions[name] {
			t.Errorf("%q is no variable", name)
		}
	}
	for _, name := range functionNames() {
		if !functions[name] || variables[name] {
			t.Errorf("%q is no function", name)
		}
	}
}

func TestP15CheckText(t *testing.T) {
	for code, want := range codeTexts() {
		if got := impl.CheckText(code); got != want {
			t.Errorf("CheckText(%d) = %q, not %q", code, got, want)
		}
	}
	for _, code := range append(extremeInts(), -6, -5, -4, 6, 7, 8, 10, 256, 257, 1<<32, 1<<32+1) {
		if code < 0 || code > 5 {
			if got := impl.CheckText(code); got != "" {
				t.Errorf("CheckText(%d) = %q", code, got)
			}
		}
	}
}

func TestP15CheckAccepts(t *testing.T) {
	for _, source := range acceptedSources() {
		wantCodes(t, []checkCase{{source, impl.CheckOk, 0}})
	}
}

// Each program breaks one condition of chapter 14.
func TestP15CheckOfProgramsThatAreNotValid(t *testing.T) {
	one, u := numberNode(256), nameNode("u")
	for _, p := range []impl.Program{
		programOf(nodeList(one)), programOf(nodeList(one, u), assign("color", 0)), programOf(nil, assign("color", 0)), programOf(nodeList(one), assign("color", 1)), programOf(nodeList(one), assign("color", -1)), programOf(nodeList(one), assign("color", 0), assign("alpha", 0)),
		programOf(nodeList(one, u), assign("color", 0), assign("", 1)), programOf(nodeList(one, u), assign("color", 0), assign("A", 1)), programOf(nodeList(one, u), assign("abcdefghi", 1), assign("color", 0)),
		programOf(nodeList(impl.Node{}), assign("color", 0)), programOf(nodeList(impl.Node{Op: 9}), assign("color", 0)), programOf(nodeList(impl.Node{Op: -1}), assign("color", 0)),
		programOf(nodeList(impl.Node{Op: 1, Name: "u"}), assign("color", 0)), programOf(nodeList(nameNode("")), assign("color", 0)), programOf(nodeList(nameNode("U")), assign("color", 0)), programOf(nodeList(u, impl.Node{Op: 3, Name: "u", Args: []int{0}}), assign("color", 1)), programOf(nodeList(one, callNode("", 0)), assign("color", 1)), programOf(nodeList(one, callNode("Abs", 0)), assign("color", 1)),
		programOf(nodeList(numberNode(-1)), assign("color", 0)), programOf(nodeList(numberNode(2560000)), assign("color", 0)), programOf(nodeList(impl.Node{Op: 2, Name: "u", Number: 1}), assign("color", 0)), programOf(nodeList(u, impl.Node{Op: 8, Name: "abs", Number: 1, Args: []int{0}}), assign("color", 1)),
		programOf(nodeList(one, impl.Node{Op: 1, Args: []int{0}}), assign("color", 1)), programOf(nodeList(one, impl.Node{Op: 2, Name: "u", Args: []int{0}}), assign("color", 1)), programOf(nodeList(impl.Node{Op: 3}), assign("color", 0)), programOf(nodeList(one, u, impl.Node{Op: 3, Args: []int{0, 1}}), assign("color", 2)), programOf(nodeList(one, impl.Node{Op: 4, Args: []int{0}}), assign("color", 1)), programOf(nodeList(u, u, u, impl.Node{Op: 7, Args: []int{0, 1, 2}}), assign("color", 3)), programOf(nodeList(u, u, u, u, callNode("mix", 0, 1, 2, 3)), assign("color", 4)),
		programOf(nodeList(negateNode(0)), assign("color", 0)), programOf(nodeList(one, negateNode(-1)), assign("a", 0), assign("color", 1)), programOf(nodeList(callNode("abs", 1), one), assign("color", 0)), programOf(nodeList(one, binaryNode("+", 0, 0)), assign("color", 1)), programOf(nodeList(one, negateNode(0)), assign("a", 0), assign("color", 1)),
		programOf(slices.Repeat(nodeList(one), 61), assign("color", 0)), programOf(nodeList(one), slices.Repeat([]impl.Assignment{assign("color", 0)}, 1000)...),
	} {
		if code, at := impl.Check(p); code != impl.CheckProgram || at != 0 {
			t.Errorf("Check(%+v) = %d, %d", p, code, at)
		}
		checkChecker(t, p)
	}
	for _, count := range []int{59, 60, 61, 62, 5000} {
		p := programOf(nodeList(one), assign("color", count-1))
		for k := 1; k < count; k++ {
			p.Nodes = append(p.Nodes, negateNode(k-1))
		}
		wantCode, wantOwner := impl.CheckOk, 0
		if count > 60 {
			wantCode, wantOwner = impl.CheckProgram, -1
		}
		if code, at := impl.Check(p); code != wantCode || at != 0 {
			t.Errorf("Check of %d nodes returns %d, %d", count, code, at)
		}
		if impl.IsUniform(p, 0) != (count <= 60) || impl.OwnerOf(p, 0) != wantOwner {
			t.Errorf("node 0 of %d nodes is uniform: %v, with the owner %d", count, impl.IsUniform(p, 0), impl.OwnerOf(p, 0))
		}
	}
}

func TestP15CheckNames(t *testing.T) {
	wantCodes(t, []checkCase{
		{"color=w;", impl.CheckName, 0}, {"color=w0;", impl.CheckName, 0}, {"color=uu;", impl.CheckName, 0}, {"color=u1;", impl.CheckName, 0}, {"color=colors;", impl.CheckName, 0}, {"color=-w;", impl.CheckName, 0}, {"color=1+w;", impl.CheckName, 1}, {"color=u*2-w;", impl.CheckName, 3}, {"color=abs(w);", impl.CheckName, 0}, {"color=mix(u,1,w);", impl.CheckName, 2}, {"color=1;alpha=u+w;", impl.CheckName, 2},
		{"color=color;", impl.CheckName, 0}, {"a=a;color=1;", impl.CheckName, 0}, {"color=1;a=2-a;", impl.CheckName, 2}, {"a=abs(a);color=a;", impl.CheckName, 0}, {"a=b;b=a;color=a;", impl.CheckName, 0},
		{"color=a;a=1;", impl.CheckName, 0}, {"color=u+a;b=1;a=b;", impl.CheckName, 1}, {"color=alpha;alpha=1;", impl.CheckName, 0}, {"alpha=color;color=1;", impl.CheckName, 0}, {"a=1;b=c;c=a;color=b;", impl.CheckName, 1},
		{"a=1;color=a;", impl.CheckOk, 0}, {"a=1;b=2;color=a;alpha=b;", impl.CheckOk, 0}, {"color=1;alpha=color;", impl.CheckOk, 0}, {"alpha=1;color=alpha;", impl.CheckOk, 0}, {"color=1;a=color;alpha=a-color;", impl.CheckOk, 0}, {"a=1;b=a;c=a+b;color=a*b*c;", impl.CheckOk, 0},
		{"a=1;a=a;color=a;", impl.CheckAssign, 1}, {"a=1;a=a+b;color=a;", impl.CheckName, 2}, {"u=1;color=u;", impl.CheckAssign, 0}, {"color=u;u=1;", impl.CheckAssign, 1}, {"u=u;color=1;", impl.CheckAssign, 0},
	})
	for _, name := range variableNames() {
		wantCodes(t, []checkCase{{"color=" + name + ";", impl.CheckOk, 0}, {"color=1;alpha=2-" + name + ";", impl.CheckOk, 0}, {"color=" + name + name + ";", impl.CheckName, 0}, {"color=a" + name + ";", impl.CheckName, 0}})
	}
	for _, name := range functionNames() {
		wantCodes(t, []checkCase{
			{"color=" + name + ";", impl.CheckName, 0}, {"color=u+" + name + ";", impl.CheckName, 1}, {"color=" + name + ";" + name + "=1;", impl.CheckName, 0}, {name + "=" + name + ";color=1;", impl.CheckName, 0}, {name + "=1;color=" + name + ";", impl.CheckOk, 0},
		})
	}
}

func TestP15CheckFunctionNames(t *testing.T) {
	for _, name := range variableNames() {
		for count := range 4 {
			wantCodes(t, []checkCase{{"color=" + callOf(name, count, "1") + ";", impl.CheckName, count}, {"color=2-" + callOf(name, count, "t") + ";", impl.CheckName, count + 1}})
		}
	}
	for _, name := range []string{"a", "f", "sin", "abss", "ab", "colour", "color", "alpha", "texture", "abcdefgh", "du2"} {
		for count := range 4 {
			wantCodes(t, []checkCase{
				{"color=" + callOf(name, count, "1") + ";", impl.CheckName, count}, {name + "=1;b=" + callOf(name, count, "1") + ";", impl.CheckName, count + 1}, {name + "=1;b=" + callOf(name, count, name) + ";", impl.CheckName, count + 1},
			})
		}
	}
	wantCodes(t, []checkCase{
		{"color=f(w);", impl.CheckName, 0}, {"color=f(1)+w;", impl.CheckName, 1}, {"color=w+f(1);", impl.CheckName, 0}, {"color=abs(f(1));", impl.CheckName, 1}, {"color=f(g(1));", impl.CheckName, 1}, {"color=min(u,f());", impl.CheckName, 1}, {"abs=1;color=abs(abs);", impl.CheckOk, 0}, {"abs=abs(1);color=abs;", impl.CheckOk, 0}, {"a=1;color=a(a);", impl.CheckName, 2},
	})
}

func TestP15CheckArity(t *testing.T) {
	for _, name := range functionNames() {
		for count := range 4 {
			code, at, next := impl.CheckArity, count, count+1
			if count == functionArities()[name] {
				code, at, next = impl.CheckOk, 0, 0
			}
			wantCodes(t, []checkCase{{"color=" + callOf(name, count, "1") + ";", code, at}, {"color=" + callOf(name, count, "u") + ";", code, at}, {name + "=1;color=" + callOf(name, count, name) + ";", code, next}, {"a=1;color=-" + callOf(name, count, "a") + ";", code, next}})
		}
	}
	wantCodes(t, []checkCase{
		{"color=abs(abs(1,2));", impl.CheckArity, 2}, {"color=abs(1,abs());", impl.CheckArity, 1}, {"color=min(abs(1),abs());", impl.CheckArity, 2}, {"color=abs(abs(1),2);", impl.CheckArity, 3}, {"color=1;alpha=mix(1,2);", impl.CheckArity, 3}, {"color=tex(u);alpha=du();", impl.CheckArity, 1}, {"a=du();color=tex(u);", impl.CheckArity, 0}, {"color=clamp(u,mix(1,2,3),dv(t));", impl.CheckOk, 0},
	})
}

func TestP15CheckAssignments(t *testing.T) {
	wantCodes(t, []checkCase{
		{"color=1;color=2;", impl.CheckAssign, 1}, {"color=1;color=color;", impl.CheckAssign, 1}, {"color=1;alpha=1;alpha=2;", impl.CheckAssign, 2}, {"alpha=1;color=1;alpha=2;", impl.CheckAssign, 2}, {"alpha=1;alpha=2;color=3;", impl.CheckAssign, 1}, {"a=1;a=2;color=a;", impl.CheckAssign, 1}, {"a=1;b=2;c=3;a=4;color=a;", impl.CheckAssign, 3}, {"a=1+2;b=a*3;b=4;color=1;", impl.CheckAssign, 2},
		{"a=1;b=2;b=3;a=4;color=1;", impl.CheckAssign, 2}, {"a=1;a=2;a=3;color=1;", impl.CheckAssign, 1}, {"color=1;color=2;color=3;", impl.CheckAssign, 1}, {"color=1;color=2;u=3;", impl.CheckAssign, 1}, {"color=1;u=3;color=2;", impl.CheckAssign, 1}, {"u=1;u=2;color=3;", impl.CheckAssign, 0}, {"v=1;u=2;color=3;", impl.CheckAssign, 0},
		{"a=1;b=2;aa=3;ab=4;color=5;", impl.CheckOk, 0}, {"uu=1;u1=2;vu=3;color=4;", impl.CheckOk, 0},
	})
	for _, name := range variableNames() {
		wantCodes(t, []checkCase{
			{name + "=1;color=2;", impl.CheckAssign, 0}, {"color=2;" + name + "=1;", impl.CheckAssign, 1}, {"color=2;alpha=-3;" + name + "=" + name + ";", impl.CheckAssign, 2}, {name + "=1;", impl.CheckAssign, 0}, {"a=1;b=2+3;" + name + "=u;color=v;" + name + "=1;", impl.CheckAssign, 2},
		})
	}
	for _, name := range functionNames() {
		wantCodes(t, []checkCase{{name + "=1;color=2;", impl.CheckOk, 0}, {"color=2;" + name + "=u;alpha=" + name + ";", impl.CheckOk, 0}, {name + "=1;color=2;" + name + "=3;", impl.CheckAssign, 2}, {name + "=1;", impl.CheckColor, 0}})
	}
}

func TestP15CheckColor(t *testing.T) {
	wantCodes(t, []checkCase{
		{"", impl.CheckColor, 0}, {" \n", impl.CheckColor, 0}, {"alpha=1;", impl.CheckColor, 0}, {"a=1;alpha=u;b=3;", impl.CheckColor, 0}, {"colors=1;", impl.CheckColor, 0}, {"colo=1;", impl.CheckColor, 0}, {"acolor=1;alpha=2;", impl.CheckColor, 0}, {"color1=u;", impl.CheckColor, 0}, {"c=1;o=2;l=3;r=4;", impl.CheckColor, 0},
		{"color=1;", impl.CheckOk, 0}, {"color=1;alpha=2;", impl.CheckOk, 0}, {"alpha=2;color=1;", impl.CheckOk, 0}, {"a=1;color=2;b=3;", impl.CheckOk, 0}, {"colors=1;color=2;", impl.CheckOk, 0},
	})
	for _, p := range []impl.Program{{}, {Nodes: []impl.Node{}, Assignments: []impl.Assignment{}}} {
		if code, at := impl.Check(p); code != impl.CheckColor || at != 0 {
			t.Errorf("Check of the empty program returns %d, %d", code, at)
		}
		checkChecker(t, p)
	}
}

// faultyStatement has one node, so that its node and its assignment have the index of its place. Its number keeps its name apart.
func faultyStatement(kind byte, number int) string {
	switch kind {
	case 'n':
		return fmt.Sprintf("n%d=w;", number)
	case 'f':
		return fmt.Sprintf("f%d=f();", number)
	case 'r':
		return fmt.Sprintf("r%d=abs();", number)
	case 'u':
		return "u=1;"
	case 'c':
		return "color=1;"
	}
	return fmt.Sprintf("l%d=t;", number)
}

// firstCode is what Check returns for statements of these kinds, in this order.
func firstCode(kinds string) (int, int) {
	if at := strings.IndexAny(kinds, "nf"); at != -1 {
		return 2, at
	}
	if at := strings.Index(kinds, "r"); at != -1 {
		return 3, at
	}
	color := strings.Index(kinds, "c")
	for at := range len(kinds) {
		if kinds[at] == 'u' || kinds[at] == 'c' && at > color {
			return 4, at
		}
	}
	if color == -1 {
		return 5, 0
	}
	return 0, 0
}

// Every order of statements of which each breaks a condition, or none: the earlier code is returned, and the first place of several.
func TestP15CheckReturnsTheFirstCode(t *testing.T) {
	counts := map[int]int{}
	for _, kinds := range wordsOver([]string{"n", "f", "r", "u", "c", "l"}, 5) {
		source := ""
		for k := range len(kinds) {
			source += faultyStatement(kinds[k], k)
		}
		p := mustParse(t, source)
		wantCode, wantAt := firstCode(kinds)
		if code, at := impl.Check(p); code != wantCode || at != wantAt {
			t.Fatalf("Check(Parse(%q)) = %d, %d, not %d, %d", source, code, at, wantCode, wantAt)
		}
		counts[wantCode]++
		for k := range p.Nodes {
			q := programCopy(p)
			q.Nodes[k].Number = -1
			if code, at := impl.Check(q); code != impl.CheckProgram || at != 0 {
				t.Fatalf("Check(%+v) = %d, %d", q, code, at)
			}
		}
		unused := programCopy(p)
		unused.Nodes = append(unused.Nodes, numberNode(1))
		if code, at := impl.Check(unused); code != impl.CheckProgram || at != 0 {
			t.Fatalf("Check(%+v) = %d, %d", unused, code, at)
		}
	}
	for _, code := range []int{0, 2, 3, 4, 5} {
		if counts[code] < 6 {
			t.Errorf("only %d programs have the code %d", counts[code], code)
		}
	}
}

func TestP15CheckReturnsTheFirstPlace(t *testing.T) {
	wantCodes(t, []checkCase{
		{"color=w1+w2;", impl.CheckName, 0}, {"color=w1;alpha=w2;", impl.CheckName, 0}, {"color=1-w1;alpha=w1;", impl.CheckName, 1}, {"color=f(1)+g(w);", impl.CheckName, 1}, {"color=abs(w,u)+f();", impl.CheckName, 0}, {"color=abs(1,2)+w;", impl.CheckName, 3}, {"u=1;color=abs(1,2);a=w;", impl.CheckName, 4}, {"u=abs();a=1;b=w;", impl.CheckName, 2},
		{"color=abs()+abs();", impl.CheckArity, 0}, {"color=abs(1)+mix()+min();", impl.CheckArity, 2}, {"u=1;color=2;color=abs();", impl.CheckArity, 2}, {"u=1;a=-abs();", impl.CheckArity, 1}, {"a=1;a=2+min(3);", impl.CheckArity, 3}, {"alpha=1+max();", impl.CheckArity, 1},
		{"a=1;a=2;", impl.CheckAssign, 1}, {"alpha=1+2;b=u;u=3;", impl.CheckAssign, 2}, {"a=1*2*3;a=4;t=5;a=6;", impl.CheckAssign, 1}, {"a=1*2*3;t=5;a=6;", impl.CheckAssign, 1},
	})
}

// orderCase is a program with the results of Check, and those of OwnerOf and IsUniform for each node.
type orderCase struct {
	program impl.Program
	code    int
	at      int
	owners  []int
	uniform []bool
}

// otherOrders lists valid programs that Parse does not return.
func otherOrders() []orderCase {
	one, u, time, a, w := numberNode(256), nameNode("u"), nameNode("t"), nameNode("a"), nameNode("w")
	none := func(count int) []bool { return make([]bool, count) }
	return []orderCase{
		{programOf(nodeList(a, one), assign("a", 1), assign("color", 0)), 0, 0, []int{1, 0}, []bool{true, true}},
		{programOf(nodeList(a, u), assign("a", 1), assign("color", 0)), 0, 0, []int{1, 0}, []bool{false, false}},
		{programOf(nodeList(one, a), assign("color", 1), assign("a", 0)), 2, 1, []int{1, 0}, none(2)},
		{programOf(nodeList(w, one), assign("a", 1), assign("color", 0)), 2, 0, []int{1, 0}, none(2)},
		{programOf(nodeList(w, nameNode("w2"), one), assign("color", 1), assign("a", 2), assign("b", 0)), 2, 0, []int{2, 0, 1}, none(3)},
		{programOf(nodeList(callNode("abs"), a, callNode("min", 1)), assign("a", 0), assign("color", 2)), 3, 0, []int{0, 1, 1}, none(3)},
		{programOf(nodeList(callNode("dv"), callNode("tex")), assign("a", 1), assign("color", 0)), 3, 0, []int{1, 0}, none(2)},
		{programOf(nodeList(one, one, one), assign("color", 2), assign("color", 0), assign("u", 1)), 4, 1, []int{1, 2, 0}, none(3)},
		{programOf(nodeList(one, one, one), assign("a", 2), assign("z", 1), assign("a", 0)), 4, 1, []int{2, 1, 0}, none(3)},
		{programOf(nodeList(one, u), assign("alpha", 1), assign("a", 0)), 5, 0, []int{1, 0}, none(2)},
		{programOf(nodeList(u, a, one, negateNode(1), binaryNode("*", 0, 2)), assign("a", 4), assign("color", 3)), 0, 0, []int{0, 1, 0, 1, 0}, []bool{false, false, true, false, false}},
		{programOf(nodeList(time, a, one, negateNode(1), binaryNode("*", 2, 0)), assign("a", 4), assign("color", 3)), 0, 0, []int{0, 1, 0, 1, 0}, []bool{true, true, true, true, true}},
		{programOf(nodeList(a, a, time, negateNode(0), binaryNode("-", 1, 3), u), assign("a", 2), assign("color", 4), assign("alpha", 5)), 0, 0, []int{1, 1, 0, 1, 1, 2}, []bool{true, true, true, true, true, false}},
		{programOf(nodeList(nameNode("b"), a, u, a), assign("a", 2), assign("b", 3), assign("color", 0), assign("alpha", 1)), 0, 0, []int{2, 3, 0, 1}, []bool{false, false, false, false}},
		{programOf(nodeList(nameNode("c"), nameNode("b"), a, time, one), assign("a", 3), assign("b", 2), assign("c", 1), assign("color", 0), assign("alpha", 4)), 0, 0, []int{3, 2, 1, 0, 4}, []bool{true, true, true, true, true}},
		{programOf(nodeList(a, time, callNode("du", 0), nameNode("b"), u, callNode("mix", 1, 4, 3)), assign("a", 5), assign("color", 2)), 2, 3, []int{1, 0, 1, 0, 0, 0}, none(6)},
		{programOf(nodeList(a, time, callNode("du", 0), one, u, callNode("mix", 1, 4, 3)), assign("a", 5), assign("color", 2)), 0, 0, []int{1, 0, 1, 0, 0, 0}, []bool{false, true, false, true, false, false}},
		{programOf(nodeList(one, time, u, callNode("min", 1, 0), callNode("dv", 3), negateNode(2)), assign("color", 4), assign("alpha", 5)), 0, 0, []int{0, 0, 1, 0, 0, 1}, []bool{true, true, false, true, true, false}},
	}
}

func TestP15CheckAndOwnerOfOtherOrders(t *testing.T) {
	for _, c := range otherOrders() {
		if code, at := impl.Check(c.program); code != c.code || at != c.at {
			t.Errorf("Check(%+v) = %d, %d, not %d, %d", c.program, code, at, c.code, c.at)
		}
		for k, want := range c.owners {
			if got := impl.OwnerOf(c.program, k); got != want {
				t.Errorf("OwnerOf(%+v, %d) = %d, not %d", c.program, k, got, want)
			}
		}
		checkChecker(t, c.program)
	}
}

func TestP6UniformNodesOfOtherOrders(t *testing.T) {
	for _, c := range otherOrders() {
		for k, want := range c.uniform {
			if got := impl.IsUniform(c.program, k); got != want {
				t.Errorf("IsUniform(%+v, %d) = %v", c.program, k, got)
			}
		}
	}
}

// wantUniformNodes expects, for each node, a letter: u if it is uniform, and - if not.
func wantUniformNodes(t *testing.T, source, letters string) {
	t.Helper()
	p := mustParse(t, source)
	if len(p.Nodes) != len(letters) {
		t.Fatalf("%q has %d nodes, not %d", source, len(p.Nodes), len(letters))
	}
	got := ""
	for k := range p.Nodes {
		got += map[bool]string{true: "u", false: "-"}[impl.IsUniform(p, k)]
	}
	if got != letters {
		t.Errorf("the uniform nodes of %q are %s, not %s", source, got, letters)
	}
	if got, want := impl.UniformCount(p), strings.Count(letters, "u"); got != want {
		t.Errorf("UniformCount(Parse(%q)) = %d, not %d", source, got, want)
	}
	checkChecker(t, p)
}

func TestP6UniformNodes(t *testing.T) {
	for _, c := range [][2]string{
		{"color=1;", "u"}, {"color=0;", "u"}, {"color=t;", "u"}, {"color=u;", "-"}, {"color=v;", "-"}, {"color=x;", "-"}, {"color=y;", "-"}, {"color=z;", "-"}, {"color = u * 2;", "-u-"}, {"color=1;alpha=u;", "u-"}, {"color=u;alpha=t;", "-u"},
		{"color=-t;", "uu"}, {"color=-2;", "uu"}, {"color=-v;", "--"}, {"color=--x;", "---"}, {"color=t+1;", "uuu"}, {"color=t+x;", "u--"}, {"color=x+t;", "-u-"}, {"color=t*t-t/2;", "uuuuuuu"}, {"color=t*t-u/2;", "uuu-u--"}, {"color=(u-u)+1;", "---u-"}, {"color=u*0;", "-u-"},
		{"a=1;color=a;", "uu"}, {"a=t;color=a*a;", "uuuu"}, {"a=u;color=a;", "--"}, {"a=u;color=1;", "-u"}, {"a=u;b=t;color=a+b;alpha=b;", "-u-u-u"}, {"color=t;alpha=color;", "uu"}, {"color=y;alpha=color;", "--"}, {"u1=1;color=u1;", "uu"}, {"t1=u;color=t1;", "--"}, {"abs=t;color=abs(abs);", "uuu"}, {"abs=z;color=abs(abs);", "---"}, {"tex=1;color=tex;", "uu"}, {"tex=1;color=tex+tex(tex,tex);", "uuuu--"}, {"du=t;color=du(du);", "uuu"},
		{"a=1;b=a;c=b;d=c;color=d;", "uuuuu"}, {"a=u;b=a;c=b;d=c;color=d;", "-----"}, {"a=t;b=a+u;c=b;d=a;color=c;alpha=d;", "uu---u-u"}, {"a=t;b=a;c=tex(b,a);d=c;color=d;alpha=b;", "uuuu---u"}, {"a=x;b=t;c=b-1;d=c*a;color=c;alpha=d;", "-uuuuu--u-"},
		{"color=abs(t);", "uu"}, {"color=abs(u);", "--"}, {"color=du(1);", "uu"}, {"color=dv(1);", "uu"}, {"color=du(t);", "uu"}, {"color=dv(t);", "uu"}, {"color=du(u);", "--"}, {"color=du(v);", "--"}, {"color=dv(u);", "--"}, {"color=dv(v);", "--"}, {"color=du(z);", "--"}, {"a=t;color=du(a)+dv(a);", "uuuuuu"}, {"a=y;color=du(a)+dv(a);", "------"}, {"color=du(dv(t*2));", "uuuuu"}, {"color=du(dv(t*u));", "u----"},
		{"color=tex(1,2);", "uu-"}, {"color=tex(t,t);", "uu-"}, {"color=tex(u,1);", "-u-"}, {"color=tex(u,v);", "---"}, {"color=-tex(1,2);", "uu--"}, {"color=du(tex(1,2));", "uu--"}, {"color=tex(1,2)*0;", "uu-u-"}, {"a=tex(t,1);color=a;alpha=t;", "uu--u"}, {"color=tex(tex(1,2),3);", "uu-u-"}, {"color=noise(tex(1,2),3);", "uu-u-"}, {"color=noise(1,t);", "uuu"}, {"color=noise(t,y);", "u--"},
		{"color=mix(t,1,2);", "uuuu"}, {"color=mix(t,1,u);", "uu--"}, {"color=mix(u,1,t);", "-uu-"}, {"color=min(1,max(2,step(t,clamp(3,4,abs(floor(5))))));", "uuuuuuuuuuuu"}, {"color=min(1,max(2,step(t,clamp(3,4,abs(floor(z))))));", "uuuuu-------"}, {"color=min(abs(t),abs(u))+floor(max(t,2));", "uu---uuuu-"},
	} {
		wantUniformNodes(t, c[0], c[1])
	}
}

// uniformParts lists expressions, for use behind a prefix that assigns a (uniform) and b (not uniform).
func uniformParts() (string, map[string]bool) {
	return "a=t*2;b=a+v;", map[string]bool{"3": true, "t": true, "a": true, "(a+1)": true, "du(a)": true, "-t": true, "b": false, "u": false, "v": false, "x": false, "y": false, "z": false, "tex(1,a)": false, "dv(b)": false, "(1-b)": false, "-u": false}
}

func wantUniformRoot(t *testing.T, source string, want bool) {
	t.Helper()
	p := mustParse(t, source)
	if got := impl.IsUniform(p, len(p.Nodes)-1); got != want {
		t.Errorf("the last node of %q is uniform: %v", source, got)
	}
}

// An operation or a function is uniform if all its arguments are, in every place.
func TestP6UniformArguments(t *testing.T) {
	prefix, parts := uniformParts()
	for first, isFirst := range parts {
		wantUniformRoot(t, prefix+"color="+first+";", isFirst)
		wantUniformRoot(t, prefix+"color=-"+first+";", isFirst)
		wantUniformRoot(t, prefix+"color=1;alpha="+first+";", isFirst)
		wantUniformRoot(t, prefix+"c="+first+";color=c;", isFirst)
		for _, name := range []string{"abs", "floor", "du", "dv"} {
			wantUniformRoot(t, prefix+"color="+name+"("+first+");", isFirst)
		}
		for second, isSecond := range parts {
			both := isFirst && isSecond
			for _, op := range []string{"+", "-", "*", "/"} {
				wantUniformRoot(t, prefix+"color="+first+op+second+";", both)
			}
			for _, name := range []string{"min", "max", "step", "noise"} {
				wantUniformRoot(t, prefix+"color="+name+"("+first+","+second+");", both)
			}
			wantUniformRoot(t, prefix+"color=tex("+first+","+second+");", false)
			for third, isThird := range parts {
				for _, name := range []string{"clamp", "mix"} {
					wantUniformRoot(t, prefix+"color="+name+"("+first+","+second+","+third+");", both && isThird)
				}
			}
		}
	}
}

func TestP6UniformNodesOfChains(t *testing.T) {
	for _, first := range []string{"t", "1", "u", "z"} {
		letter := map[bool]string{true: "u", false: "-"}[first == "t" || first == "1"]
		chain, doubled := "a0="+first+";", "a0="+first+";"
		for k := 1; k < 59; k++ {
			chain += fmt.Sprintf("a%d=a%d;", k, k-1)
		}
		wantUniformNodes(t, chain+"color=a58;", strings.Repeat(letter, 60))
		for k := 1; k < 20; k++ {
			doubled += fmt.Sprintf("a%d=a%d*a%d;", k, k-1, k-1)
		}
		wantUniformNodes(t, doubled+"color=a19;", strings.Repeat(letter, 59))
	}
	// A chain of which one link is not uniform, and with it all that follow.
	for broken := range 59 {
		chain := ""
		for k := range 59 {
			switch k {
			case broken:
				chain += fmt.Sprintf("a%d=y;", k)
			case 0:
				chain += "a0=t;"
			default:
				chain += fmt.Sprintf("a%d=a%d;", k, k-1)
			}
		}
		wantUniformNodes(t, chain+"color=a58;", strings.Repeat("u", broken)+strings.Repeat("-", 60-broken))
	}
}

func TestP6OtherNumbersAreNotUniform(t *testing.T) {
	for _, source := range acceptedSources() {
		p := mustParse(t, source)
		for _, k := range nodeNumbers(p) {
			if (k < 0 || k >= len(p.Nodes)) && impl.IsUniform(p, k) {
				t.Errorf("IsUniform(Parse(%q), %d) = true", source, k)
			}
		}
	}
}

// wantNothingUniform expects that no node of a program is uniform.
func wantNothingUniform(t *testing.T, p impl.Program) {
	t.Helper()
	for _, k := range nodeNumbers(p) {
		if impl.IsUniform(p, k) {
			t.Errorf("IsUniform(%+v, %d) = true", p, k)
		}
	}
	if count := impl.UniformCount(p); count != 0 {
		t.Errorf("UniformCount(%+v) = %d", p, count)
	}
}

func TestP6RejectedProgramsHaveNoUniformNodes(t *testing.T) {
	for code, sources := range rejectedSources() {
		for _, source := range sources {
			p := mustParse(t, source)
			if got, _ := impl.Check(p); got != code {
				t.Errorf("Check(Parse(%q)) = %d, not %d", source, got, code)
			}
			wantNothingUniform(t, p)
		}
	}
	for _, p := range []impl.Program{{}, programOf(nodeList(numberNode(1), nameNode("t")), assign("color", 0)), programOf(nodeList(numberNode(-1)), assign("color", 0)), programOf(nodeList(nameNode("t")), assign("color", 0), assign("alpha", 0)), programOf(nodeList(nameNode("t")), assign("color", 0), assign("Alpha", 0)), programOf(nil, assign("color", 0)), programOf(nodeList(nameNode("t")), assign("color", 1))} {
		wantNothingUniform(t, p)
	}
}

func TestP15UniformCount(t *testing.T) {
	for _, c := range []struct {
		source string
		want   int
	}{
		{"color=u;", 0}, {"color=tex(u,v);", 0}, {"color=-x;alpha=color*y;", 0}, {"color=du(z)+dv(z);", 0}, {"color = u * 2;", 1}, {"color=1;", 1}, {"color=t;alpha=u;", 1}, {"color=tex(1,2);", 2}, {"a=t;color=a+u;", 2}, {"color=mix(1,t,u);", 2}, {"color=mix(1,t,3);alpha=u;", 4}, {"a=1;b=a;color=b;", 3}, {"color=1;alpha=2;", 2}, {"", 0}, {"alpha=1;", 0}, {"a=1;b=2;", 0}, {"color=1;color=2;", 0}, {"color=1;t=2;", 0}, {"color=1+abs();", 0}, {"color=1+w;", 0},
		{"color=" + between(59, "-", "1", "") + ";", 60}, {"color=" + between(59, "-", "u", "") + ";", 0}, {"color=" + between(29, "t+", "t", "") + ";", 59}, {"color=" + between(29, "t+", "u", "") + ";", 57}, {"color=u" + strings.Repeat("+t", 29) + ";", 29},
	} {
		if got := impl.UniformCount(mustParse(t, c.source)); got != c.want {
			t.Errorf("UniformCount(Parse(%q)) = %d, not %d", c.source, got, c.want)
		}
	}
}

func TestP15OwnerOf(t *testing.T) {
	for _, c := range []struct {
		source string
		want   string
	}{
		{"", ""}, {"a=1;", "0"}, {"color=u*2;", "000"}, {"color=-u;alpha=2;", "001"}, {"a=1;b=2;c=3;", "012"}, {"a=1;a=2;a=a;", "012"}, {"a=w;b=f();u=abs(1,2);", "01222"}, {"a=f(g(1),-h(),2);b=(3);color=a*b-1;", "000000122222"}, {"a=1+2*3;b=-(4-5)/6;", "00000111111"}, {"color=mix(u,v,t);alpha=color;", "00001"},
	} {
		p := mustParse(t, c.source)
		got := ""
		for k := range p.Nodes {
			got += fmt.Sprint(impl.OwnerOf(p, k))
		}
		if got != c.want {
			t.Errorf("the owners of the nodes of %q are %s, not %s", c.source, got, c.want)
		}
		for _, k := range nodeNumbers(p) {
			if (k < 0 || k >= len(p.Nodes)) && impl.OwnerOf(p, k) != -1 {
				t.Errorf("OwnerOf(Parse(%q), %d) = %d", c.source, k, impl.OwnerOf(p, k))
			}
		}
	}
	p := mustParse(t, filled(60))
	for k := range 60 {
		if got := impl.OwnerOf(p, k); got != k {
			t.Errorf("OwnerOf(p, %d) = %d", k, got)
		}
	}
}

func TestP15OwnerOfProgramsThatAreNotValid(t *testing.T) {
	for _, source := range acceptedSources() {
		p := mustParse(t, source)
		for _, q := range []impl.Program{
			{Nodes: p.Nodes}, {Assignments: p.Assignments}, {Nodes: append(slices.Clone(p.Nodes), numberNode(1)), Assignments: p.Assignments}, {Nodes: p.Nodes, Assignments: append(slices.Clone(p.Assignments), assign("a", 0))}, {Nodes: p.Nodes, Assignments: append(slices.Clone(p.Assignments[1:]), assign("A", p.Assignments[0].Root))}, {Nodes: p.Nodes[1:], Assignments: p.Assignments},
		} {
			for _, k := range nodeNumbers(q) {
				if got := impl.OwnerOf(q, k); got != -1 {
					t.Errorf("OwnerOf(%+v, %d) = %d", q, k, got)
				}
			}
		}
	}
}

// randomPart writes an expression, in which few names are unknown and few calls have a wrong number of arguments.
func randomPart(r *rand.Rand, locals []string, depth int) string {
	next := func() string { return randomPart(r, locals, depth+1) }
	kind := r.IntN(11)
	if depth > 3 {
		kind = r.IntN(4)
	}
	switch kind {
	case 0:
		return []string{"0", "1", "0.5", "12"}[r.IntN(4)]
	case 1:
		return append(variableNames(), "t", "t", "t")[r.IntN(9)]
	case 2, 3:
		if r.IntN(60) == 0 {
			return []string{"w", "color", "abs", "b9"}[r.IntN(4)]
		}
		return locals[r.IntN(len(locals))]
	case 4:
		return "(-" + next() + ")"
	case 5, 6:
		return "(" + next() + string("+-*/"[r.IntN(4)]) + next() + ")"
	}
	name := functionNames()[r.IntN(11)]
	var args []string
	for range functionArities()[name] {
		args = append(args, next())
	}
	if r.IntN(60) == 0 {
		args = args[1:]
	}
	if r.IntN(60) == 0 {
		name = []string{"f", "u", "a0", "color"}[r.IntN(4)]
	}
	return name + "(" + strings.Join(args, ",") + ")"
}

// randomShader writes a source with several assignments, of which the later ones use the earlier ones.
func randomShader(r *rand.Rand) string {
	locals, source := []string{"t"}, ""
	assigned := func(name string) {
		source += name + "=" + randomPart(r, locals, r.IntN(3)) + ";"
		locals = append(locals, name)
	}
	for k := range r.IntN(6) {
		assigned([]string{fmt.Sprintf("a%d", k), functionNames()[k]}[r.IntN(2)])
	}
	if r.IntN(12) > 0 {
		assigned("color")
	}
	if r.IntN(3) > 0 {
		assigned("alpha")
	}
	if r.IntN(12) == 0 {
		assigned(append(locals, "u", "t")[r.IntN(len(locals)+2)])
	}
	return source
}

// reordered puts the nodes of a valid program in a random order in which arguments still come first. It returns the new index of every node, too.
func reordered(r *rand.Rand, p impl.Program) (impl.Program, []int) {
	places := slices.Repeat([]int{-1}, len(p.Nodes))
	var q impl.Program
	for len(q.Nodes) < len(p.Nodes) {
		k := r.IntN(len(p.Nodes))
		x := p.Nodes[k]
		var args []int
		for _, arg := range x.Args {
			args = append(args, places[arg])
		}
		if places[k] == -1 && !slices.Contains(args, -1) {
			places[k] = len(q.Nodes)
			q.Nodes = append(q.Nodes, impl.Node{Op: x.Op, Name: x.Name, Number: x.Number, Args: args})
		}
	}
	for _, a := range p.Assignments {
		q.Assignments = append(q.Assignments, assign(a.Name, places[a.Root]))
	}
	return q, places
}

// randomShaders lists valid programs that have all codes but CheckProgram.
func randomShaders(count int) []impl.Program {
	r := rand.New(rand.NewPCG(14, 15))
	var l []impl.Program
	for len(l) < count {
		if p, at := impl.Parse(randomShader(r)); at == -1 {
			l = append(l, p)
		}
	}
	return l
}

func TestP15CheckerOfRandomPrograms(t *testing.T) {
	r := rand.New(rand.NewPCG(1, 14))
	counts := map[int]int{}
	for _, p := range randomShaders(3000) {
		checkChecker(t, p)
		q, _ := reordered(r, p)
		checkChecker(t, q)
		r.Shuffle(len(q.Assignments), func(i, k int) {
			q.Assignments[i], q.Assignments[k] = q.Assignments[k], q.Assignments[i]
		})
		checkChecker(t, q)
		code, _ := impl.Check(p)
		counts[code]++
	}
	for _, code := range []int{0, 2, 3, 4, 5} {
		if counts[code] < 100 {
			t.Errorf("only %d programs have the code %d", counts[code], code)
		}
	}
}

// The order of the nodes has no influence on the code, nor on which nodes are uniform.
func TestP6UniformNodesDoNotDependOnTheirOrder(t *testing.T) {
	r := rand.New(rand.NewPCG(2, 14))
	some := 0
	for _, p := range randomShaders(1500) {
		q, places := reordered(r, p)
		code, _ := impl.Check(p)
		if got, _ := impl.Check(q); got != code {
			t.Fatalf("Check(%+v) = %d, but Check(%+v) = %d", q, got, p, code)
		}
		for k, place := range places {
			if impl.IsUniform(p, k) != impl.IsUniform(q, place) || impl.OwnerOf(p, k) != impl.OwnerOf(q, place) {
				t.Fatalf("node %d of %+v has another result than node %d of %+v", k, p, place, q)
			}
		}
		count := impl.UniformCount(p)
		if got := impl.UniformCount(q); got != count {
			t.Fatalf("UniformCount(%+v) = %d, but UniformCount(%+v) = %d", q, got, p, count)
		}
		if count > 0 && count < len(p.Nodes) {
			some++
		}
	}
	if some < 500 {
		t.Errorf("only %d programs have nodes of both kinds", some)
	}
}

func TestP6CheckedProgramsAreRecovered(t *testing.T) {
	for _, p := range randomShaders(1000) {
		q, at := impl.Parse(impl.FormatProgram(p))
		if at != -1 || !equalPrograms(p, q) {
			t.Fatalf("%+v becomes %+v, %d", p, q, at)
		}
		code, place := impl.Check(p)
		if again, at := impl.Check(q); again != code || at != place || impl.UniformCount(p) != impl.UniformCount(q) {
			t.Fatalf("the results for %+v change when it is parsed again", p)
		}
	}
}

// Every change of one field, one element or one length of a program.
func TestP15CheckerOfChangedPrograms(t *testing.T) {
	counts := map[int]int{}
	for _, source := range acceptedSources()[:24] {
		for _, q := range changedPrograms(mustParse(t, source)) {
			checkChecker(t, q)
			code, _ := impl.Check(q)
			counts[code]++
		}
	}
	for code := range 6 {
		if counts[code] < 5 {
			t.Errorf("only %d changed programs have the code %d", counts[code], code)
		}
	}
}

// checkerPrograms lists programs with all codes.
func checkerPrograms(t *testing.T) []impl.Program {
	l := append(plainPrograms(), randomShaders(100)...)
	for _, source := range acceptedSources() {
		l = append(l, mustParse(t, source))
	}
	for _, sources := range rejectedSources() {
		for _, source := range sources {
			l = append(l, mustParse(t, source))
		}
	}
	for _, c := range otherOrders() {
		l = append(l, c.program)
	}
	return append(l, changedPrograms(mustParse(t, "a=t;color=mix(a,1,u);"))...)
}

// checkerResults is what the functions of the chapter return for a program.
func checkerResults(p impl.Program) string {
	code, at := impl.Check(p)
	text := fmt.Sprint(code, at, impl.CheckText(code), impl.UniformCount(p))
	for k := -1; k <= len(p.Nodes); k++ {
		text += fmt.Sprint(" ", impl.IsUniform(p, k), impl.OwnerOf(p, k))
	}
	for _, x := range p.Nodes {
		text += fmt.Sprint(" ", impl.IsVariable(x.Name), impl.Arity(x.Name))
	}
	return text
}

func TestP15CheckerFunctionsChangeNothing(t *testing.T) {
	for _, q := range checkerPrograms(t) {
		p := roomyProgram(q)
		before := wholeProgram(p)
		checkerResults(p)
		if !equalPrograms(wholeProgram(p), before) {
			t.Fatalf("%+v became %+v", before, wholeProgram(p))
		}
	}
}

// The results for a program stay the same, with those for others in between, and do not depend on whether a list is nil or empty.
func TestP15CheckerFunctionsRepeatTheirResults(t *testing.T) {
	all := checkerPrograms(t)
	var first []string
	for _, p := range all {
		first = append(first, checkerResults(p))
	}
	for k := len(all) - 1; k >= 0; k-- {
		for _, p := range []impl.Program{all[k], all[k], roomyProgram(all[k])} {
			if got := checkerResults(p); got != first[k] {
				t.Fatalf("the results for %+v are %s, and later %s", p, first[k], got)
			}
		}
	}
}
