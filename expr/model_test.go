package expr_test

import (
	"fmt"
	"math/rand"
	"regexp"
	"slices"
	"strconv"
	"strings"
	"testing"

	"testbench/api"
	"testbench/expr"
)

const (
	keywords = "class extends rand randc state constraint soft dist if else each in solve before inside property seq and or not set hold plain repeat"
	longName = "a123456789_BCDEF" // a name with the most bytes
)

var (
	modelName    = regexp.MustCompile(`^[a-z][a-zA-Z0-9_]{0,15}$`)
	modelElement = regexp.MustCompile(`^([a-z][a-zA-Z0-9_]{0,15})\[[0-7]\]$`)
	modelWords   = strings.Fields(keywords)
	modelArity   = arities()
)

func number(n int) api.Expr {
	return api.Expr{Op: api.ExConst, N: n}
}

func variable(name string) api.Expr {
	return api.Expr{Op: api.ExVar, Name: name}
}

func element(array string, index api.Expr) api.Expr {
	return api.Expr{Op: api.ExElem, Name: array, Args: []api.Expr{index}}
}

func sum(array string) api.Expr {
	return api.Expr{Op: api.ExSum, Name: array}
}

func node(op int, args ...api.Expr) api.Expr {
	return api.Expr{Op: op, Args: args}
}

// numbers returns a node whose operands are numbers.
func numbers(op int, list ...int) api.Expr {
	e := api.Expr{Op: op}
	for _, n := range list {
		e.Args = append(e.Args, number(n))
	}
	return e
}

// chain returns e below n nodes with one operand each.
func chain(n int, e api.Expr) api.Expr {
	for range n {
		e = node(api.ExInv, e)
	}
	return e
}

// arities returns the table of the chapter: the number of operands of each operator, by its number; -1 for ExInside.
func arities() map[int]int {
	list := map[int]int{api.ExConst: 0, api.ExVar: 0, api.ExSum: 0, api.ExElem: 1, api.ExNot: 1, api.ExInv: 1, api.ExNeg: 1, api.ExOnes: 1, api.ExIf: 3, api.ExInside: -1}
	for op := 1; op <= 25; op++ {
		if _, listed := list[op]; !listed {
			list[op] = 2
		}
	}
	return list
}

// preorder returns the nodes of e in their order, and the length of the path from the root to each.
func preorder(e api.Expr) (list []api.Expr, levels []int) {
	waiting, levelsOf := []api.Expr{e}, []int{1}
	for len(waiting) > 0 {
		last := len(waiting) - 1
		next, level := waiting[last], levelsOf[last]
		waiting, levelsOf = waiting[:last], levelsOf[:last]
		list, levels = append(list, next), append(levels, level)
		for i := len(next.Args) - 1; i >= 0; i-- {
			waiting, levelsOf = append(waiting, next.Args[i]), append(levelsOf, level+1)
		}
	}
	return list, levels
}

func isModelName(s string) bool {
	return modelName.MatchString(s) && !slices.Contains(modelWords, s)
}

func isModelVariable(s string) bool {
	parts := modelElement.FindStringSubmatch(s)
	return isModelName(s) || parts != nil && isModelName(parts[1])
}

// modelFault returns the error of a node by the sentences of P8.2.
func modelFault(e api.Expr) api.Errno {
	arity, known := modelArity[e.Op]
	if !known {
		return api.ErrArg
	}
	if e.Op == api.ExConst && (e.N < 0 || e.N > 65535) || e.Op != api.ExConst && e.N != 0 {
		return api.ErrArg
	}
	if e.Name != "" && e.Op != api.ExVar && e.Op != api.ExElem && e.Op != api.ExSum {
		return api.ErrArg
	}
	count := len(e.Args)
	if arity >= 0 && count != arity || arity < 0 && (count < 3 || count > 33 || count%2 == 0) {
		return api.ErrArg
	}
	if e.Op == api.ExVar && !isModelVariable(e.Name) {
		return api.ErrName
	}
	if (e.Op == api.ExElem || e.Op == api.ExSum) && !isModelName(e.Name) {
		return api.ErrName
	}
	return api.OK
}

func modelValid(e api.Expr) api.Errno {
	list, levels := preorder(e)
	for _, part := range list {
		if err := modelFault(part); err != api.OK {
			return err
		}
	}
	if len(list) > 400 || slices.Max(levels) > 24 {
		return api.ErrLimit
	}
	return api.OK
}

// modelLookup returns the value of the first signal with the name.
func modelLookup(env []api.Signal, name string) (int, bool) {
	i := slices.IndexFunc(env, func(s api.Signal) bool { return s.Name == name })
	if i < 0 {
		return 0, false
	}
	return (env[i].Value%65536 + 65536) % 65536, true
}

// modelElements returns the elements of the array that there are, by their numbers.
func modelElements(env []api.Signal, array string) map[int]int {
	list := map[int]int{}
	for i := range 8 {
		if value, found := modelLookup(env, array+"["+strconv.Itoa(i)+"]"); found {
			list[i] = value
		}
	}
	return list
}

// modelEval follows P8.6 and the table of the chapter.
func modelEval(e api.Expr, env []api.Signal) (int, api.Errno) {
	if modelValid(e) != api.OK {
		return 0, api.ErrArg
	}
	list, _ := preorder(e)
	for _, part := range list {
		needed := part.Name
		if part.Op == api.ExElem || part.Op == api.ExSum {
			needed += "[0]"
		}
		if _, found := modelLookup(env, needed); needed != "" && !found {
			return 0, api.ErrName
		}
	}
	return modelValue(e, env), api.OK
}

func modelValue(e api.Expr, env []api.Signal) int {
	var operands []int
	for _, arg := range e.Args {
		operands = append(operands, modelValue(arg, env))
	}
	switch e.Op {
	case api.ExConst:
		return e.N
	case api.ExVar:
		value, _ := modelLookup(env, e.Name)
		return value
	case api.ExElem:
		return modelElements(env, e.Name)[operands[0]]
	case api.ExSum:
		total := 0
		for _, value := range modelElements(env, e.Name) {
			total += value
		}
		return total % 65536
	}
	return modelResult(e.Op, operands)
}

// modelResult computes with plain numbers, and bit by bit.
func modelResult(op int, v []int) int {
	power := func(n int) int { return 1 << min(n, 16) }
	bits := func(of func(a, b byte) bool) int {
		a, b, digits := fmt.Sprintf("%016b", v[0]), fmt.Sprintf("%016b", v[1]), ""
		for i := range a {
			digits += strconv.Itoa(modelTruth(of(a[i], b[i])))
		}
		n, _ := strconv.ParseInt(digits, 2, 0)
		return int(n)
	}
	switch op {
	case api.ExNot:
		return modelTruth(v[0] == 0)
	case api.ExInv:
		return 65535 - v[0]
	case api.ExNeg:
		return (65536 - v[0]) % 65536
	case api.ExOnes:
		return strings.Count(strconv.FormatInt(int64(v[0]), 2), "1")
	case api.ExAdd:
		return (v[0] + v[1]) % 65536
	case api.ExSub:
		return (v[0] + 65536 - v[1]) % 65536
	case api.ExMul:
		return v[0] * v[1] % 65536
	case api.ExShl:
		return v[0] * power(v[1]) % 65536
	case api.ExShr:
		return v[0] / power(v[1])
	case api.ExAnd:
		return bits(func(a, b byte) bool { return a == '1' && b == '1' })
	case api.ExOr:
		return bits(func(a, b byte) bool { return a == '1' || b == '1' })
	case api.ExXor:
		return bits(func(a, b byte) bool { return a != b })
	case api.ExIf:
		return map[bool]int{true: v[1], false: v[2]}[v[0] != 0]
	}
	return modelTruth(modelHolds(op, v))
}

// modelHolds computes the operators whose value is a truth.
func modelHolds(op int, v []int) bool {
	switch op {
	case api.ExEq:
		return v[0]-v[1] == 0
	case api.ExNe:
		return v[0]-v[1] != 0
	case api.ExLt:
		return v[0]-v[1] < 0
	case api.ExLe:
		return v[0]-v[1] <= 0
	case api.ExBoth:
		return v[0]*v[1] != 0
	case api.ExEither:
		return v[0]+v[1] != 0
	case api.ExImplies:
		return !(v[0] != 0 && v[1] == 0)
	}
	held := false
	for pair := range slices.Chunk(v[1:], 2) {
		held = held || pair[0] <= v[0] && v[0] <= pair[1]
	}
	return held
}

func modelTruth(holds bool) int {
	return map[bool]int{true: 1}[holds]
}

// modelFold follows P8.7.
func modelFold(e api.Expr) api.Expr {
	if modelValid(e) != api.OK {
		return e
	}
	return modelFolded(e)
}

// modelFolded goes from the leaves to the root.
func modelFolded(e api.Expr) api.Expr {
	var args []api.Expr
	constant := true
	for _, arg := range e.Args {
		args = append(args, modelFolded(arg))
		constant = constant && args[len(args)-1].Op == api.ExConst
	}
	e.Args = args
	kept := []int{api.ExConst, api.ExVar, api.ExElem, api.ExSum}
	if !constant || slices.Contains(kept, e.Op) {
		return e
	}
	return number(modelValue(e, nil))
}

// equal compares the nodes in their order, with the numbers of their operands: these determine an expression.
func equal(a, b api.Expr) bool {
	left, _ := preorder(a)
	right, _ := preorder(b)
	return slices.EqualFunc(left, right, func(x, y api.Expr) bool {
		return x.Op == y.Op && x.N == y.N && x.Name == y.Name && len(x.Args) == len(y.Args)
	})
}

// show returns the beginning of the text of an expression or a list of signals.
func show(value any) string {
	text := fmt.Sprint(value)
	return text[:min(len(text), 300)]
}

// trimmed returns a copy of e without room behind its lists, and without empty lists.
func trimmed(e api.Expr) api.Expr {
	var args []api.Expr
	for _, arg := range e.Args {
		args = append(args, trimmed(arg))
	}
	e.Args = args
	return e
}

// roomy returns a copy of e in which an invalid expression lies behind the operands of each node.
func roomy(e api.Expr) api.Expr {
	var args []api.Expr
	for _, arg := range e.Args {
		args = append(args, roomy(arg))
	}
	e.Args = append(args, junk())[:len(args)]
	return e
}

func junk() api.Expr {
	return api.Expr{Op: -1, N: -1, Name: "junk"}
}

// checkRoom checks that e, which roomy has returned for want, is as it was.
func checkRoom(t *testing.T, e, want api.Expr) {
	t.Helper()
	if !equal(e, want) {
		t.Errorf("%s has changed to %s", show(want), show(e))
	}
	list, _ := preorder(e)
	for _, part := range list {
		count := len(part.Args)
		if behind := part.Args[:count+1][count]; !equal(behind, junk()) {
			t.Errorf("what lies behind the operands of %s has changed to %s", show(part), show(behind))
		}
	}
}

// checkNew checks that the lists of the result share no memory with each other and with the arguments.
func checkNew(t *testing.T, result api.Expr, arguments ...api.Expr) {
	t.Helper()
	seen := map[*api.Expr]bool{}
	visit := func(e api.Expr, isResult bool) {
		list, _ := preorder(e)
		for _, part := range list {
			for i := range part.Args {
				if isResult && seen[&part.Args[i]] {
					t.Fatalf("the memory of %s in %s is not new", show(part), show(result))
				}
				seen[&part.Args[i]] = true
			}
		}
	}
	for _, argument := range arguments {
		visit(argument, false)
	}
	visit(result, true)
}

// maker makes random expressions and signals.
type maker struct{ *rand.Rand }

func newMaker(seed int64) maker {
	return maker{rand.New(rand.NewSource(seed))}
}

func pick[T any](m maker, list ...T) T {
	return list[m.Intn(len(list))]
}

func (m maker) word() int {
	return pick(m, 0, 1, 1, 2, 3, 7, 8, 15, 16, 17, 255, 256, 32767, 32768, 65534, 65535, m.Intn(65536))
}

func (m maker) leaf() api.Expr {
	switch m.Intn(5) {
	case 0, 1:
		return number(m.word())
	case 2:
		return sum(pick(m, "a", "d", "e"))
	}
	return variable(pick(m, "a", "b", "x1", "d[0]", "d[1]", "d[7]", "e[3]", longName, longName+"[2]"))
}

// expr returns an expression with at most so many levels.
func (m maker) expr(levels int) api.Expr {
	if levels == 1 || m.Intn(5) == 0 {
		return m.leaf()
	}
	op := pick(m, api.ExElem, api.ExOnes, 4+m.Intn(20), 4+m.Intn(20), 4+m.Intn(20), 4+m.Intn(20), 4+m.Intn(20))
	if op == api.ExElem {
		return element(pick(m, "a", "d", "e"), m.expr(levels-1))
	}
	count := modelArity[op]
	if count < 0 {
		count = pick(m, 3, 3, 5, 7)
	}
	e := api.Expr{Op: op}
	for range count {
		e.Args = append(e.Args, m.expr(levels-1))
	}
	return e
}

// constant returns an expression without names that has at most so many levels.
func (m maker) constant(levels int) api.Expr {
	return m.changed(m.expr(levels), 1, func(part *api.Expr) {
		if part.Name != "" {
			*part = number(m.word())
		}
	})
}

// changed returns a copy of e in which one of n nodes has been changed.
func (m maker) changed(e api.Expr, n int, change func(part *api.Expr)) api.Expr {
	e = trimmed(e)
	if m.Intn(n) == 0 {
		change(&e)
	}
	for i, arg := range e.Args {
		e.Args[i] = m.changed(arg, n, change)
	}
	return e
}

// spoil makes a node wrong, most of the time.
func (m maker) spoil(part *api.Expr) {
	switch m.Intn(5) {
	case 0:
		part.Op = pick(m, -1, 0, 26, m.Intn(26))
	case 1:
		part.N = pick(m, -1, 0, 1, 65535, 65536)
	case 2:
		part.Name = pick(m, "", "a", "A", "in", "d[8]", "d[0]", "d[", "d[0]]")
	case 3:
		part.Args = append(part.Args, number(1))
	case 4:
		part.Args = part.Args[:len(part.Args)/2]
	}
}

// spoiled returns an expression that is not valid, most of the time.
func (m maker) spoiled(levels int) api.Expr {
	return m.changed(m.expr(levels), pick(m, 2, 5, 15), m.spoil)
}

// signals returns a list in which most of the names of leaf occur, some of them more than once.
func (m maker) signals() []api.Signal {
	var list []api.Signal
	for _, array := range []string{"a", "d", "e"} {
		for i := range 10 {
			list = append(list, api.Signal{Name: fmt.Sprintf("%s[%d]", array, i)})
		}
	}
	for _, name := range []string{"a", "b", "x1", longName, longName + "[2]", "d", "", "d[00]", "d[-1]"} {
		list = append(list, api.Signal{Name: name}, api.Signal{Name: name})
	}
	m.Shuffle(len(list), func(i, j int) { list[i], list[j] = list[j], list[i] })
	for i := range list {
		list[i].Value = pick(m, m.word(), m.word(), -m.word(), m.word()+65536*m.Intn(5), int(m.Uint64()))
	}
	return list[:len(list)-pick(m, 0, 0, m.Intn(len(list)), m.Intn(5))]
}

// Enough of the random expressions are valid, and enough are not.
func TestMaker(t *testing.T) {
	m := newMaker(1)
	valid, invalid := 0, 0
	for range 2000 {
		if modelValid(m.expr(5)) == api.OK {
			valid++
		}
		if modelValid(m.spoiled(5)) != api.OK {
			invalid++
		}
		if e := m.constant(4); len(expr.Names(e)) > 0 || len(expr.Arrays(e)) > 0 {
			t.Fatalf("%s has names", show(e))
		}
	}
	if valid < 1500 || invalid < 1000 {
		t.Errorf("%d of 2000 expressions are valid, and %d of 2000 spoiled ones are not", valid, invalid)
	}
}
