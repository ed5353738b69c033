package tests

import (
	"fmt"
	"math"
	"regexp"
	"slices"
	"strings"
	"testing"

	"loop.example/g00843/impl"
)

// opForms has for each Op its name, the greatest A, B and N, and the form of its text.
var opForms = []struct {
	name    string
	a, b, n int
	form    string
}{
	{"halt", 0, 0, 0, "halt"},
	{"set", 3, 0, 65535, "set rA N"},
	{"move", 3, 3, 0, "move rA rB"},
	{"add", 3, 3, 0, "add rA rB"},
	{"sub", 3, 3, 0, "sub rA rB"},
	{"and", 3, 3, 0, "and rA rB"},
	{"shift", 3, 0, 15, "shift rA N"},
	{"jump", 0, 0, 15, "jump N"},
	{"jumpzero", 0, 0, 15, "jumpzero N"},
	{"trap", 0, 0, 255, "trap N"},
}

// line returns the Instruction of a text of which the form is right; its numbers may be wrong.
func line(text string) impl.Instruction {
	words := strings.Split(text, " ")
	for op, f := range opForms {
		if f.name != words[0] {
			continue
		}
		var x impl.Instruction
		x.Op = op
		for i, part := range strings.Split(f.form, " ")[1:] {
			var n int
			fmt.Sscan(strings.TrimPrefix(words[i+1], "r"), &n)
			switch part {
			case "rA":
				x.A = n
			case "rB":
				x.B = n
			case "N":
				x.N = n
			}
		}
		return x
	}
	panic(text)
}

// lines returns the program with these texts, with `; ` between two of them.
func lines(text string) []impl.Instruction {
	var program []impl.Instruction
	for _, s := range strings.Split(text, "; ") {
		program = append(program, line(s))
	}
	return program
}

// formText returns the text that the form of its Op gives an Instruction.
func formText(x impl.Instruction) string {
	return strings.NewReplacer("A", fmt.Sprint(x.A), "B", fmt.Sprint(x.B), "N", fmt.Sprint(x.N)).Replace(opForms[x.Op].form)
}

// everyInstruction calls f with all valid Instructions.
func everyInstruction(f func(x impl.Instruction)) {
	for op, most := range opForms {
		for a := 0; a <= most.a; a++ {
			for b := 0; b <= most.b; b++ {
				for n := 0; n <= most.n; n++ {
					f(impl.Instruction{Op: op, A: a, B: b, N: n})
				}
			}
		}
	}
}

func registers(r0, r1, r2, r3, at int, zero, stopped bool) impl.Registers {
	return impl.Registers{R: []int{r0, r1, r2, r3}, At: at, Zero: zero, Stopped: stopped}
}

func sameRegisters(a, b impl.Registers) bool {
	return slices.Equal(a.R, b.R) && a.At == b.At && a.Zero == b.Zero && a.Stopped == b.Stopped
}

func isNoRegisters(g impl.Registers) bool {
	return len(g.R) == 0 && g.At == 0 && !g.Zero && !g.Stopped
}

// wantStep makes a step in another way than the program: with words that wrap, and with no word beyond them.
func wantStep(program []impl.Instruction, g impl.Registers) impl.Registers {
	var r [4]uint16
	for i, n := range g.R {
		r[i] = uint16(n)
	}
	x, at, zero, stopped := program[g.At], g.At+1, g.Zero, false
	put := func(w uint16) {
		r[x.A] = w
		zero = w == 0
	}
	switch opForms[x.Op].name {
	case "halt":
		at, stopped = g.At, true
	case "set":
		put(uint16(x.N))
	case "move":
		put(r[x.B])
	case "add":
		put(r[x.A] + r[x.B])
	case "sub":
		put(r[x.A] - r[x.B])
	case "and":
		put(r[x.A] & r[x.B])
	case "shift":
		w := r[x.A]
		for range x.N {
			w += w
		}
		put(w)
	case "jump":
		at = x.N
	case "jumpzero":
		if zero {
			at = x.N
		}
	case "trap":
		stopped = true
	}
	if at >= len(program) {
		at, stopped = g.At, true
	}
	return registers(int(r[0]), int(r[1]), int(r[2]), int(r[3]), at, zero, stopped)
}

// guestPrograms returns all programs of at most two of some Instructions, and many longer ones.
func guestPrograms() [][]impl.Instruction {
	some := lines("halt; set r0 0; set r3 65535; move r0 r3; add r0 r0; sub r0 r1; and r1 r3; shift r2 0; shift r0 15; jump 0; jump 1; jump 15; jumpzero 0; jumpzero 2; trap 0; trap 255")
	var programs [][]impl.Instruction
	for _, x := range some {
		programs = append(programs, []impl.Instruction{x})
		for _, y := range some {
			programs = append(programs, []impl.Instruction{x, y})
		}
	}
	next := numbers(11)
	for i := range 2000 {
		program := make([]impl.Instruction, 1+i%impl.MaxProgram)
		for j := range program {
			op := next(len(opForms))
			most := opForms[op]
			program[j] = impl.Instruction{Op: op, A: next(most.a + 1), B: next(most.b + 1), N: next(most.n + 1)}
			// Most jumps stay in the program.
			if (op == impl.OpJump || op == impl.OpJumpZero) && next(4) > 0 {
				program[j].N = next(len(program))
			}
		}
		programs = append(programs, program)
	}
	return programs
}

var startWords = [][]int{{0, 0, 0, 0}, {65535, 65535, 65535, 65535}, {2, 3, 1, 0}, {0, 1, 32768, 65535}, {40000, 30000, 21845, 43690}}

// farNumbers are far from every range that chapter 3 names.
var farNumbers = []int{-2, 65536, 65537, 1 << 20, 1 << 24, 1 << 31, 1 << 32, 1<<32 + 1, math.MaxInt, math.MinInt, math.MinInt + 1}

func TestGuestConstants(t *testing.T) {
	ops := []int{impl.OpHalt, impl.OpSet, impl.OpMove, impl.OpAdd, impl.OpSub, impl.OpAnd, impl.OpShift, impl.OpJump, impl.OpJumpZero, impl.OpTrap}
	for i, op := range ops {
		if op != i {
			t.Errorf("the Op %s is %d", opForms[i].name, op)
		}
	}
	if impl.MaxProgram != 16 {
		t.Error("MaxProgram is", impl.MaxProgram)
	}
}

func TestIsInstruction(t *testing.T) {
	everyInstruction(func(x impl.Instruction) {
		if !impl.IsInstruction(x) {
			t.Fatalf("%v is no Instruction", x)
		}
	})
	bounds := append([]int{-1, 0, 1, 2, 3, 4, 5, 9, 10, 14, 15, 16, 17, 254, 255, 256, 257, 65534, 65535}, farNumbers...)
	for _, op := range bounds {
		for _, a := range bounds {
			for _, b := range bounds {
				for _, n := range bounds {
					x := impl.Instruction{Op: op, A: a, B: b, N: n}
					want := op >= 0 && op < len(opForms) && a >= 0 && b >= 0 && n >= 0
					if want {
						most := opForms[op]
						want = a <= most.a && b <= most.b && n <= most.n
					}
					if impl.IsInstruction(x) != want {
						t.Fatalf("IsInstruction(%v) = %v", x, !want)
					}
				}
			}
		}
	}
}

// invalidInstructions has one fault in each of them.
func invalidInstructions() []impl.Instruction {
	list := []impl.Instruction{}
	for op, most := range opForms {
		for _, far := range append([]int{-1}, farNumbers...) {
			list = append(list, impl.Instruction{Op: op, A: far}, impl.Instruction{Op: op, B: far}, impl.Instruction{Op: op, N: -1}, impl.Instruction{Op: op, N: max(far, most.n+1)})
		}
		list = append(list, impl.Instruction{Op: op, A: most.a + 1}, impl.Instruction{Op: op, B: most.b + 1}, impl.Instruction{Op: op, N: most.n + 1})
		list = append(list, impl.Instruction{Op: op, A: most.a + 1, B: most.b, N: most.n}, impl.Instruction{Op: op, A: most.a, B: most.b + 1, N: most.n}, impl.Instruction{Op: op, A: most.a, B: most.b, N: most.n + 1})
	}
	for _, op := range append([]int{-1, len(opForms), len(opForms) + 1}, farNumbers...) {
		list = append(list, impl.Instruction{Op: op}, impl.Instruction{Op: op, A: 1, N: 1})
	}
	return list
}

func TestInvalidInstructionsAreRefused(t *testing.T) {
	for _, x := range invalidInstructions() {
		if impl.IsInstruction(x) {
			t.Errorf("%v is an Instruction", x)
		}
		if n, ok := impl.PackInstruction(x); ok || n != 0 {
			t.Errorf("PackInstruction(%v) = %d, %v", x, n, ok)
		}
		if s, ok := impl.AssemblyText(x); ok || s != "" {
			t.Errorf("AssemblyText(%v) = %q, %v", x, s, ok)
		}
	}
}

func TestIsProgram(t *testing.T) {
	everyInstruction(func(x impl.Instruction) {
		if x.N%4099 == 0 && !impl.IsProgram([]impl.Instruction{x}) {
			t.Errorf("%v alone is no program", x)
		}
	})
	for n := 1; n <= impl.MaxProgram; n++ {
		// A jump behind the end is one of a program.
		for _, x := range lines("halt; jump 15; jumpzero 15; trap 255") {
			if !impl.IsProgram(slices.Repeat([]impl.Instruction{x}, n)) {
				t.Errorf("%d times %v is no program", n, x)
			}
		}
	}
	for _, program := range invalidPrograms() {
		if impl.IsProgram(program) {
			t.Errorf("%d Instructions are a program: %v", len(program), shown(fmt.Sprint(program)))
		}
	}
}

func invalidPrograms() [][]impl.Instruction {
	programs := [][]impl.Instruction{nil, {}, make([]impl.Instruction, impl.MaxProgram+1), make([]impl.Instruction, 1<<20)}
	for _, x := range invalidInstructions() {
		programs = append(programs, []impl.Instruction{x})
	}
	for n := 1; n <= impl.MaxProgram; n++ {
		for at := range n {
			for _, x := range []impl.Instruction{{Op: 10}, {Op: -1}, {A: 1}, {Op: impl.OpShift, N: 16}, {Op: impl.OpJump, N: 16}} {
				program := make([]impl.Instruction, n)
				program[at] = x
				programs = append(programs, program)
			}
		}
	}
	return programs
}

func TestAreRegisters(t *testing.T) {
	for n := 1; n <= impl.MaxProgram; n++ {
		program := make([]impl.Instruction, n)
		for at := range n {
			for _, words := range startWords {
				for _, flag := range []bool{false, true} {
					g := impl.Registers{R: words, At: at, Zero: flag}
					h := impl.Registers{R: words, At: at, Zero: flag, Stopped: true}
					if !impl.AreRegisters(program, g) || !impl.AreRegisters(program, h) {
						t.Errorf("%v are no Registers for %d Instructions", g, n)
					}
				}
			}
		}
	}
}

// invalidRegisters are those of no program of a number of Instructions.
func invalidRegisters(n int) []impl.Registers {
	list := []impl.Registers{{}, {R: []int{}}, {R: []int{1}}, {R: []int{1, 2, 3}}, {R: []int{1, 2, 3, 4, 5}}, {R: make([]int, 1<<20)}}
	// Words beyond the length are none.
	list = append(list, impl.Registers{R: []int{1, 2, 3, 4}[:3]})
	for _, at := range append([]int{-1, n, n + 1, impl.MaxProgram, impl.MaxProgram + 1}, farNumbers...) {
		list = append(list, impl.Registers{R: make([]int, 4), At: at})
	}
	for i := range 4 {
		for _, word := range append([]int{-1, -65535, -65536}, farNumbers...) {
			g := impl.Registers{R: make([]int, 4)}
			g.R[i] = word
			list = append(list, g)
		}
	}
	for i := range len(list) {
		g := list[i]
		g.Zero, g.Stopped = true, i%2 == 0
		list = append(list, g)
	}
	return list
}

// wantGuestFailures makes the calls with Registers, all of which must give zero values and false.
func wantGuestFailures(t *testing.T, program []impl.Instruction, g impl.Registers) {
	t.Helper()
	name := shown(fmt.Sprint(program)) + " " + shown(fmt.Sprint(g))
	if impl.AreRegisters(program, g) {
		t.Errorf("%s: are Registers", name)
	}
	if h, ok := impl.StepGuest(program, g); ok || !isNoRegisters(h) {
		t.Errorf("%s: StepGuest = %v, %v", name, h, ok)
	}
	for _, most := range []int{0, 1, 1000} {
		if h, n, ok := impl.RunGuest(program, g, most); ok || !isNoRegisters(h) || n != 0 {
			t.Errorf("%s: RunGuest(%d) = %v, %d, %v", name, most, h, n, ok)
		}
	}
}

func TestInvalidProgramsAreRefused(t *testing.T) {
	for _, program := range invalidPrograms() {
		wantGuestFailures(t, program, registers(0, 0, 0, 0, 0, false, false))
		wantGuestFailures(t, program, registers(1, 2, 3, 4, 0, true, true))
		if x, ok := impl.ReachedBy(program); ok || len(x) != 0 {
			t.Errorf("ReachedBy(%v) = %v, %v", shown(fmt.Sprint(program)), x, ok)
		}
	}
}

func TestInvalidRegistersAreRefused(t *testing.T) {
	for n := 1; n <= impl.MaxProgram; n++ {
		// The Instructions behind the program are none of it.
		whole := make([]impl.Instruction, impl.MaxProgram+2)
		for _, g := range invalidRegisters(n) {
			wantGuestFailures(t, whole[:n], g)
		}
	}
}

func TestStepOfEachOp(t *testing.T) {
	for _, c := range []struct {
		text string
		from impl.Registers
		want impl.Registers
	}{
		{"halt; halt", registers(1, 2, 3, 4, 0, true, false), registers(1, 2, 3, 4, 0, true, true)},
		{"halt; halt", registers(1, 2, 3, 4, 0, false, false), registers(1, 2, 3, 4, 0, false, true)},
		{"set r0 65535; halt", registers(1, 2, 3, 4, 0, true, false), registers(65535, 2, 3, 4, 1, false, false)},
		{"set r3 0; halt", registers(1, 2, 3, 4, 0, false, false), registers(1, 2, 3, 0, 1, true, false)},
		{"move r1 r2; halt", registers(1, 2, 3, 4, 0, true, false), registers(1, 3, 3, 4, 1, false, false)},
		{"move r2 r1; halt", registers(1, 0, 3, 4, 0, false, false), registers(1, 0, 0, 4, 1, true, false)},
		{"move r1 r1; halt", registers(1, 2, 3, 4, 0, true, false), registers(1, 2, 3, 4, 1, false, false)},
		{"add r0 r3; halt", registers(1, 2, 3, 4, 0, true, false), registers(5, 2, 3, 4, 1, false, false)},
		{"add r0 r3; halt", registers(1, 2, 3, 65534, 0, true, false), registers(65535, 2, 3, 65534, 1, false, false)},
		{"add r0 r3; halt", registers(1, 2, 3, 65535, 0, false, false), registers(0, 2, 3, 65535, 1, true, false)},
		{"add r1 r1; halt", registers(1, 65535, 3, 4, 0, true, false), registers(1, 65534, 3, 4, 1, false, false)},
		{"add r1 r1; halt", registers(1, 32768, 3, 4, 0, false, false), registers(1, 0, 3, 4, 1, true, false)},
		{"sub r3 r0; halt", registers(1, 2, 3, 4, 0, true, false), registers(1, 2, 3, 3, 1, false, false)},
		{"sub r0 r3; halt", registers(1, 2, 3, 4, 0, true, false), registers(65533, 2, 3, 4, 1, false, false)},
		{"sub r0 r1; halt", registers(0, 65535, 3, 4, 0, true, false), registers(1, 65535, 3, 4, 1, false, false)},
		{"sub r0 r1; halt", registers(0, 1, 3, 4, 0, true, false), registers(65535, 1, 3, 4, 1, false, false)},
		{"sub r2 r2; halt", registers(1, 2, 65535, 4, 0, false, false), registers(1, 2, 0, 4, 1, true, false)},
		{"and r0 r1; halt", registers(12, 10, 3, 4, 0, true, false), registers(8, 10, 3, 4, 1, false, false)},
		{"and r0 r1; halt", registers(21845, 43690, 3, 4, 0, false, false), registers(0, 43690, 3, 4, 1, true, false)},
		{"and r0 r1; halt", registers(65535, 65535, 3, 4, 0, true, false), registers(65535, 65535, 3, 4, 1, false, false)},
		{"shift r2 0; halt", registers(1, 2, 65535, 4, 0, true, false), registers(1, 2, 65535, 4, 1, false, false)},
		{"shift r2 0; halt", registers(1, 2, 0, 4, 0, false, false), registers(1, 2, 0, 4, 1, true, false)},
		{"shift r2 1; halt", registers(1, 2, 65535, 4, 0, true, false), registers(1, 2, 65534, 4, 1, false, false)},
		{"shift r2 15; halt", registers(1, 2, 3, 4, 0, true, false), registers(1, 2, 32768, 4, 1, false, false)},
		{"shift r2 15; halt", registers(1, 2, 2, 4, 0, false, false), registers(1, 2, 0, 4, 1, true, false)},
		{"shift r2 15; halt", registers(1, 2, 65535, 4, 0, true, false), registers(1, 2, 32768, 4, 1, false, false)},
		{"jump 2; halt; halt", registers(0, 2, 3, 4, 0, false, false), registers(0, 2, 3, 4, 2, false, false)},
		{"jump 0; halt", registers(1, 2, 3, 4, 0, true, false), registers(1, 2, 3, 4, 0, true, false)},
		{"halt; halt; jump 1", registers(1, 2, 3, 4, 2, true, false), registers(1, 2, 3, 4, 1, true, false)},
		{"jumpzero 2; halt; halt", registers(1, 2, 3, 4, 0, true, false), registers(1, 2, 3, 4, 2, true, false)},
		// Zero counts, not a register that is 0.
		{"jumpzero 2; halt; halt", registers(0, 0, 0, 0, 0, false, false), registers(0, 0, 0, 0, 1, false, false)},
		{"jumpzero 0; halt", registers(1, 2, 3, 4, 0, true, false), registers(1, 2, 3, 4, 0, true, false)},
		{"trap 0; halt", registers(1, 2, 3, 4, 0, true, false), registers(1, 2, 3, 4, 1, true, true)},
		{"trap 255; halt", registers(0, 2, 3, 4, 0, false, false), registers(0, 2, 3, 4, 1, false, true)},
	} {
		if !impl.AreRegisters(lines(c.text), c.from) {
			t.Errorf("%q: %v are no Registers", c.text, c.from)
		}
		if got, ok := impl.StepGuest(lines(c.text), c.from); !ok || !sameRegisters(got, c.want) {
			t.Errorf("%q: %v became %v, %v, want %v", c.text, c.from, got, ok, c.want)
		}
	}
}

// At stays, while all else that the Instruction does is done.
func TestStepBehindTheEnd(t *testing.T) {
	for _, c := range []struct {
		text string
		from impl.Registers
		want impl.Registers
	}{
		{"halt", registers(1, 2, 3, 4, 0, true, false), registers(1, 2, 3, 4, 0, true, true)},
		{"halt; halt; halt", registers(1, 2, 3, 4, 2, true, false), registers(1, 2, 3, 4, 2, true, true)},
		{"trap 7", registers(1, 2, 3, 4, 0, true, false), registers(1, 2, 3, 4, 0, true, true)},
		{"halt; trap 7", registers(1, 2, 3, 4, 1, false, false), registers(1, 2, 3, 4, 1, false, true)},
		{"set r1 500", registers(1, 2, 3, 4, 0, true, false), registers(1, 500, 3, 4, 0, false, true)},
		{"halt; move r1 r0", registers(0, 2, 3, 4, 1, false, false), registers(0, 0, 3, 4, 1, true, true)},
		{"halt; add r1 r0", registers(1, 65535, 3, 4, 1, false, false), registers(1, 0, 3, 4, 1, true, true)},
		{"halt; sub r1 r0", registers(3, 2, 3, 4, 1, true, false), registers(3, 65535, 3, 4, 1, false, true)},
		{"halt; and r1 r0", registers(1, 2, 3, 4, 1, false, false), registers(1, 0, 3, 4, 1, true, true)},
		{"halt; shift r1 1", registers(1, 2, 3, 4, 1, true, false), registers(1, 4, 3, 4, 1, false, true)},
		{"jump 1", registers(1, 2, 3, 4, 0, true, false), registers(1, 2, 3, 4, 0, true, true)},
		{"jump 15", registers(1, 2, 3, 4, 0, false, false), registers(1, 2, 3, 4, 0, false, true)},
		{"halt; jump 2; halt", registers(1, 2, 3, 4, 1, false, false), registers(1, 2, 3, 4, 2, false, false)},
		{"halt; jump 3; halt", registers(1, 2, 3, 4, 1, false, false), registers(1, 2, 3, 4, 1, false, true)},
		{"jumpzero 1", registers(1, 2, 3, 4, 0, true, false), registers(1, 2, 3, 4, 0, true, true)},
		{"halt; jumpzero 15; halt", registers(1, 2, 3, 4, 1, true, false), registers(1, 2, 3, 4, 1, true, true)},
		{"halt; jumpzero 15; halt", registers(1, 2, 3, 4, 1, false, false), registers(1, 2, 3, 4, 2, false, false)},
		// It is not taken, and there is no next one.
		{"halt; jumpzero 0", registers(1, 2, 3, 4, 1, false, false), registers(1, 2, 3, 4, 1, false, true)},
		{"halt; jumpzero 0", registers(1, 2, 3, 4, 1, true, false), registers(1, 2, 3, 4, 0, true, false)},
	} {
		program := lines(c.text)
		if got, ok := impl.StepGuest(program, c.from); !ok || !sameRegisters(got, c.want) {
			t.Errorf("%q: %v became %v, %v, want %v", c.text, c.from, got, ok, c.want)
		}
		// The Instructions behind the program are none of it.
		whole := append(slices.Clone(program), lines("halt; halt; halt; halt")...)
		if got, ok := impl.StepGuest(whole[:len(program)], c.from); !ok || !sameRegisters(got, c.want) {
			t.Errorf("%q before others: %v became %v, %v, want %v", c.text, c.from, got, ok, c.want)
		}
	}
}

func TestLongestProgram(t *testing.T) {
	for at := range impl.MaxProgram {
		program := make([]impl.Instruction, impl.MaxProgram)
		program[at] = line("set r0 9")
		want := registers(9, 2, 3, 4, at+1, false, false)
		if at == impl.MaxProgram-1 {
			want = registers(9, 2, 3, 4, at, false, true)
		}
		if got, ok := impl.StepGuest(program, registers(1, 2, 3, 4, at, true, false)); !ok || !sameRegisters(got, want) {
			t.Errorf("the step at %d leads to %v, %v", at, got, ok)
		}
		program[at] = impl.Instruction{Op: impl.OpJump, N: impl.MaxProgram - 1}
		want = registers(1, 2, 3, 4, impl.MaxProgram-1, true, false)
		if got, ok := impl.StepGuest(program, registers(1, 2, 3, 4, at, true, false)); !ok || !sameRegisters(got, want) {
			t.Errorf("the jump at %d leads to %v, %v", at, got, ok)
		}
	}
}

// Every register as A and as B, with words around the ends of their range.
func TestComputedWords(t *testing.T) {
	words := []int{0, 1, 2, 3, 255, 256, 21845, 32767, 32768, 32769, 43690, 65533, 65534, 65535}
	for _, op := range []int{impl.OpMove, impl.OpAdd, impl.OpSub, impl.OpAnd} {
		for a := range 4 {
			for b := range 4 {
				for _, x := range words {
					for _, y := range words {
						g := registers(11, 12, 13, 14, 0, x != y, false)
						g.R[a], g.R[b] = x, y
						program := []impl.Instruction{{Op: op, A: a, B: b}, {}}
						if got, ok := impl.StepGuest(program, g); !ok || !sameRegisters(got, wantStep(program, g)) {
							t.Fatalf("%v: %v became %v, %v", program[0], g, got, ok)
						}
					}
				}
			}
		}
	}
	for a := range 4 {
		for n := range 16 {
			for _, x := range words {
				g := registers(11, 12, 13, 14, 0, x != 0, false)
				g.R[a] = x
				program := []impl.Instruction{{Op: impl.OpShift, A: a, N: n}, {}}
				if got, ok := impl.StepGuest(program, g); !ok || !sameRegisters(got, wantStep(program, g)) {
					t.Fatalf("%v: %v became %v, %v", program[0], g, got, ok)
				}
			}
		}
	}
}

// A run of most steps is compared with most steps one after the other, and each step with that of wantStep.
func TestRunIsItsSteps(t *testing.T) {
	for _, program := range guestPrograms() {
		for i, words := range startWords {
			want := impl.Registers{R: words, At: i % len(program), Zero: i%2 == 1}
			start, steps := want, 0
			for most := range 25 {
				got, n, ok := impl.RunGuest(program, start, most)
				if !ok || n != steps || !sameRegisters(got, want) || !impl.AreRegisters(program, got) {
					t.Fatalf("RunGuest(%v, %v, %d) = %v, %d, %v, want %v, %d", program, start, most, got, n, ok, want, steps)
				}
				next, ok := impl.StepGuest(program, want)
				if want.Stopped {
					if ok || !isNoRegisters(next) {
						t.Fatalf("StepGuest(%v, %v) = %v, %v", program, want, next, ok)
					}
					continue
				}
				if !ok || !sameRegisters(next, wantStep(program, want)) {
					t.Fatalf("StepGuest(%v, %v) = %v, %v, want %v", program, want, next, ok, wantStep(program, want))
				}
				want, steps = next, steps+1
			}
		}
	}
}

// A run that is stopped and gone on with is one run.
func TestRunInParts(t *testing.T) {
	for i, program := range guestPrograms() {
		start := impl.Registers{R: startWords[i%len(startWords)]}
		whole, all, _ := impl.RunGuest(program, start, 60)
		first, n, _ := impl.RunGuest(program, start, i%60)
		second, m, ok := impl.RunGuest(program, first, 60-i%60)
		if !ok || n+m != all || !sameRegisters(second, whole) {
			t.Fatalf("%v from %v: %v after %d and %d steps, %v, want %v after %d", program, start, second, n, m, ok, whole, all)
		}
	}
}

func TestRunGuest(t *testing.T) {
	// r0 counts down, and r1 is multiplied by two each time.
	count := "shift r1 1; sub r0 r2; jumpzero 4; jump 0; halt"
	for _, c := range []struct {
		text  string
		from  impl.Registers
		most  int
		want  impl.Registers
		steps int
	}{
		{"halt", registers(1, 2, 3, 4, 0, true, false), 100, registers(1, 2, 3, 4, 0, true, true), 1},
		{"halt", registers(1, 2, 3, 4, 0, true, false), 0, registers(1, 2, 3, 4, 0, true, false), 0},
		{"trap 3; halt", registers(1, 2, 3, 4, 0, true, false), 100, registers(1, 2, 3, 4, 1, true, true), 1},
		{"set r0 1; set r1 2", registers(0, 0, 3, 4, 0, true, false), 100, registers(1, 2, 3, 4, 1, false, true), 2},
		{count, registers(2, 3, 1, 0, 0, false, false), 100, registers(0, 12, 1, 0, 4, true, true), 8},
		{count, registers(2, 3, 1, 0, 0, false, false), 8, registers(0, 12, 1, 0, 4, true, true), 8},
		{count, registers(2, 3, 1, 0, 0, false, false), 7, registers(0, 12, 1, 0, 4, true, false), 7},
		{count, registers(2, 3, 1, 0, 0, false, false), 6, registers(0, 12, 1, 0, 2, true, false), 6},
		// The run of 250 rounds ends after 1000 steps, that of 251 rounds does not.
		{count, registers(250, 0, 1, 0, 0, false, false), 1000, registers(0, 0, 1, 0, 4, true, true), 1000},
		{count, registers(250, 0, 1, 0, 0, false, false), 999, registers(0, 0, 1, 0, 4, true, false), 999},
		{count, registers(251, 0, 1, 0, 0, false, false), 1000, registers(1, 0, 1, 0, 0, false, false), 1000},
		// Programs that never halt.
		{"jump 0", registers(1, 2, 3, 4, 0, true, false), 1000, registers(1, 2, 3, 4, 0, true, false), 1000},
		{"jump 0", registers(1, 2, 3, 4, 0, true, false), 1, registers(1, 2, 3, 4, 0, true, false), 1},
		{"jumpzero 0", registers(1, 2, 3, 4, 0, true, false), 1000, registers(1, 2, 3, 4, 0, true, false), 1000},
		{"add r0 r1; jump 0", registers(0, 1, 3, 4, 0, true, false), 1000, registers(500, 1, 3, 4, 0, false, false), 1000},
		{"add r0 r1; jump 0", registers(0, 65535, 3, 4, 0, true, false), 999, registers(65036, 65535, 3, 4, 1, false, false), 999},
	} {
		got, n, ok := impl.RunGuest(lines(c.text), c.from, c.most)
		if !ok || n != c.steps || !sameRegisters(got, c.want) {
			t.Errorf("%q: %v became %v, %d, %v, want %v, %d", c.text, c.from, got, n, ok, c.want, c.steps)
		}
	}
}

func TestRunGuestRefusesOtherMosts(t *testing.T) {
	for _, text := range []string{"halt", "jump 0", "trap 1"} {
		for _, stopped := range []bool{false, true} {
			g := registers(1, 2, 3, 4, 0, true, stopped)
			for _, most := range append([]int{-1, -1000, 1001, 1002}, farNumbers...) {
				if h, n, ok := impl.RunGuest(lines(text), g, most); ok || !isNoRegisters(h) || n != 0 {
					t.Errorf("RunGuest(%q, %v, %d) = %v, %d, %v", text, g, most, h, n, ok)
				}
			}
		}
	}
}

func TestStoppedRegisters(t *testing.T) {
	for _, program := range guestPrograms()[:400] {
		for at := range program {
			for i, words := range startWords {
				g := impl.Registers{R: words, At: at, Zero: i%2 == 0, Stopped: true}
				if h, ok := impl.StepGuest(program, g); ok || !isNoRegisters(h) {
					t.Fatalf("StepGuest(%v, %v) = %v, %v", program, g, h, ok)
				}
				for _, most := range []int{0, 1, 999, 1000} {
					if h, n, ok := impl.RunGuest(program, g, most); !ok || n != 0 || !sameRegisters(h, g) {
						t.Fatalf("RunGuest(%v, %v, %d) = %v, %d, %v", program, g, most, h, n, ok)
					}
				}
			}
		}
	}
}

func TestEveryInstructionIsRecovered(t *testing.T) {
	everyInstruction(func(x impl.Instruction) {
		n, ok := impl.PackInstruction(x)
		if !ok || n != x.Op*1048576+x.A*262144+x.B*65536+x.N {
			t.Fatalf("PackInstruction(%v) = %d, %v", x, n, ok)
		}
		if y, ok := impl.UnpackInstruction(n); !ok || y != x {
			t.Fatalf("UnpackInstruction(%d) = %v, %v, want %v", n, y, ok, x)
		}
		s, ok := impl.AssemblyText(x)
		if !ok || s != formText(x) {
			t.Fatalf("AssemblyText(%v) = %q, %v", x, s, ok)
		}
		if y, ok := impl.ParseAssembly(s); !ok || y != x {
			t.Fatalf("ParseAssembly(%q) = %v, %v, want %v", s, y, ok, x)
		}
	})
}

func TestNoOtherNumberIsAccepted(t *testing.T) {
	numbersOf := make([]bool, 12<<20)
	everyInstruction(func(x impl.Instruction) {
		numbersOf[x.Op*1048576+x.A*262144+x.B*65536+x.N] = true
	})
	for n := -1 << 20; n < len(numbersOf); n++ {
		x, ok := impl.UnpackInstruction(n)
		if ok != (n >= 0 && numbersOf[n]) || !ok && x != (impl.Instruction{}) {
			t.Fatalf("UnpackInstruction(%d) = %v, %v", n, x, ok)
		}
	}
	for _, far := range []int{16 << 20, 1 << 31, 1 << 32, 1 << 40, 1 << 52, 1 << 62, -16 << 20, -1 << 32, -1 << 40, math.MinInt, math.MaxInt - 1<<25} {
		for n := range 10 << 4 {
			if x, ok := impl.UnpackInstruction(far + n<<16 + 1); ok || x != (impl.Instruction{}) {
				t.Fatalf("UnpackInstruction(%d) = %v, %v", far+n<<16+1, x, ok)
			}
			if x, ok := impl.UnpackInstruction(far + n<<16); ok || x != (impl.Instruction{}) {
				t.Fatalf("UnpackInstruction(%d) = %v, %v", far+n<<16, x, ok)
			}
		}
	}
	for _, n := range []int{math.MaxInt, math.MaxInt - 1, -1, -2, -1 << 20} {
		if x, ok := impl.UnpackInstruction(n); ok || x != (impl.Instruction{}) {
			t.Errorf("UnpackInstruction(%d) = %v, %v", n, x, ok)
		}
	}
}

// assemblyForm has the texts of all Instructions, except that a number may be too great.
var assemblyForm = regexp.MustCompile(`^(halt|set r[0-3] N|(move|add|sub|and) r[0-3] r[0-3]|shift r[0-3] (\d|1[0-5])|jump(zero)? (\d|1[0-5])|trap N)$`)

var wordForm = regexp.MustCompile(` (0|[1-9][0-9]{0,4})$`)

// isAssembly tells by regular expressions whether a text is one of an Instruction.
func isAssembly(s string) bool {
	if assemblyForm.MatchString(s) {
		return !strings.Contains(s, "N")
	}
	word := wordForm.FindString(s)
	if word == "" || !assemblyForm.MatchString(strings.TrimSuffix(s, word)+" N") {
		return false
	}
	n, most := 0, 65535
	if strings.HasPrefix(s, "trap") {
		most = 255
	}
	fmt.Sscan(word, &n)
	return n <= most
}

func wantAssembly(t *testing.T, s string) {
	t.Helper()
	x, ok := impl.ParseAssembly(s)
	if ok != isAssembly(s) || !ok && x != (impl.Instruction{}) || ok && formText(x) != s {
		t.Fatalf("ParseAssembly(%q) = %v, %v", s, x, ok)
	}
}

// Each text is changed by one byte: another one, one more, one less; and by another word.
func TestNoOtherTextIsAccepted(t *testing.T) {
	var texts []string
	everyInstruction(func(x impl.Instruction) {
		if x.N < 18 || slices.Contains([]int{99, 100, 199, 200, 249, 254, 255, 999, 6553, 9999, 10000, 59999, 65500, 65529, 65534, 65535}, x.N) {
			texts = append(texts, formText(x))
		}
	})
	for i, s := range texts {
		for at := range len(s) + 1 {
			for _, c := range "0123456789 r-+h\n\tx,R" {
				wantAssembly(t, s[:at]+string(c)+s[at:])
				if at < len(s) {
					wantAssembly(t, s[:at]+string(c)+s[at+1:])
				}
			}
			if at < len(s) {
				wantAssembly(t, s[:at]+s[at+1:])
			}
			wantAssembly(t, s[:at])
			wantAssembly(t, s[at:])
		}
		if i%7 == 0 {
			for c := range 256 {
				for at := range len(s) {
					wantAssembly(t, s[:at]+string([]byte{byte(c)})+s[at+1:])
				}
			}
		}
	}
}

// All texts of at most four words.
func TestTextsOfWords(t *testing.T) {
	operands := []string{"", "0", "1", "3", "4", "9", "15", "16", "255", "256", "65535", "65536", "999999", "1000000", "-1", "-0", "+1", "00", "01", "r", "r0", "r3", "r4", "r-1", "r+1", "r00", "r01", "rr1", "R1", "x", "halt"}
	var names []string
	for _, f := range opForms {
		names = append(names, f.name)
	}
	for _, name := range append(names, "", " ", "Halt", "SET", "hal", "haltt", "nop", "mov", "or", "jumpZero", "jump zero", "0", "1", "r0") {
		wantAssembly(t, name)
		for _, a := range operands {
			wantAssembly(t, name+" "+a)
			for _, b := range operands {
				wantAssembly(t, name+" "+a+" "+b)
				if a == "r1" || a == "0" || a == "" {
					for _, c := range operands {
						wantAssembly(t, name+" "+a+" "+b+" "+c)
					}
				}
			}
		}
	}
}

func TestParseAssemblyRefusesOtherTexts(t *testing.T) {
	for _, s := range []string{
		"", " ", "halt ", " halt", "halt\n", "halt\x00", "halt 0", "halt r0", "HALT", "haltx", "hält", "stop", "set", "set ", "set r2", "set r2 ", "set r2  500",
		"set  r2 500", "set\tr2 500", "set r2\t500", "set r2 500 ", "set r2 500 0", "set r2,500", "set 2 500", "set r2 r3", "set r4 5", "set r-1 5", "set r10 5", "set r02 5", "set r+2 5", "set R2 5",
		"set r 5", "set rr2 5", "set r2 65536", "set r2 -1", "set r2 +5", "set r2 05", "set r2 5.0", "set r2 0x5", "set r2 5_0", "set r2 -0", "set r2 1000000", "set r2 18446744073709551616", "set r2 4294967301",
		"move r0", "move r0 0", "move 0 r0", "move r0 r4", "move r0 r1 r2", "move r0 r1 0", "add r0 r03", "add r0r3", "sub r0 -r3", "and r0 & r3",
		"shift r0 16", "shift r0 r1", "shift r0 015", "shift r0", "shift 1", "shift r4 1",
		"jump", "jump 16", "jump r0", "jump -1", "jump 01", "jump 0 0", "jumpzero", "jumpzero 16", "jumpzero r0", "jump zero 3", "jumpzero3", "jumpnot 3",
		"trap", "trap 256", "trap -1", "trap r0", "trap 007", "trap 0 0", "trap 999999", "\xff", "set r\xd9\xa1 1", "set r1 \xef\xbc\x91", "set r2\xc2\xa0500",
		strings.Repeat("0", 4000), "trap " + strings.Repeat("0", 3995), "trap " + strings.Repeat("0", 3996), "halt" + strings.Repeat(" ", 3996), "halt" + strings.Repeat(" ", 3997),
		strings.Repeat("halt ", 1<<18), strings.Repeat(" ", 1<<20),
	} {
		if x, ok := impl.ParseAssembly(s); ok || x != (impl.Instruction{}) {
			t.Errorf("ParseAssembly(%q) = %v, %v", shown(s), x, ok)
		}
	}
}

func TestReachedBy(t *testing.T) {
	for _, c := range []struct {
		text string
		want []int
	}{
		{"halt", []int{0}}, {"halt; halt", []int{0}}, {"jump 0", []int{0}}, {"jump 1", []int{0}}, {"jump 15", []int{0}}, {"jumpzero 15", []int{0}}, {"trap 1", []int{0}}, {"set r0 1", []int{0}},
		{"jump 2; move r0 r0; halt", []int{0, 2}}, {"trap 9; halt; halt", []int{0, 1}}, {"set r0 0; set r1 0; set r2 0", []int{0, 1, 2}},
		// The flag is known, and still both ways are taken.
		{"set r0 0; jumpzero 3; halt; halt", []int{0, 1, 2, 3}}, {"set r0 1; jumpzero 3; halt; halt", []int{0, 1, 2, 3}},
		{"jumpzero 2; halt; halt; halt", []int{0, 1, 2}}, {"jumpzero 0; halt", []int{0, 1}}, {"jumpzero 15; halt", []int{0, 1}}, {"jumpzero 3; jump 1; halt; halt", []int{0, 1, 3}},
		// The way leads back.
		{"jump 3; halt; halt; jump 1", []int{0, 1, 3}}, {"jump 3; jump 4; halt; jump 1; jump 3; halt", []int{0, 1, 3, 4}},
		{"move r0 r0; add r0 r0; sub r0 r0; and r0 r0; shift r0 0; trap 0; jumpzero 0; jump 9; halt; halt; halt", []int{0, 1, 2, 3, 4, 5, 6, 7, 9}},
		{"jump 15; halt; halt; halt; halt; halt; halt; halt; halt; halt; halt; halt; halt; halt; halt; jump 7", []int{0, 7, 15}},
	} {
		if got, ok := impl.ReachedBy(lines(c.text)); !ok || !slices.Equal(got, c.want) {
			t.Errorf("ReachedBy(%q) = %v, %v", c.text, got, ok)
		}
		// The Instructions behind the program are none of it.
		whole := append(lines(c.text), lines("halt; halt; halt; halt")...)
		if got, ok := impl.ReachedBy(whole[:len(whole)-4]); !ok || !slices.Equal(got, c.want) {
			t.Errorf("ReachedBy(%q) before others = %v, %v", c.text, got, ok)
		}
	}
}

// An index is added as long as there is one behind an index that is there.
func TestReachedByStepByStep(t *testing.T) {
	for _, program := range guestPrograms() {
		reached := map[int]bool{0: true}
		for range program {
			for at, x := range program {
				if !reached[at] {
					continue
				}
				if x.Op != impl.OpHalt && x.Op != impl.OpJump {
					reached[at+1] = true
				}
				if x.Op == impl.OpJump || x.Op == impl.OpJumpZero {
					reached[x.N] = true
				}
			}
		}
		var want []int
		for at := range program {
			if reached[at] {
				want = append(want, at)
			}
		}
		if got, ok := impl.ReachedBy(program); !ok || !slices.Equal(got, want) {
			t.Fatalf("ReachedBy(%v) = %v, %v, want %v", program, got, ok, want)
		}
	}
}

// No run from index 0 on, that goes on behind traps, comes to an index that is not reached.
func TestRunsStayInWhatIsReached(t *testing.T) {
	for _, program := range guestPrograms() {
		reached, _ := impl.ReachedBy(program)
		for i, words := range startWords {
			g := impl.Registers{R: words, Zero: i%2 == 1}
			for range 40 {
				if !slices.Contains(reached, g.At) {
					t.Fatalf("%v comes to %d, reached are %v", program, g.At, reached)
				}
				trap := program[g.At].Op == impl.OpTrap
				next, ok := impl.StepGuest(program, g)
				if !ok || next.Stopped && !(trap && next.At != g.At) {
					break
				}
				g = next
				g.Stopped = false
			}
		}
	}
}

// The program and the words lie within longer lists, whose other elements are invalid and must be neither read nor written.
func TestGuestArgumentsAreNotChanged(t *testing.T) {
	bad := impl.Instruction{Op: -1}
	for i, program := range guestPrograms() {
		code := slices.Concat([]impl.Instruction{bad}, program, []impl.Instruction{bad, {}, {}})
		words := slices.Concat([]int{-7, -8}, startWords[i%len(startWords)], []int{-9, 70000})
		codeBefore, wordsBefore := slices.Clone(code), slices.Clone(words)
		part := code[1 : 1+len(program)]
		for at := range program {
			g := impl.Registers{R: words[2:6], At: at, Zero: i%2 == 0}
			alone := impl.Registers{R: slices.Clip(slices.Clone(g.R)), At: at, Zero: g.Zero}
			h, ok := impl.StepGuest(part, g)
			if want, fine := impl.StepGuest(slices.Clip(slices.Clone(program)), alone); ok != fine || !sameRegisters(h, want) {
				t.Fatalf("StepGuest(%v, %v) reads beyond the length: %v, %v", program, alone, h, want)
			}
			impl.RunGuest(part, g, 20)
			impl.RunGuest(part, g, 0)
			impl.RunGuest(part, impl.Registers{R: words[2:6], At: at, Stopped: true}, 20)
			impl.AreRegisters(part, g)
			impl.IsProgram(part)
			impl.ReachedBy(part)
			if !slices.Equal(code, codeBefore) || !slices.Equal(words, wordsBefore) {
				t.Fatalf("a call with %v and %v changes them: %v, %v", program, alone, code, words)
			}
		}
	}
}

func TestGuestResultsAreNotShared(t *testing.T) {
	for _, text := range []string{"halt", "trap 1", "trap 1; halt", "jump 0", "jump 9", "jumpzero 0; halt", "set r0 5; halt", "add r0 r1; jump 0", "move r1 r1; sub r1 r1; jumpzero 1", "shift r3 0"} {
		program := lines(text)
		words := []int{1, 2, 3, 4, 77, 78, 79}
		g := impl.Registers{R: words[:4]}
		stopped := g
		stopped.Stopped = true
		lists := [][]int{words}
		for range 2 {
			step, _ := impl.StepGuest(program, g)
			lists = append(lists, step.R)
			for _, most := range []int{0, 1, 2, 1000} {
				run, _, _ := impl.RunGuest(program, g, most)
				same, _, _ := impl.RunGuest(program, stopped, most)
				again, _, _ := impl.RunGuest(program, run, 0)
				lists = append(lists, run.R, same.R, again.R)
			}
			reached, _ := impl.ReachedBy(program)
			lists = append(lists, reached)
		}
		wantNotShared(t, text, lists, -5)
	}
}

// What was returned before changes nothing of what is returned later.
func TestGuestCallsKeepNothing(t *testing.T) {
	program := lines("add r0 r1; jump 0")
	g := registers(1, 2, 3, 4, 0, true, false)
	want, _ := impl.StepGuest(program, g)
	first, _ := impl.StepGuest(program, g)
	for i := range first.R {
		first.R[i] = -5
	}
	reached, _ := impl.ReachedBy(program)
	reached[0] = -5
	if again, ok := impl.StepGuest(program, g); !ok || !sameRegisters(again, want) {
		t.Error("the step became", again, ok)
	}
	if again, ok := impl.ReachedBy(program); !ok || !slices.Equal(again, []int{0, 1}) {
		t.Error("what is reached became", again, ok)
	}
}
