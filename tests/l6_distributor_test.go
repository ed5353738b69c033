package tests

import (
	"fmt"
	"math"
	"slices"
	"strings"
	"testing"

	"loop.example/g00843/impl"
)

// The tests write Irqs as a text, a word for each interrupt: `e` if it is enabled, `p` if it is pending, `a` if it is active, its priority, `@` and its target. A `.` stands for `0@0`.

// irqsFrom returns the Irqs of a text.
func irqsFrom(text string) []impl.Irq {
	var list []impl.Irq
	for _, word := range strings.Fields(text) {
		var x impl.Irq
		if word != "." {
			flags := strings.TrimRight(word, "0123456789@")
			x.Enabled, x.Pending, x.Active = strings.Contains(flags, "e"), strings.Contains(flags, "p"), strings.Contains(flags, "a")
			fmt.Sscanf(word[len(flags):], "%d@%d", &x.Priority, &x.Target)
		}
		list = append(list, x)
	}
	return list
}

// oneIrq returns the Irqs of which one is of a word, and the others of another word.
func oneIrq(irq int, word string, others string) []impl.Irq {
	words := slices.Repeat([]string{others}, impl.MaxIrqs)
	words[irq] = word
	return irqsFrom(strings.Join(words, " "))
}

// eachIrq calls f with every state that an interrupt may have.
func eachIrq(f func(x impl.Irq)) {
	for n := range 8 * 16 * 4 {
		f(impl.Irq{Enabled: n&1 > 0, Pending: n&2 > 0, Active: n&4 > 0, Priority: n >> 3 & 15, Target: n >> 7})
	}
}

// manyIrqs returns Irqs with all sets of ready interrupts at equal priorities, all orders of the priorities of two interrupts, and many others, most of which have equal priorities too.
func manyIrqs() [][]impl.Irq {
	all := [][]impl.Irq{irqsFrom(". . . . . . . ."), oneIrq(0, "epa15@3", "epa15@3"), oneIrq(7, "ep15@3", "ep0@0")}
	for set := range 256 {
		list := slices.Repeat([]impl.Irq{{Enabled: true, Priority: set % 16, Target: set % 4}}, 8)
		for irq := range list {
			list[irq].Pending = set>>irq&1 == 1
		}
		all = append(all, list)
	}
	for n := range 16 * 16 {
		list := slices.Repeat([]impl.Irq{{Enabled: true, Pending: true, Priority: n / 16, Target: 2}}, 8)
		list[n%8].Priority = n % 16
		all = append(all, list)
	}
	next := numbers(6)
	for i := range 3000 {
		list := make([]impl.Irq, 8)
		for irq := range list {
			list[irq] = impl.Irq{Enabled: next(5) > 0, Pending: next(4) > 0, Active: next(4) == 0, Priority: next(1 + i%16), Target: next(1 + i%4)}
		}
		all = append(all, list)
	}
	return all
}

// urgent returns the interrupts that are ready for a processor in another way than the program: one priority after the other, it looks for those that have it.
func urgent(list []impl.Irq, cpu int, below int) []int {
	var found []int
	for priority := range below {
		for irq, x := range list {
			if x == (impl.Irq{Enabled: true, Pending: true, Priority: priority, Target: cpu}) {
				found = append(found, irq)
			}
		}
	}
	return found
}

// wantIrqs compares what a call returned with Irqs, and with a failure if there are none.
func wantIrqs(t *testing.T, name string, got []impl.Irq, ok bool, want []impl.Irq) {
	t.Helper()
	if ok != (want != nil) || !slices.Equal(got, want) {
		t.Fatalf("%s = %v, %v instead of %v", name, got, ok, want)
	}
}

// farCounts are far from every range that chapter 6 names; some have the lowest bits of a number that is in it.
var farCounts = []int{-1, -2, -8, -16, 17, 18, 32, 255, 256, 1 << 16, 1 << 32, 1<<32 + 1, 1<<32 + 3, math.MaxInt, math.MinInt, math.MinInt + 1}

func otherIrqs() []int       { return append([]int{8, 9, 16}, farCounts...) }
func otherCpus() []int       { return append([]int{4, 5, 8, 16}, farCounts...) }
func otherPriorities() []int { return append([]int{16}, farCounts...) }

func TestDistributorConstants(t *testing.T) {
	if impl.MaxIrqs != 8 || impl.MaxCpus != 4 || impl.NoIrq != -1 {
		t.Error("the numbers are", impl.MaxIrqs, impl.MaxCpus, impl.NoIrq)
	}
}

func TestAreIrqsAcceptsAllIrqs(t *testing.T) {
	for _, list := range manyIrqs() {
		if !impl.AreIrqs(list) {
			t.Fatalf("%v are no Irqs", list)
		}
	}
	eachIrq(func(x impl.Irq) {
		for irq := range 8 {
			list := irqsFrom(". ep15@3 a0@3 . e15@0 p7@1 epa1@2 .")
			list[irq] = x
			if !impl.AreIrqs(list) {
				t.Fatalf("%v are no Irqs", list)
			}
		}
	})
}

// invalidIrqs have another number of elements, or one of which a part is out of its range.
func invalidIrqs() [][]impl.Irq {
	lists := [][]impl.Irq{nil, {}, make([]impl.Irq, 1<<20), irqsFrom(". . . . . . . .")[:7], irqsFrom(". . . . . . . .")[1:]}
	for _, word := range []string{".", "ep0@0", "ep15@3", "a1@1", "epa1@1"} {
		for _, n := range []int{1, 2, 4, 6, 7, 9, 10, 15, 16} {
			lists = append(lists, irqsFrom(strings.Repeat(word+" ", n)))
		}
		for irq := range 8 {
			for _, priority := range otherPriorities() {
				list := oneIrq(irq, word, "ep3@0")
				list[irq].Priority = priority
				lists = append(lists, list)
			}
			for _, target := range otherCpus() {
				list := oneIrq(irq, word, "ep3@0")
				list[irq].Target = target
				lists = append(lists, list)
			}
		}
	}
	return lists
}

// wantIrqFailures makes all calls that have an interrupt, which must give zero values and false.
func wantIrqFailures(t *testing.T, irqs string, list []impl.Irq, irq int) {
	name := func(call string) string { return fmt.Sprintf("%s(%s, %d)", call, irqs, irq) }
	for _, on := range []bool{false, true} {
		got, ok := impl.SetPending(list, irq, on)
		wantIrqs(t, name("SetPending"), got, ok, nil)
		got, ok = impl.EnableIrq(list, irq, on)
		wantIrqs(t, name("EnableIrq"), got, ok, nil)
	}
	for _, n := range []int{0, 3} {
		got, ok := impl.RouteIrq(list, irq, 5*n, n)
		wantIrqs(t, name("RouteIrq"), got, ok, nil)
	}
	got, ok := impl.BeginIrq(list, irq)
	wantIrqs(t, name("BeginIrq"), got, ok, nil)
	got, ok = impl.EndIrq(list, irq)
	wantIrqs(t, name("EndIrq"), got, ok, nil)
}

// wantCpuFailures makes all calls that have a processor, which must give zero values and false.
func wantCpuFailures(t *testing.T, irqs string, list []impl.Irq, cpu int) {
	name := func(call string) string { return fmt.Sprintf("%s(%s, %d)", call, irqs, cpu) }
	if ready, ok := impl.ReadyIrqs(list, cpu); ok || len(ready) != 0 {
		t.Errorf("%s = %v, %v", name("ReadyIrqs"), ready, ok)
	}
	if irq, ok := impl.MostUrgent(list, cpu); ok || irq != 0 {
		t.Errorf("%s = %d, %v", name("MostUrgent"), irq, ok)
	}
	if served, after, ok := impl.ServeAll(list, cpu); ok || len(served) != 0 || len(after) != 0 {
		t.Errorf("%s = %v, %v, %v", name("ServeAll"), served, after, ok)
	}
	for _, mask := range []int{0, 1, 15, 16} {
		if ready, ok := impl.PriorityMask(list, cpu, mask); ok || len(ready) != 0 {
			t.Errorf("%s = %v, %v with the mask %d", name("PriorityMask"), ready, ok, mask)
		}
	}
}

func TestInvalidIrqsAreRefused(t *testing.T) {
	for _, list := range invalidIrqs() {
		irqs := fmt.Sprint(len(list), list[:min(len(list), 16)])
		if impl.AreIrqs(list) {
			t.Errorf("%s are Irqs", irqs)
		}
		for irq := range impl.MaxIrqs {
			wantIrqFailures(t, irqs, list, irq)
		}
		for cpu := range impl.MaxCpus {
			wantCpuFailures(t, irqs, list, cpu)
		}
	}
}

func TestOtherInterruptsAndProcessorsAreRefused(t *testing.T) {
	for _, word := range []string{".", "ep0@0", "ep15@3", "a1@1", "ea0@0", "epa1@1"} {
		list := oneIrq(0, word, word)
		for _, irq := range otherIrqs() {
			wantIrqFailures(t, word, list, irq)
		}
		for _, cpu := range otherCpus() {
			wantCpuFailures(t, word, list, cpu)
		}
	}
}

func TestOtherPrioritiesTargetsAndMasksAreRefused(t *testing.T) {
	list := irqsFrom("ep0@0 ep1@0 e15@0 p0@3 0@0 15@3 ep7@1 .")
	for irq := range 8 {
		for _, priority := range otherPriorities() {
			got, ok := impl.RouteIrq(list, irq, priority, 1)
			wantIrqs(t, fmt.Sprintf("RouteIrq(%d, %d, 1)", irq, priority), got, ok, nil)
		}
		for _, target := range otherCpus() {
			got, ok := impl.RouteIrq(list, irq, 1, target)
			wantIrqs(t, fmt.Sprintf("RouteIrq(%d, 1, %d)", irq, target), got, ok, nil)
		}
	}
	for cpu := range 4 {
		for _, mask := range farCounts {
			if ready, ok := impl.PriorityMask(list, cpu, mask); ok || len(ready) != 0 {
				t.Errorf("PriorityMask(%d, %d) = %v, %v", cpu, mask, ready, ok)
			}
		}
	}
}

func TestReadyIrqs(t *testing.T) {
	for _, c := range []struct {
		text string
		cpu  int
		want []int
	}{
		{". . . . . . . .", 0, nil},
		{". . ep3@0 . . ep1@0 ep1@1 epa0@0", 0, []int{5, 2}},
		{". . ep3@0 . . ep1@0 ep1@1 epa0@0", 1, []int{6}},
		{". . ep3@0 . . ep1@0 ep1@1 epa0@0", 2, nil},
		// Equal priorities.
		{". ep4@2 . . ep4@2 . . .", 2, []int{1, 4}},
		{"ep0@3 . . . . . . ep0@3", 3, []int{0, 7}},
		{"ep9@1 ep4@1 ep9@1 ep4@1 ep9@1 ep4@1 ep9@1 ep4@1", 1, []int{1, 3, 5, 7, 0, 2, 4, 6}},
		{"ep5@0 ep5@0 ep5@0 ep5@0 ep5@0 ep5@0 ep5@0 ep5@0", 0, []int{0, 1, 2, 3, 4, 5, 6, 7}},
		{"ep15@3 ep15@3 ep15@3 ep15@3 ep15@3 ep15@3 ep15@3 ep15@3", 3, []int{0, 1, 2, 3, 4, 5, 6, 7}},
		// All different ones.
		{"ep15@0 ep14@0 ep12@0 ep10@0 ep9@0 ep2@0 ep1@0 ep0@0", 0, []int{7, 6, 5, 4, 3, 2, 1, 0}},
		{"ep0@0 ep1@0 ep2@0 ep9@0 ep10@0 ep12@0 ep14@0 ep15@0", 0, []int{0, 1, 2, 3, 4, 5, 6, 7}},
		{"ep0@0 ep1@1 ep2@2 ep3@3 ep4@3 ep3@2 ep2@1 ep1@0", 0, []int{0, 7}},
		{"ep0@0 ep1@1 ep2@2 ep3@3 ep4@3 ep3@2 ep2@1 ep1@0", 3, []int{3, 4}},
		// Each of the reasons for which an interrupt is not ready.
		{"p0@0 ep1@0 . . . . . .", 0, []int{1}},
		{"e0@0 ep1@0 . . . . . .", 0, []int{1}},
		{"epa0@0 ep1@0 . . . . . .", 0, []int{1}},
		{"ep0@1 ep1@0 . . . . . .", 0, []int{1}},
		{"ea0@0 ep1@0 . . . . . .", 0, []int{1}},
		{"pa0@0 ep1@0 . . . . . .", 0, []int{1}},
	} {
		list := irqsFrom(c.text)
		if got, ok := impl.ReadyIrqs(list, c.cpu); !ok || !slices.Equal(got, c.want) {
			t.Errorf("ReadyIrqs(%q, %d) = %v, %v, want %v", c.text, c.cpu, got, ok, c.want)
		}
		first := impl.NoIrq
		if len(c.want) > 0 {
			first = c.want[0]
		}
		if got, ok := impl.MostUrgent(list, c.cpu); !ok || got != first {
			t.Errorf("MostUrgent(%q, %d) = %d, %v, want %d", c.text, c.cpu, got, ok, first)
		}
	}
}

func TestReadyIrqsOfManyIrqs(t *testing.T) {
	for _, list := range manyIrqs() {
		for cpu := range 4 {
			want := urgent(list, cpu, 16)
			if got, ok := impl.ReadyIrqs(list, cpu); !ok || !slices.Equal(got, want) {
				t.Fatalf("ReadyIrqs(%v, %d) = %v, %v, want %v", list, cpu, got, ok, want)
			}
			first := append(want, impl.NoIrq)[0]
			if got, ok := impl.MostUrgent(list, cpu); !ok || got != first {
				t.Fatalf("MostUrgent(%v, %d) = %d, %v, want %d", list, cpu, got, ok, first)
			}
		}
	}
}

// One interrupt alone is ready in exactly 16 of its states for each processor.
func TestReadyStates(t *testing.T) {
	for irq := range 8 {
		counts := make([]int, 4)
		eachIrq(func(x impl.Irq) {
			list := oneIrq(irq, ".", ".")
			list[irq] = x
			for cpu := range 4 {
				ready, ok := impl.ReadyIrqs(list, cpu)
				if len(ready) > 0 {
					counts[cpu]++
				}
				isReady := x.Enabled && x.Pending && !x.Active && x.Target == cpu
				if !ok || isReady != slices.Equal(ready, []int{irq}) || isReady != (len(ready) > 0) {
					t.Fatalf("ReadyIrqs(%v, %d) = %v, %v", list, cpu, ready, ok)
				}
			}
		})
		if !slices.Equal(counts, []int{16, 16, 16, 16}) {
			t.Errorf("the interrupt %d is ready in %v states", irq, counts)
		}
	}
}

// For two interrupts, all their priorities and numbers.
func TestMostUrgentOfTwo(t *testing.T) {
	for a := range 8 {
		for b := a + 1; b < 8; b++ {
			for n := range 16 * 16 {
				list := oneIrq(a, "ep0@1", "e0@1")
				list[a].Priority = n / 16
				list[b] = impl.Irq{Enabled: true, Pending: true, Priority: n % 16, Target: 1}
				want := []int{a, b}
				if n%16 < n/16 {
					want = []int{b, a}
				}
				first, _ := impl.MostUrgent(list, 1)
				ready, _ := impl.ReadyIrqs(list, 1)
				served, _, _ := impl.ServeAll(list, 1)
				if first != want[0] || !slices.Equal(ready, want) || !slices.Equal(served, want) {
					t.Fatalf("%v: %d, %v, %v instead of %v", list, first, ready, served, want)
				}
			}
		}
	}
}

func TestSetPendingAndEnableIrq(t *testing.T) {
	for _, c := range []struct {
		text     string
		irq      int
		pending  bool
		on       bool
		expected string
	}{
		{". . . . . . . .", 0, true, true, "p0@0 . . . . . . ."},
		{". . . . . . . .", 7, true, true, ". . . . . . . p0@0"},
		{". . . . . . . .", 0, false, true, "e0@0 . . . . . . ."},
		{". . . . . . . .", 7, false, true, ". . . . . . . e0@0"},
		{". . p3@1 . . . . .", 2, true, true, ". . p3@1 . . . . ."},
		{". . p3@1 . . . . .", 2, true, false, ". . 3@1 . . . . ."},
		{". . p3@1 . . . . .", 2, false, true, ". . ep3@1 . . . . ."},
		{". . p3@1 . . . . .", 2, false, false, ". . p3@1 . . . . ."},
		// An active interrupt becomes pending, too.
		{"ea15@3 . . . . . . .", 0, true, true, "epa15@3 . . . . . . ."},
		{"epa15@3 . . . . . . .", 0, true, false, "ea15@3 . . . . . . ."},
		{"epa15@3 . . . . . . .", 0, false, false, "pa15@3 . . . . . . ."},
		{"a15@3 . . . . . . .", 0, false, true, "ea15@3 . . . . . . ."},
		{"ep1@1 ep1@1 ep1@1 ep1@1 ep1@1 ep1@1 ep1@1 ep1@1", 5, true, false, "ep1@1 ep1@1 ep1@1 ep1@1 ep1@1 e1@1 ep1@1 ep1@1"},
		{"ep1@1 ep1@1 ep1@1 ep1@1 ep1@1 ep1@1 ep1@1 ep1@1", 5, false, false, "ep1@1 ep1@1 ep1@1 ep1@1 ep1@1 p1@1 ep1@1 ep1@1"},
	} {
		set, name := impl.EnableIrq, "EnableIrq"
		if c.pending {
			set, name = impl.SetPending, "SetPending"
		}
		got, ok := set(irqsFrom(c.text), c.irq, c.on)
		wantIrqs(t, fmt.Sprintf("%s(%q, %d, %v)", name, c.text, c.irq, c.on), got, ok, irqsFrom(c.expected))
	}
}

// Each change of an interrupt in each of its states leaves all others and all other fields as they were.
func TestChangesOfEachState(t *testing.T) {
	for irq := range 8 {
		eachIrq(func(x impl.Irq) {
			list := irqsFrom("ep0@0 . epa15@3 a1@2 ep3@1 e15@0 p0@3 ep7@1")
			list[irq] = x
			name := fmt.Sprintf("of %v at %d", x, irq)
			with := func(change func(y *impl.Irq)) []impl.Irq {
				changed := slices.Clone(list)
				change(&changed[irq])
				return changed
			}
			for _, on := range []bool{false, true} {
				got, ok := impl.SetPending(list, irq, on)
				wantIrqs(t, "SetPending "+name, got, ok, with(func(y *impl.Irq) { y.Pending = on }))
				got, ok = impl.EnableIrq(list, irq, on)
				wantIrqs(t, "EnableIrq "+name, got, ok, with(func(y *impl.Irq) { y.Enabled = on }))
			}
			var routed, begun, ended []impl.Irq
			if !x.Active {
				routed = with(func(y *impl.Irq) { y.Priority, y.Target = 15-x.Priority, 3-x.Target })
			}
			if x.Enabled && x.Pending && !x.Active {
				begun = with(func(y *impl.Irq) { y.Pending, y.Active = false, true })
			}
			if x.Active {
				ended = with(func(y *impl.Irq) { y.Active = false })
			}
			got, ok := impl.RouteIrq(list, irq, 15-x.Priority, 3-x.Target)
			wantIrqs(t, "RouteIrq "+name, got, ok, routed)
			got, ok = impl.BeginIrq(list, irq)
			wantIrqs(t, "BeginIrq "+name, got, ok, begun)
			got, ok = impl.EndIrq(list, irq)
			wantIrqs(t, "EndIrq "+name, got, ok, ended)
		})
	}
}

func TestRouteIrqToEachPriorityAndTarget(t *testing.T) {
	for irq := range 8 {
		for n := range 16 * 4 {
			priority, target := n/4, n%4
			for _, flags := range []string{"", "e", "p", "ep"} {
				got, ok := impl.RouteIrq(oneIrq(irq, flags+"9@2", "epa0@0"), irq, priority, target)
				want := oneIrq(irq, fmt.Sprintf("%s%d@%d", flags, priority, target), "epa0@0")
				wantIrqs(t, fmt.Sprintf("RouteIrq(%d, %d, %d)", irq, priority, target), got, ok, want)
			}
			for _, flags := range []string{"a", "ea", "pa", "epa"} {
				got, ok := impl.RouteIrq(oneIrq(irq, flags+"9@2", "ep0@0"), irq, priority, target)
				wantIrqs(t, fmt.Sprintf("RouteIrq of an active one (%d, %d, %d)", irq, priority, target), got, ok, nil)
			}
		}
	}
}

// Any interrupt that is ready may be begun, not only the most urgent one, and while others are active.
func TestBeginIrqAndEndIrq(t *testing.T) {
	for _, c := range []struct {
		text     string
		irq      int
		begun    string
		endedToo string
	}{
		{"ep0@0 . . . . . . .", 0, "ea0@0 . . . . . . .", "e0@0 . . . . . . ."},
		{". . . . . . . ep15@3", 7, ". . . . . . . ea15@3", ". . . . . . . e15@3"},
		{"ep0@1 ep1@1 . . . . . .", 1, "ep0@1 ea1@1 . . . . . .", "ep0@1 e1@1 . . . . . ."},
		{"ep0@1 ep0@1 . . . . . .", 1, "ep0@1 ea0@1 . . . . . .", "ep0@1 e0@1 . . . . . ."},
		{"ea0@1 ep1@1 . . . . . .", 1, "ea0@1 ea1@1 . . . . . .", "ea0@1 e1@1 . . . . . ."},
		{"pa0@1 ep1@2 . . . . . .", 1, "pa0@1 ea1@2 . . . . . .", "pa0@1 e1@2 . . . . . ."},
	} {
		begun, ok := impl.BeginIrq(irqsFrom(c.text), c.irq)
		wantIrqs(t, fmt.Sprintf("BeginIrq(%q, %d)", c.text, c.irq), begun, ok, irqsFrom(c.begun))
		ended, ok := impl.EndIrq(begun, c.irq)
		wantIrqs(t, fmt.Sprintf("EndIrq(%q, %d)", c.begun, c.irq), ended, ok, irqsFrom(c.endedToo))
		again, ok := impl.BeginIrq(begun, c.irq)
		wantIrqs(t, "BeginIrq of one that is active", again, ok, nil)
		again, ok = impl.EndIrq(ended, c.irq)
		wantIrqs(t, "EndIrq of one that is not active", again, ok, nil)
	}
	for _, word := range []string{".", "e0@0", "p0@0", "ea0@0", "pa0@0", "epa0@0", "a0@0", "p15@3", "epa15@3"} {
		for irq := range 8 {
			got, ok := impl.BeginIrq(oneIrq(irq, word, "ep0@0"), irq)
			wantIrqs(t, "BeginIrq of "+word, got, ok, nil)
		}
	}
	for _, word := range []string{".", "e0@0", "p0@0", "ep0@0", "ep15@3"} {
		for irq := range 8 {
			got, ok := impl.EndIrq(oneIrq(irq, word, "epa0@0"), irq)
			wantIrqs(t, "EndIrq of "+word, got, ok, nil)
		}
	}
}

// An interrupt that becomes pending while it is active is ready again as soon as it has ended.
func TestPendingAndActive(t *testing.T) {
	list := irqsFrom(". . . e6@2 . . . ep7@2")
	step := func(name string, got []impl.Irq, ok bool, word string, ready ...int) {
		t.Helper()
		wantIrqs(t, name, got, ok, irqsFrom(". . . "+word+" . . . ep7@2"))
		if r, _ := impl.ReadyIrqs(got, 2); !slices.Equal(r, ready) {
			t.Errorf("%s: ready are %v", name, r)
		}
		if first, _ := impl.MostUrgent(got, 2); first != ready[0] {
			t.Errorf("%s: the first one is %d", name, first)
		}
		list = got
	}
	got, ok := impl.SetPending(list, 3, true)
	step("pending", got, ok, "ep6@2", 3, 7)
	got, ok = impl.BeginIrq(list, 3)
	step("begun", got, ok, "ea6@2", 7)
	got, ok = impl.SetPending(list, 3, true)
	step("pending and active", got, ok, "epa6@2", 7)
	got, ok = impl.BeginIrq(list, 3)
	wantIrqs(t, "begun while it is active", got, ok, nil)
	got, ok = impl.RouteIrq(list, 3, 1, 0)
	wantIrqs(t, "routed while it is active", got, ok, nil)
	got, ok = impl.EndIrq(list, 3)
	step("ended", got, ok, "ep6@2", 3, 7)
	got, ok = impl.RouteIrq(list, 3, 8, 2)
	step("routed", got, ok, "ep8@2", 7, 3)
	got, ok = impl.EnableIrq(list, 3, false)
	step("not enabled", got, ok, "p8@2", 7)
	got, ok = impl.RouteIrq(list, 3, 7, 2)
	step("routed while it is not enabled", got, ok, "p7@2", 7)
	got, ok = impl.EnableIrq(list, 3, true)
	step("enabled", got, ok, "ep7@2", 3, 7)
	got, ok = impl.BeginIrq(list, 3)
	step("begun again", got, ok, "ea7@2", 7)
	got, ok = impl.EnableIrq(list, 3, false)
	step("not enabled while it is active", got, ok, "a7@2", 7)
	got, ok = impl.EndIrq(list, 3)
	step("ended while it is not enabled", got, ok, "7@2", 7)
	got, ok = impl.RouteIrq(list, 3, 7, 1)
	step("routed to another processor", got, ok, "7@1", 7)
}

func TestServeAll(t *testing.T) {
	for _, c := range []struct {
		text   string
		cpu    int
		served []int
		after  string
	}{
		{". . . . . . . .", 0, nil, ". . . . . . . ."},
		{"ep0@0 . . . . . . .", 0, []int{0}, "e0@0 . . . . . . ."},
		{"ep0@0 . . . . . . .", 1, nil, "ep0@0 . . . . . . ."},
		{". . . . . . . ep15@3", 3, []int{7}, ". . . . . . . e15@3"},
		{". . ep3@0 . . ep1@0 ep1@1 epa0@0", 0, []int{5, 2}, ". . e3@0 . . e1@0 ep1@1 epa0@0"},
		{". . ep3@0 . . ep1@0 ep1@1 epa0@0", 1, []int{6}, ". . ep3@0 . . ep1@0 e1@1 epa0@0"},
		{"p0@2 e0@2 ea0@2 pa0@2 a0@2 epa0@2 ep0@3 ep9@2", 2, []int{7}, "p0@2 e0@2 ea0@2 pa0@2 a0@2 epa0@2 ep0@3 e9@2"},
		{"p0@2 e0@2 ea0@2 pa0@2 a0@2 epa0@2 ep0@3 ep9@1", 2, nil, "p0@2 e0@2 ea0@2 pa0@2 a0@2 epa0@2 ep0@3 ep9@1"},
		{"ep5@3 ep5@3 ep5@3 ep5@3 ep5@3 ep5@3 ep5@3 ep5@3", 3, []int{0, 1, 2, 3, 4, 5, 6, 7}, "e5@3 e5@3 e5@3 e5@3 e5@3 e5@3 e5@3 e5@3"},
		{"ep15@1 ep8@1 ep15@1 ep0@1 ep8@1 ep15@1 ep0@1 ep8@1", 1, []int{3, 6, 1, 4, 7, 0, 2, 5}, "e15@1 e8@1 e15@1 e0@1 e8@1 e15@1 e0@1 e8@1"},
	} {
		served, after, ok := impl.ServeAll(irqsFrom(c.text), c.cpu)
		wantIrqs(t, fmt.Sprintf("ServeAll(%q, %d)", c.text, c.cpu), after, ok, irqsFrom(c.after))
		if !slices.Equal(served, c.served) {
			t.Errorf("ServeAll(%q, %d) = %v, want %v", c.text, c.cpu, served, c.served)
		}
	}
}

func TestServeAllOfManyIrqs(t *testing.T) {
	for _, list := range manyIrqs() {
		for cpu := range 4 {
			want := slices.Clone(list)
			first := urgent(list, cpu, 16)
			for _, irq := range first {
				want[irq].Pending = false
			}
			served, after, ok := impl.ServeAll(list, cpu)
			wantIrqs(t, fmt.Sprintf("ServeAll(%v, %d)", list, cpu), after, ok, want)
			if !slices.Equal(served, first) {
				t.Fatalf("ServeAll(%v, %d) = %v, want %v", list, cpu, served, first)
			}
			for _, irq := range served {
				if after[irq].Pending || after[irq].Active {
					t.Fatalf("ServeAll(%v, %d) leaves %d as %v", list, cpu, irq, after[irq])
				}
			}
			if next, ok := impl.MostUrgent(after, cpu); !ok || next != impl.NoIrq {
				t.Fatalf("ServeAll(%v, %d) leaves %d", list, cpu, next)
			}
		}
	}
}

// What is served is what the calls one by one begin and end.
func TestServeAllIsItsSteps(t *testing.T) {
	for _, list := range manyIrqs() {
		for cpu := range 4 {
			served, after, _ := impl.ServeAll(list, cpu)
			state := list
			for _, irq := range served {
				if next, ok := impl.MostUrgent(state, cpu); !ok || next != irq {
					t.Fatalf("%v: the most urgent one is %d, %v instead of %d", state, next, ok, irq)
				}
				begun, ok := impl.BeginIrq(state, irq)
				ended, fine := impl.EndIrq(begun, irq)
				if !ok || !fine {
					t.Fatalf("%v: %d is not begun and ended", state, irq)
				}
				state = ended
			}
			if !slices.Equal(state, after) {
				t.Fatalf("ServeAll(%v, %d) leaves %v instead of %v", list, cpu, after, state)
			}
		}
	}
}

func TestPriorityMask(t *testing.T) {
	const text = "ep15@1 ep8@1 ep14@1 ep0@1 ep8@1 ep0@2 p0@1 epa0@1"
	for _, c := range []struct {
		cpu, mask int
		want      []int
	}{
		{1, 0, nil}, {1, 1, []int{3}}, {1, 8, []int{3}}, {1, 9, []int{3, 1, 4}}, {1, 14, []int{3, 1, 4}},
		{1, 15, []int{3, 1, 4, 2}}, {1, 16, []int{3, 1, 4, 2, 0}}, {2, 0, nil}, {2, 1, []int{5}}, {2, 16, []int{5}}, {0, 16, nil}, {3, 0, nil},
	} {
		if got, ok := impl.PriorityMask(irqsFrom(text), c.cpu, c.mask); !ok || !slices.Equal(got, c.want) {
			t.Errorf("PriorityMask(%d, %d) = %v, %v, want %v", c.cpu, c.mask, got, ok, c.want)
		}
	}
	for _, list := range manyIrqs() {
		for cpu := range 4 {
			for mask := range 17 {
				want := urgent(list, cpu, mask)
				if got, ok := impl.PriorityMask(list, cpu, mask); !ok || !slices.Equal(got, want) {
					t.Fatalf("PriorityMask(%v, %d, %d) = %v, %v, want %v", list, cpu, mask, got, ok, want)
				}
			}
		}
	}
}

// callDistributor makes every call with Irqs and returns their results as a text.
func callDistributor(list []impl.Irq, irq int, cpu int) string {
	all := []any{impl.AreIrqs(list)}
	add := func(values ...any) { all = append(all, values...) }
	pending, ok := impl.SetPending(list, irq, cpu%2 == 0)
	add(pending, ok)
	enabled, ok := impl.EnableIrq(list, irq, cpu%2 == 1)
	add(enabled, ok)
	routed, ok := impl.RouteIrq(list, irq, 3*cpu, cpu)
	add(routed, ok)
	ready, ok := impl.ReadyIrqs(list, cpu)
	add(ready, ok)
	first, ok := impl.MostUrgent(list, cpu)
	add(first, ok)
	begun, ok := impl.BeginIrq(list, irq)
	add(begun, ok)
	ended, ok := impl.EndIrq(list, irq)
	add(ended, ok)
	served, after, ok := impl.ServeAll(list, cpu)
	add(served, after, ok)
	masked, ok := impl.PriorityMask(list, cpu, 4*cpu)
	add(masked, ok)
	return fmt.Sprint(all...)
}

// The lists lie within longer ones, whose other elements are no Irqs and must be neither read nor written.
func TestIrqArgumentsAreNotChanged(t *testing.T) {
	odd := impl.Irq{Enabled: true, Pending: true, Priority: -5, Target: 99}
	for i, list := range append(manyIrqs()[:600], invalidIrqs()[3:]...) {
		whole := append(append([]impl.Irq{odd, odd}, list...), odd, odd, odd)
		before := slices.Clone(whole)
		within, alone := callDistributor(whole[2:2+len(list)], i%8, i%4), callDistributor(slices.Clone(list), i%8, i%4)
		if within != alone {
			t.Fatalf("%v in a longer list: %s instead of %s", list, within, alone)
		}
		if !slices.Equal(whole, before) {
			t.Fatalf("%v became %v", before, whole)
		}
	}
}

func TestDistributorResultsAreNotShared(t *testing.T) {
	odd := impl.Irq{Priority: -5, Target: -5}
	for i, list := range manyIrqs()[:700] {
		irq, cpu := i%8, i%4
		lists := [][]impl.Irq{append(list, odd)[:8]}
		var numbers [][]int
		for range 2 {
			x := lists[0][irq]
			same, _ := impl.SetPending(lists[0], irq, x.Pending)
			other, _ := impl.SetPending(lists[0], irq, !x.Pending)
			on, _ := impl.EnableIrq(lists[0], irq, x.Enabled)
			off, _ := impl.EnableIrq(lists[0], irq, !x.Enabled)
			routed, _ := impl.RouteIrq(lists[0], irq, x.Priority, x.Target)
			begun, _ := impl.BeginIrq(lists[0], irq)
			ended, _ := impl.EndIrq(lists[0], irq)
			served, after, _ := impl.ServeAll(lists[0], cpu)
			ready, _ := impl.ReadyIrqs(lists[0], cpu)
			masked, _ := impl.PriorityMask(lists[0], cpu, 16)
			lists = append(lists, same, other, on, off, routed, begun, ended, after)
			numbers = append(numbers, served, ready, masked)
		}
		wantNotShared(t, fmt.Sprint(list), lists, odd)
		wantNotShared(t, fmt.Sprint(list), numbers, -5)
	}
}

// What was returned before changes nothing of what is returned later.
func TestDistributorCallsKeepNothing(t *testing.T) {
	list := irqsFrom("ep9@1 ep4@1 a0@0 . ep4@1 p0@1 e0@1 ep0@3")
	want := callDistributor(list, 1, 1)
	for i, other := range manyIrqs()[:300] {
		served, after, _ := impl.ServeAll(list, 1)
		begun, _ := impl.BeginIrq(list, 1)
		clear(served)
		clear(after)
		clear(begun)
		callDistributor(other, i%8, i%4)
		callDistributor(nil, -1, 4)
		if got := callDistributor(list, 1, 1); got != want {
			t.Fatalf("the calls gave %s and now %s", want, got)
		}
	}
}
