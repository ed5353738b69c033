package tests

import (
	"fmt"
	"regexp"
	"slices"
	"strings"
	"testing"

	"loop.example/g00843/impl"
)

// slotsFrom returns the Slots of a text like that of SlotsText, read in another way than the program does.
func slotsFrom(text string) []impl.Slot {
	var slots []impl.Slot
	for _, word := range strings.Fields(text) {
		x := impl.Slot{State: strings.Index("-pab", word[:1])}
		if x.State > 0 {
			fmt.Sscanf(word[1:], "%d:%d", &x.Irq, &x.Priority)
		}
		slots = append(slots, x)
	}
	return slots
}

// slotModel tells of each interrupt whether it is pending and active, and of each place which interrupt is there, or -1.
type slotModel struct {
	at              [4]int
	pending, active [8]bool
	priority        [8]int
}

func modelOf(slots []impl.Slot) slotModel {
	m := slotModel{at: [4]int{-1, -1, -1, -1}}
	for i, x := range slots {
		if x.State != impl.SlotEmpty {
			m.at[i] = x.Irq
			m.pending[x.Irq] = x.State != impl.SlotActive
			m.active[x.Irq] = x.State != impl.SlotPending
			m.priority[x.Irq] = x.Priority
		}
	}
	return m
}

// slots returns the Slots that the model describes.
func (m slotModel) slots() []impl.Slot {
	slots := make([]impl.Slot, 4)
	for i, irq := range m.at {
		if irq < 0 {
			continue
		}
		state := impl.SlotPending
		if m.pending[irq] && m.active[irq] {
			state = impl.SlotBoth
		} else if m.active[irq] {
			state = impl.SlotActive
		}
		slots[i] = impl.Slot{State: state, Irq: irq, Priority: m.priority[irq]}
	}
	return slots
}

// put tells whether the interrupt could be made pending, as do take, end and evict of what they do.
func (m *slotModel) put(irq int, priority int) bool {
	if !m.pending[irq] && !m.active[irq] {
		i := slices.Index(m.at[:], -1)
		if i < 0 {
			return false
		}
		m.at[i], m.priority[irq] = irq, priority
	}
	m.pending[irq] = true
	return true
}

func (m *slotModel) take(limit int) (int, bool) {
	for priority := range limit {
		for irq := range 8 {
			if m.pending[irq] && !m.active[irq] && m.priority[irq] == priority {
				m.pending[irq], m.active[irq] = false, true
				return irq, true
			}
		}
	}
	return 0, false
}

func (m *slotModel) end(irq int) bool {
	if !m.active[irq] {
		return false
	}
	m.active[irq] = false
	if !m.pending[irq] {
		m.at[slices.Index(m.at[:], irq)] = -1
	}
	return true
}

func (m *slotModel) evict() (int, bool) {
	for priority := 15; priority >= 0; priority-- {
		for irq := 7; irq >= 0; irq-- {
			if m.pending[irq] && !m.active[irq] && m.priority[irq] == priority {
				m.pending[irq] = false
				m.at[slices.Index(m.at[:], irq)] = -1
				return irq, true
			}
		}
	}
	return 0, false
}

// activeOnes returns the interrupts that are active, in ascending order.
func (m slotModel) activeOnes() []int {
	var irqs []int
	for irq, active := range m.active {
		if active {
			irqs = append(irqs, irq)
		}
	}
	return irqs
}

// arrangements returns all lists of four different numbers below 4.
func arrangements() [][]int {
	var all [][]int
	for n := range 256 {
		list := []int{n & 3, n >> 2 & 3, n >> 4 & 3, n >> 6}
		if sorted := slices.Sorted(slices.Values(list)); slices.Equal(sorted, []int{0, 1, 2, 3}) {
			all = append(all, list)
		}
	}
	return all
}

// slotsWith returns Slots with these States, interrupts and priorities, of which those of the empty Slots are left out.
func slotsWith(states [4]int, irqs [4]int, priorities [4]int) []impl.Slot {
	slots := make([]impl.Slot, 4)
	for i, state := range states {
		if state != impl.SlotEmpty {
			slots[i] = impl.Slot{State: state, Irq: irqs[i], Priority: priorities[i]}
		}
	}
	return slots
}

// manySlots returns Slots with all States, all orders of interrupts with equal and other priorities, and many others.
func manySlots() [][]impl.Slot {
	var all [][]impl.Slot
	for n := range 256 {
		states := [4]int{n & 3, n >> 2 & 3, n >> 4 & 3, n >> 6}
		for _, irqs := range [][4]int{{0, 1, 2, 3}, {7, 6, 5, 4}, {3, 0, 7, 5}} {
			for _, priorities := range [][4]int{{}, {15, 15, 15, 15}, {5, 2, 5, 2}, {0, 15, 7, 8}, {14, 14, 1, 15}} {
				all = append(all, slotsWith(states, irqs, priorities))
			}
		}
	}
	for _, order := range arrangements() {
		irqs := [4]int{2 * order[0], 2 * order[1], 2*order[2] + 1, 2*order[3] + 1}
		for n := range 81 {
			priorities := [4]int{n % 3 * 7, n / 3 % 3 * 7, n / 9 % 3 * 7, n / 27 * 7}
			all = append(all, slotsWith([4]int{1, 1, 1, 1}, irqs, priorities))
		}
	}
	next := numbers(8)
	for range 3000 {
		irq, step := next(8), 1+2*next(4)
		irqs := [4]int{irq, (irq + step) % 8, (irq + 2*step) % 8, (irq + 3*step) % 8}
		states, priorities := [4]int{next(4), next(4), next(4), next(4)}, [4]int{next(16), next(16), next(16), next(16)}
		all = append(all, slotsWith(states, irqs, priorities))
	}
	return all
}

// wantSlots compares what a call returned with Slots, and with a failure if there are none.
func wantSlots(t *testing.T, got []impl.Slot, ok bool, want []impl.Slot, call string, args ...any) {
	if ok != (want != nil) || !slices.Equal(got, want) {
		t.Helper()
		t.Fatalf("%s%v = %v, %v instead of %v", call, args, got, ok, want)
	}
}

func TestSlotConstants(t *testing.T) {
	if impl.SlotCount != 4 || impl.SlotEmpty != 0 || impl.SlotPending != 1 || impl.SlotActive != 2 || impl.SlotBoth != 3 {
		t.Error("the numbers are", impl.SlotCount, impl.SlotEmpty, impl.SlotPending, impl.SlotActive, impl.SlotBoth)
	}
}

func TestAreSlotsAcceptsAllSlots(t *testing.T) {
	for _, slots := range manySlots() {
		if !impl.AreSlots(slots) {
			t.Fatalf("%v are no Slots", slots)
		}
	}
	for n := range 3 * 8 * 16 {
		for i := range 4 {
			x := impl.Slot{State: 1 + n/128, Irq: n / 16 % 8, Priority: n % 16}
			alone := make([]impl.Slot, 4)
			alone[i] = x
			among := slotsWith([4]int{1, 2, 3, 1}, [4]int{x.Irq ^ 1, x.Irq ^ 2, x.Irq ^ 4, x.Irq ^ 7}, [4]int{0, x.Priority, 15, 9})
			among[i] = x
			if !impl.AreSlots(alone) || !impl.AreSlots(among) {
				t.Fatalf("%v or %v are no Slots", alone, among)
			}
		}
	}
}

// invalidSlots are not as many as Slots, or have a part out of its range, or an interrupt twice.
func invalidSlots() [][]impl.Slot {
	lists := [][]impl.Slot{nil, {}, make([]impl.Slot, 1<<20)}
	for _, n := range []int{1, 2, 3, 5, 6, 7, 8, 16} {
		lists = append(lists, make([]impl.Slot, n), slotsFrom("p0:0 p1:0 p2:0 p3:0 p4:0 p5:0 p6:0 p7:0 - - - - - - - -")[:n])
		lists = append(lists, slotsFrom("- - - - - - - - - - - - - - - b7:15")[16-n:])
	}
	for i := range 4 {
		for _, text := range []string{"- - - -", "p1:0 a2:3 b3:15 p4:7"} {
			add := func(x impl.Slot) {
				list := slotsFrom(text)
				list[i] = x
				lists = append(lists, list)
			}
			for _, state := range append([]int{4, 5, 6, 7, 8}, farCounts...) {
				add(impl.Slot{State: state})
				add(impl.Slot{State: state, Irq: 5, Priority: 1})
			}
			for state := range 4 {
				for _, irq := range otherIrqs() {
					add(impl.Slot{State: state, Irq: irq, Priority: 3})
					add(impl.Slot{State: state, Irq: irq})
				}
				for _, priority := range otherPriorities() {
					add(impl.Slot{State: state, Irq: 5, Priority: priority})
					add(impl.Slot{State: state, Priority: priority})
				}
			}
			for n := 1; n < 16; n++ {
				add(impl.Slot{Irq: n % 8, Priority: n})
				add(impl.Slot{Irq: 1 + n%7})
				add(impl.Slot{Priority: n})
			}
		}
	}
	return append(lists[:len(lists):len(lists)], slotsTwice()...)
}

// slotsTwice have an interrupt in two Slots, with all their States and with equal and other priorities.
func slotsTwice() [][]impl.Slot {
	var lists [][]impl.Slot
	for i := range 4 {
		for j := range i {
			for n := range 9 * 8 {
				for _, priority := range []int{n % 8, 15} {
					alone, among := slotsFrom("- - - -"), slotsFrom("p1:0 a2:3 b3:15 p4:7")
					for _, list := range [][]impl.Slot{alone, among} {
						list[i] = impl.Slot{State: 1 + n/24, Irq: n % 8, Priority: n % 8}
						list[j] = impl.Slot{State: 1 + n/8%3, Irq: n % 8, Priority: priority}
						lists = append(lists, list)
					}
				}
			}
		}
	}
	return lists
}

// wantSlotFailures makes all calls that have an interrupt, which must give zero values and false.
func wantSlotFailures(t *testing.T, slots []impl.Slot, irq int) {
	few := slots[:min(len(slots), 8)]
	for _, priority := range []int{0, 7, 15} {
		got, ok := impl.PutIrq(slots, irq, priority)
		wantSlots(t, got, ok, nil, "PutIrq", few, irq, priority)
	}
	got, ok := impl.EndSlot(slots, irq)
	wantSlots(t, got, ok, nil, "EndSlot", few, irq)
	if i, ok := impl.FindSlot(slots, irq); ok || i != 0 {
		t.Fatalf("FindSlot(%v, %d) = %d, %v", few, irq, i, ok)
	}
}

func TestInvalidSlotsAreRefused(t *testing.T) {
	for _, slots := range invalidSlots() {
		few := slots[:min(len(slots), 8)]
		if impl.AreSlots(slots) {
			t.Errorf("%v are Slots", few)
		}
		for irq := range 8 {
			wantSlotFailures(t, slots, irq)
		}
		for limit := range 17 {
			got, irq, ok := impl.TakeSlot(slots, limit)
			wantSlots(t, got, ok, nil, "TakeSlot", few, limit)
			if irq != 0 {
				t.Errorf("TakeSlot(%v, %d) gives %d", few, limit, irq)
			}
		}
		got, x, ok := impl.EvictSlot(slots)
		wantSlots(t, got, ok, nil, "EvictSlot", few)
		if x != (impl.Slot{}) {
			t.Errorf("EvictSlot(%v) gives %v", few, x)
		}
		if n, ok := impl.EmptySlots(slots); ok || n != 0 {
			t.Errorf("EmptySlots(%v) = %d, %v", few, n, ok)
		}
		if irqs, ok := impl.ActiveIrqs(slots); ok || len(irqs) != 0 {
			t.Errorf("ActiveIrqs(%v) = %v, %v", few, irqs, ok)
		}
		if text, ok := impl.SlotsText(slots); ok || text != "" {
			t.Errorf("SlotsText(%v) = %q, %v", few, text, ok)
		}
	}
}

func TestOtherInterruptsPrioritiesAndLimitsAreRefused(t *testing.T) {
	for _, text := range []string{"- - - -", "p0:0 - - -", "a0:0 a7:15 - -", "b0:0 b1:1 b2:15 b7:0", "p0:15 p1:0 p2:5 p7:0", "- - - p7:0"} {
		slots := slotsFrom(text)
		for _, irq := range otherIrqs() {
			wantSlotFailures(t, slots, irq)
		}
		// A priority must be one also where it would not be used.
		for irq := range 8 {
			for _, priority := range otherPriorities() {
				got, ok := impl.PutIrq(slots, irq, priority)
				wantSlots(t, got, ok, nil, "PutIrq", text, irq, priority)
			}
		}
		for _, limit := range farCounts {
			got, irq, ok := impl.TakeSlot(slots, limit)
			wantSlots(t, got, ok, nil, "TakeSlot", text, limit)
			if irq != 0 {
				t.Errorf("TakeSlot(%q, %d) gives %d", text, limit, irq)
			}
		}
	}
}

func TestPutIrq(t *testing.T) {
	for _, c := range []struct {
		text          string
		irq, priority int
		want          string // empty if it fails
	}{
		{"- - - -", 0, 0, "p0:0 - - -"},
		{"- - - -", 7, 15, "p7:15 - - -"},
		{"- - - -", 3, 10, "p3:10 - - -"},
		// The first empty Slot.
		{"p3:5 - - -", 4, 5, "p3:5 p4:5 - -"},
		{"p3:5 a1:1 b2:2 -", 0, 0, "p3:5 a1:1 b2:2 p0:0"},
		{"- a1:1 b2:2 -", 7, 15, "p7:15 a1:1 b2:2 -"},
		{"a1:1 - b2:2 -", 7, 15, "a1:1 p7:15 b2:2 -"},
		{"a1:1 b2:2 - p3:3", 7, 15, "a1:1 b2:2 p7:15 p3:3"},
		// Pending, active and both, with the same, a more and a less urgent priority.
		{"- p3:5 - -", 3, 5, "- p3:5 - -"},
		{"- p3:5 - -", 3, 0, "- p3:5 - -"},
		{"- p3:5 - -", 3, 15, "- p3:5 - -"},
		{"- a3:5 - -", 3, 5, "- b3:5 - -"},
		{"- a3:5 - -", 3, 0, "- b3:5 - -"},
		{"- a3:5 - -", 3, 15, "- b3:5 - -"},
		{"- b3:5 - -", 3, 5, "- b3:5 - -"},
		{"- b3:5 - -", 3, 0, "- b3:5 - -"},
		{"- b3:5 - -", 3, 15, "- b3:5 - -"},
		// The interrupt 0 is not that of an empty Slot.
		{"- - - a0:0", 0, 1, "- - - b0:0"},
		{"- p1:0 - -", 0, 1, "p0:1 p1:0 - -"},
		// Every Slot is full.
		{"p0:0 p1:1 p2:2 p3:3", 4, 0, ""},
		{"p1:15 p2:15 p3:15 p4:15", 0, 0, ""},
		{"a1:15 a2:15 a3:15 a4:15", 0, 0, ""},
		{"b1:15 b2:15 b3:15 b4:15", 7, 15, ""},
		{"p0:0 a1:1 b2:2 p3:3", 0, 9, "p0:0 a1:1 b2:2 p3:3"},
		{"p0:0 a1:1 b2:2 p3:3", 1, 9, "p0:0 b1:1 b2:2 p3:3"},
		{"p0:0 a1:1 b2:2 p3:3", 2, 9, "p0:0 a1:1 b2:2 p3:3"},
		{"p0:0 a1:1 b2:2 a3:3", 3, 3, "p0:0 a1:1 b2:2 b3:3"},
	} {
		got, ok := impl.PutIrq(slotsFrom(c.text), c.irq, c.priority)
		wantSlots(t, got, ok, slotsFrom(c.want), "PutIrq", c.text, c.irq, c.priority)
	}
}

func TestTakeSlot(t *testing.T) {
	for _, c := range []struct {
		text  string
		limit int
		irq   int
		want  string // empty if it fails
	}{
		{"- - - -", 16, 0, ""},
		{"- - - -", 0, 0, ""},
		{"p0:0 - - -", 0, 0, ""},
		{"p0:0 - - -", 1, 0, "a0:0 - - -"},
		{"p0:0 - - -", 16, 0, "a0:0 - - -"},
		{"- - - p7:15", 15, 0, ""},
		{"- - - p7:15", 16, 7, "- - - a7:15"},
		// The limit is just the Priority of the most urgent one, and one more and less.
		{"p3:5 p1:2 p6:5 -", 1, 0, ""},
		{"p3:5 p1:2 p6:5 -", 2, 0, ""},
		{"p3:5 p1:2 p6:5 -", 3, 1, "p3:5 a1:2 p6:5 -"},
		{"p3:5 a1:2 p6:5 -", 5, 0, ""},
		{"p3:5 a1:2 p6:5 -", 6, 3, "a3:5 a1:2 p6:5 -"},
		// Equal priorities: the smaller number, wherever it is.
		{"p3:5 p1:5 p6:5 p2:5", 16, 1, "p3:5 a1:5 p6:5 p2:5"},
		{"p3:5 p6:5 p2:5 p0:5", 6, 0, "p3:5 p6:5 p2:5 a0:5"},
		{"p2:5 p6:5 p3:5 p7:5", 6, 2, "a2:5 p6:5 p3:5 p7:5"},
		{"p7:0 p6:0 - -", 1, 6, "p7:0 a6:0 - -"},
		// The priority counts more than the number.
		{"p0:5 p7:4 p1:9 -", 16, 7, "p0:5 a7:4 p1:9 -"},
		{"p0:10 p7:9 - -", 16, 7, "p0:10 a7:9 - -"},
		{"p0:10 p7:2 - -", 16, 7, "p0:10 a7:2 - -"},
		// What is active or both is not taken.
		{"b0:0 p7:9 a1:1 -", 16, 7, "b0:0 a7:9 a1:1 -"},
		{"b0:0 p7:9 a1:1 -", 9, 0, ""},
		{"b0:0 b1:1 b2:2 b3:3", 16, 0, ""},
		{"a0:0 a1:1 a2:2 a3:3", 16, 0, ""},
		{"- a1:1 b2:2 -", 16, 0, ""},
		{"b0:0 b1:1 b2:2 p3:15", 16, 3, "b0:0 b1:1 b2:2 a3:15"},
	} {
		got, irq, ok := impl.TakeSlot(slotsFrom(c.text), c.limit)
		wantSlots(t, got, ok, slotsFrom(c.want), "TakeSlot", c.text, c.limit)
		if irq != c.irq {
			t.Errorf("TakeSlot(%q, %d) gives %d, want %d", c.text, c.limit, irq, c.irq)
		}
	}
}

func TestEndSlot(t *testing.T) {
	for _, c := range []struct {
		text string
		irq  int
		want string // empty if it fails
	}{
		{"a0:0 - - -", 0, "- - - -"},
		{"a0:5 - - -", 0, "- - - -"},
		{"- - - a7:15", 7, "- - - -"},
		{"b0:0 - - -", 0, "p0:0 - - -"},
		{"- - - b7:15", 7, "- - - p7:15"},
		{"p0:0 - - -", 0, ""},
		{"- - - p7:15", 7, ""},
		// In no Slot; an empty Slot is not one with the interrupt 0.
		{"- - - -", 0, ""},
		{"- - - -", 7, ""},
		{"a1:0 b2:0 p3:0 -", 0, ""},
		{"a1:0 b2:0 p3:0 a4:0", 5, ""},
		{"a1:9 b2:9 p3:9 a4:9", 1, "- b2:9 p3:9 a4:9"},
		{"a1:9 b2:9 p3:9 a4:9", 2, "a1:9 p2:9 p3:9 a4:9"},
		{"a1:9 b2:9 p3:9 a4:9", 3, ""},
		{"a1:9 b2:9 p3:9 a4:9", 4, "a1:9 b2:9 p3:9 -"},
		// Not the most urgent ones alone.
		{"a0:0 a1:1 b2:2 b3:3", 3, "a0:0 a1:1 b2:2 p3:3"},
	} {
		got, ok := impl.EndSlot(slotsFrom(c.text), c.irq)
		wantSlots(t, got, ok, slotsFrom(c.want), "EndSlot", c.text, c.irq)
	}
}

func TestEvictSlot(t *testing.T) {
	for _, c := range []struct{ text, gone, want string }{
		{"- - - -", "", ""},
		{"p0:0 - - -", "p0:0", "- - - -"},
		{"- - - p7:15", "p7:15", "- - - -"},
		{"p3:5 p1:2 p6:5 -", "p6:5", "p3:5 p1:2 - -"},
		// Equal priorities: the greater number, wherever it is.
		{"p3:5 p7:5 p1:5 p6:5", "p7:5", "p3:5 - p1:5 p6:5"},
		{"p6:0 p3:0 p1:0 p0:0", "p6:0", "- p3:0 p1:0 p0:0"},
		{"p0:15 p1:15 p2:15 p3:15", "p3:15", "p0:15 p1:15 p2:15 -"},
		// The priority counts more than the number.
		{"p0:5 p7:4 p1:3 -", "p0:5", "- p7:4 p1:3 -"},
		{"p0:10 p7:9 p1:2 -", "p0:10", "- p7:9 p1:2 -"},
		// What is active or both remains.
		{"b7:15 p0:0 a6:15 -", "p0:0", "b7:15 - a6:15 -"},
		{"b7:15 b6:15 b5:15 b4:15", "", ""},
		{"a7:15 a6:15 a5:15 a4:15", "", ""},
		{"- b1:1 a2:2 -", "", ""},
		{"b7:15 a6:15 p1:0 p0:0", "p1:0", "b7:15 a6:15 - p0:0"},
	} {
		got, x, ok := impl.EvictSlot(slotsFrom(c.text))
		wantSlots(t, got, ok, slotsFrom(c.want), "EvictSlot", c.text)
		if want := append(slotsFrom(c.gone), impl.Slot{})[0]; x != want {
			t.Errorf("EvictSlot(%q) gives %v, want %v", c.text, x, want)
		}
	}
}

func TestEmptySlotsFindSlotAndActiveIrqs(t *testing.T) {
	for _, c := range []struct {
		text   string
		empty  int
		active []int
		found  map[int]int
	}{
		{"- - - -", 4, nil, nil},
		{"p0:0 - - -", 3, nil, map[int]int{0: 0}},
		{"- - - p0:0", 3, nil, map[int]int{0: 3}},
		{"- p7:15 - -", 3, nil, map[int]int{7: 1}},
		{"- a0:0 - -", 3, []int{0}, map[int]int{0: 1}},
		{"- - b7:15 -", 3, []int{7}, map[int]int{7: 2}},
		{"a7:0 - b3:0 -", 2, []int{3, 7}, map[int]int{7: 0, 3: 2}},
		{"p6:0 a5:1 b4:2 p3:3", 0, []int{4, 5}, map[int]int{6: 0, 5: 1, 4: 2, 3: 3}},
		{"b3:0 a7:9 a0:15 b5:7", 0, []int{0, 3, 5, 7}, map[int]int{3: 0, 7: 1, 0: 2, 5: 3}},
		{"p3:0 p7:9 p0:15 p5:7", 0, nil, map[int]int{3: 0, 7: 1, 0: 2, 5: 3}},
		{"a7:1 - p0:0 a6:2", 1, []int{6, 7}, map[int]int{7: 0, 0: 2, 6: 3}},
	} {
		slots := slotsFrom(c.text)
		if n, ok := impl.EmptySlots(slots); !ok || n != c.empty {
			t.Errorf("EmptySlots(%q) = %d, %v, want %d", c.text, n, ok, c.empty)
		}
		if irqs, ok := impl.ActiveIrqs(slots); !ok || !slices.Equal(irqs, c.active) {
			t.Errorf("ActiveIrqs(%q) = %v, %v, want %v", c.text, irqs, ok, c.active)
		}
		for irq := range 8 {
			want, found := c.found[irq]
			if i, ok := impl.FindSlot(slots, irq); ok != found || i != want {
				t.Errorf("FindSlot(%q, %d) = %d, %v, want %d, %v", c.text, irq, i, ok, want, found)
			}
		}
	}
}

// wantChange compares what a call returned with the model after the same change; a change that fails has none.
func wantChange(t *testing.T, got []impl.Slot, ok bool, after slotModel, done bool, call string, args ...any) {
	var want []impl.Slot
	if done {
		want = after.slots()
	}
	wantSlots(t, got, ok, want, call, args...)
}

// Each change of Slots is that of the model, so that every other Slot is as before.
func TestChangesOfManySlots(t *testing.T) {
	for _, slots := range manySlots() {
		for irq := range 8 {
			for _, priority := range []int{0, 6, 15} {
				m := modelOf(slots)
				done := m.put(irq, priority)
				got, ok := impl.PutIrq(slots, irq, priority)
				wantChange(t, got, ok, m, done, "PutIrq", slots, irq, priority)
			}
			m := modelOf(slots)
			done := m.end(irq)
			got, ok := impl.EndSlot(slots, irq)
			wantChange(t, got, ok, m, done, "EndSlot", slots, irq)
		}
		for limit := range 17 {
			m := modelOf(slots)
			first, done := m.take(limit)
			got, irq, ok := impl.TakeSlot(slots, limit)
			wantChange(t, got, ok, m, done, "TakeSlot", slots, limit)
			if irq != first {
				t.Fatalf("TakeSlot(%v, %d) gives %d, want %d", slots, limit, irq, first)
			}
		}
		m := modelOf(slots)
		last, done := m.evict()
		got, x, ok := impl.EvictSlot(slots)
		wantChange(t, got, ok, m, done, "EvictSlot", slots)
		if done && x != (impl.Slot{State: impl.SlotPending, Irq: last, Priority: m.priority[last]}) || !done && x != (impl.Slot{}) {
			t.Fatalf("EvictSlot(%v) gives %v", slots, x)
		}
	}
}

func TestCountsOfManySlots(t *testing.T) {
	for _, slots := range manySlots() {
		wantCounts(t, slots, modelOf(slots))
	}
}

// wantCounts makes the calls that change nothing, which must say what the model says.
func wantCounts(t *testing.T, slots []impl.Slot, m slotModel) {
	empty := 0
	for _, irq := range m.at {
		if irq < 0 {
			empty++
		}
	}
	if n, ok := impl.EmptySlots(slots); !ok || n != empty {
		t.Fatalf("EmptySlots(%v) = %d, %v", slots, n, ok)
	}
	if irqs, ok := impl.ActiveIrqs(slots); !ok || !slices.Equal(irqs, m.activeOnes()) {
		t.Fatalf("ActiveIrqs(%v) = %v, %v, want %v", slots, irqs, ok, m.activeOnes())
	}
	for irq := range 8 {
		want := slices.Index(m.at[:], irq)
		i, ok := impl.FindSlot(slots, irq)
		if ok != (want >= 0) || i != max(want, 0) {
			t.Fatalf("FindSlot(%v, %d) = %d, %v", slots, irq, i, ok)
		}
	}
}

// wantActiveOnce compares the Slots with the interrupts that were taken and not yet ended: each of them is active in exactly one Slot, and no other interrupt is.
func wantActiveOnce(t *testing.T, slots []impl.Slot, taken [8]bool) {
	var count [8]int
	for _, x := range slots {
		if x.State == impl.SlotActive || x.State == impl.SlotBoth {
			count[x.Irq]++
		}
	}
	for irq, n := range count {
		if taken[irq] != (n == 1) || n > 1 {
			t.Fatalf("%v: the interrupt %d is active in %d Slots, %v", slots, irq, n, taken[irq])
		}
	}
	if !impl.AreSlots(slots) {
		t.Fatalf("%v are no Slots", slots)
	}
}

// slotRun follows Slots, the model of them, and the interrupts that were taken and not yet ended.
type slotRun struct {
	slots []impl.Slot
	model slotModel
	taken [8]bool
}

func startOfSlots() slotRun {
	return slotRun{slots: make([]impl.Slot, 4), model: modelOf(nil)}
}

// after returns the run after one more call, and whether the call succeeded.
func (r slotRun) after(t *testing.T, call string, irq int, n int) (slotRun, bool) {
	before := r.slots
	var got []impl.Slot
	var ok, done bool
	switch call {
	case "put":
		got, ok = impl.PutIrq(before, irq, n)
		done = r.model.put(irq, n)
	case "end":
		got, ok = impl.EndSlot(before, irq)
		done = r.model.end(irq)
		r.taken[irq] = false
	case "take":
		var first, want int
		got, first, ok = impl.TakeSlot(before, n)
		want, done = r.model.take(n)
		if first != want {
			t.Fatalf("%v: took %d instead of %d", before, first, want)
		}
		r.taken[first] = r.taken[first] || ok
	case "evict":
		var gone impl.Slot
		var want int
		got, gone, ok = impl.EvictSlot(before)
		want, done = r.model.evict()
		if gone.Irq != want || ok != (gone.State == impl.SlotPending) || ok && before[slices.Index(before, gone)] != gone {
			t.Fatalf("%v: evicted %v instead of %d", before, gone, want)
		}
	}
	wantChange(t, got, ok, r.model, done, call, before, irq, n)
	if ok {
		r.slots = got
	}
	return r, ok
}

func TestActiveInOneSlotOverLongSequences(t *testing.T) {
	calls := []string{"put", "put", "put", "take", "take", "end", "end", "evict"}
	for seed := range 200 {
		next := numbers(800 + seed)
		r := startOfSlots()
		for range 400 {
			call, irq, n := calls[next(len(calls))], next(8), next(16)
			if call == "take" && next(2) == 0 {
				n = 16
			}
			r, _ = r.after(t, call, irq, n)
			wantActiveOnce(t, r.slots, r.taken)
			wantCounts(t, r.slots, r.model)
		}
	}
}

// All sequences of five calls with five interrupts, so that there is one for which there may be no Slot.
func TestActiveInOneSlotOverShortSequences(t *testing.T) {
	var follow func(r slotRun, left int)
	follow = func(r slotRun, left int) {
		wantActiveOnce(t, r.slots, r.taken)
		if left == 0 {
			return
		}
		for irq, priority := range []int{4, 0, 4, 15, 4} {
			for _, call := range []string{"put", "end"} {
				if next, ok := r.after(t, call, irq, priority); ok {
					follow(next, left-1)
				}
			}
		}
		for _, limit := range []int{1, 5, 16} {
			if next, ok := r.after(t, "take", 0, limit); ok {
				follow(next, left-1)
			}
		}
		if next, ok := r.after(t, "evict", 0, 0); ok {
			follow(next, left-1)
		}
	}
	follow(startOfSlots(), 5)
	for _, text := range []string{"p0:4 p1:0 p2:4 p3:15", "a0:4 b1:0 p2:4 -", "b0:4 b1:0 b2:4 b4:4", "a3:15 a2:4 a1:0 p4:4"} {
		r := slotRun{slots: slotsFrom(text), model: modelOf(slotsFrom(text))}
		r.taken = r.model.active
		follow(r, 4)
	}
}

// An interrupt that is put again and again while it is active is pending once when it ends.
func TestPutTakenAndEnded(t *testing.T) {
	for irq := range 8 {
		for priority := range 16 {
			name := fmt.Sprintf("%d:%d", irq, priority)
			slots := slotsFrom(fmt.Sprintf("a%d:0 - - b%d:15", (irq+1)%8, (irq+2)%8))
			step := func(call string, got []impl.Slot, ok bool, word string) {
				want := slots
				want = slices.Concat(want[:1], slotsFrom(word), want[2:])
				wantSlots(t, got, ok, want, call, name)
				slots = got
			}
			for range 2 {
				got, ok := impl.PutIrq(slots, irq, priority)
				step("put", got, ok, "p"+name)
				got, ok = impl.PutIrq(slots, irq, 15-priority)
				step("put while it is pending", got, ok, "p"+name)
				got, _, ok = impl.TakeSlot(slots, priority+1)
				step("taken", got, ok, "a"+name)
				for range 2 {
					got, ok = impl.PutIrq(slots, irq, 15-priority)
					step("put while it is active", got, ok, "b"+name)
				}
				got, _, ok = impl.TakeSlot(slots, 16)
				wantSlots(t, got, ok, nil, "taken while it is both", name)
				got, ok = impl.EndSlot(slots, irq)
				step("ended", got, ok, "p"+name)
				got, ok = impl.EndSlot(slots, irq)
				wantSlots(t, got, ok, nil, "ended while it is pending", name)
				got, _, ok = impl.TakeSlot(slots, 16)
				step("taken again", got, ok, "a"+name)
				got, ok = impl.EndSlot(slots, irq)
				step("ended again", got, ok, "-")
				got, ok = impl.EndSlot(slots, irq)
				wantSlots(t, got, ok, nil, "ended while it is in no Slot", name)
			}
		}
	}
}

func TestSlotsText(t *testing.T) {
	for _, text := range []string{
		"- - - -", "p0:0 - - -", "- - - p7:15", "- a0:0 - -", "b7:15 - - -", "p3:5 b1:2 p6:5 -", "p0:0 p1:0 p2:0 p3:0",
		"a7:15 a6:14 a5:10 a4:9", "b0:1 b1:10 b2:11 b3:0", "- b2:0 - a0:10",
	} {
		got, ok := impl.SlotsText(slotsFrom(text))
		if !ok || got != text {
			t.Errorf("SlotsText of %q = %q, %v", text, got, ok)
		}
		slots, ok := impl.ParseSlots(text)
		wantSlots(t, slots, ok, slotsFrom(text), "ParseSlots", text)
	}
}

func TestManySlotsAreRecoveredFromTheirTexts(t *testing.T) {
	for _, slots := range manySlots() {
		words := make([]string, 4)
		for i, x := range slots {
			words[i] = "-"
			if x.State > 0 {
				words[i] = fmt.Sprintf("%c%d:%d", " pab"[x.State], x.Irq, x.Priority)
			}
		}
		text, ok := impl.SlotsText(slots)
		if !ok || text != strings.Join(words, " ") {
			t.Fatalf("SlotsText(%v) = %q, %v", slots, text, ok)
		}
		got, ok := impl.ParseSlots(text)
		wantSlots(t, got, ok, slots, "ParseSlots", text)
	}
	for n := range 3 * 8 * 16 {
		word := fmt.Sprintf("%c%d:%d", "pab"[n/128], n/16%8, n%16)
		for i := range 4 {
			words := []string{"-", "-", "-", "-"}
			words[i] = word
			text := strings.Join(words, " ")
			got, ok := impl.ParseSlots(text)
			wantSlots(t, got, ok, slotsFrom(text), "ParseSlots", text)
		}
	}
}

var slotsForm = regexp.MustCompile(`^(-|[pab][0-7]:(\d|1[0-5]))( (-|[pab][0-7]:(\d|1[0-5]))){3}$`)

// isSlotsText reports whether a text has the form of a SlotsText and no interrupt twice.
func isSlotsText(s string) bool {
	if len(s) > 30 || !slotsForm.MatchString(s) {
		return false
	}
	seen := map[byte]bool{}
	for _, word := range strings.Split(s, " ") {
		if word == "-" {
			continue
		}
		if seen[word[1]] {
			return false
		}
		seen[word[1]] = true
	}
	return true
}

// wantSlotsParsed compares ParseSlots with the form of the texts.
func wantSlotsParsed(t *testing.T, s string) {
	var want []impl.Slot
	if isSlotsText(s) {
		want = slotsFrom(s)
	}
	if got, ok := impl.ParseSlots(s); ok != (want != nil) || !slices.Equal(got, want) {
		t.Fatalf("ParseSlots(%q) = %v, %v, want %v", shown(s), got, ok, want)
	}
}

func TestOtherSlotsTextsAreRefused(t *testing.T) {
	for _, s := range []string{
		"", "-", "- -", "- - -", "- - - - -", "p0:0", "p0:0 p1:0 p2:0", "p0:0 p1:0 p2:0 p3:0 p4:0", "p0:0 p1:0 p2:0 p3:0 -",
		// Missing and additional spaces.
		"----", "--- -", "p0:0- - -", " - - - -", "- - - - ", "-  - - -", "- - -  -", "-  - -", "   ", "    ", "p 0:0 - - -", "p0 :0 - - -", "p0: 0 - - -", "-\t- - -", "- - - -\n",
		// Other letters.
		"x3:5 - - -", "P3:5 - - -", "A3:5 - - -", "e3:5 - - -", "c3:5 - - -", "o3:5 - - -", "q3:5 - - -", "-3:5 - - -", "-0:0 - - -", "3:5 - - -", "pp3:5 - - -", "pa3:5 - - -", "pab - - -", "\u00e13:5 - - -", "_ - - -", ". - - -", "0 - - -",
		// Leading zeros and signs.
		"p03:5 - - -", "p3:05 - - -", "p3:00 - - -", "p00:0 - - -", "p+3:5 - - -", "p3:+5 - - -", "p-3:5 - - -", "p3:-5 - - -", "p-0:0 - - -", "p0:-0 - - -", "p+0:+0 - - -",
		// Interrupts and priorities out of range.
		"p8:0 - - -", "p9:0 - - -", "p10:0 - - -", "p16:0 - - -", "p3:16 - - -", "p3:20 - - -", "p3:100 - - -", "p3:4294967296 - - -", "p4294967296:0 - - -", "p18446744073709551616:0 - - -", "p3:1000000 - - -",
		// Parts that are missing or there are too many of.
		"p - - -", "p: - - -", "p3 - - -", "p3: - - -", "p:5 - - -", ": - - -", ":5 - - -", "p3:5: - - -", "p3:5:1 - - -", "p3::5 - - -", "p3:5- - - -", "-- - - -", "p3;5 - - -", "p3:5,- - -", "p3:0x5 - - -", "p3:5.0 - - -", "p3:1_0 - - -", "p3:1e1 - - -",
		// An interrupt twice.
		"p3:5 p3:4 - -", "p3:5 p3:5 - -", "p3:5 a3:5 - -", "p3:5 - - b3:5", "a0:0 - b0:0 -", "- - b7:1 a7:1", "p0:0 p1:0 p2:0 p0:1",
	} {
		if isSlotsText(s) {
			t.Errorf("%q has the form of a SlotsText", s)
		}
		wantSlotsParsed(t, s)
	}
	for _, n := range []int{31, 32, 1000, impl.MaxString - 1, impl.MaxString, impl.MaxString + 1, 1 << 22} {
		for _, part := range []string{" ", "-", "- ", "p", "p3:5 ", "0", ":", "\x00"} {
			whole := strings.Repeat(part, n/len(part))
			wantSlotsParsed(t, whole)
			wantSlotsParsed(t, "- - - -"+whole)
			wantSlotsParsed(t, "- - - p3:"+whole+"5")
			wantSlotsParsed(t, "- - - p"+whole+"3:5")
			wantSlotsParsed(t, whole+"- - - -")
		}
	}
}

// Each text with any byte changed, left out or put in is accepted only if it is a SlotsText again.
func TestChangedSlotsTexts(t *testing.T) {
	for _, text := range []string{"- - - -", "p3:5 b1:2 a6:15 -", "p0:10 a1:0 b7:9 p2:1"} {
		for i := range len(text) + 1 {
			for c := range 256 {
				wantSlotsParsed(t, text[:i]+string([]byte{byte(c)})+text[i:])
				if i < len(text) {
					wantSlotsParsed(t, text[:i]+string([]byte{byte(c)})+text[i+1:])
				}
			}
			for j := i; j <= len(text); j++ {
				wantSlotsParsed(t, text[:i]+text[j:])
				wantSlotsParsed(t, text[i:j])
				wantSlotsParsed(t, text[:j]+text[i:])
			}
		}
	}
}

// All short words stand in the place of one Slot.
func TestAllShortSlotWords(t *testing.T) {
	const letters = "-pab:0178+ "
	accepted := 0
	var extend func(word string)
	extend = func(word string) {
		wantSlotsParsed(t, word+" - p7:3 -")
		if isSlotsText(word + " - p7:3 -") {
			accepted++
		}
		if len(word) < 5 {
			for i := range len(letters) {
				extend(word + letters[i:i+1])
			}
		}
	}
	extend("")
	// `-`, and three marks with the interrupts 0 and 1 and the priorities 0, 1, 7, 8, 10 and 11.
	if want := 1 + 3*2*6; accepted != want {
		t.Errorf("%d words are accepted instead of %d", accepted, want)
	}
}

// callSlots makes every call with Slots and returns their results as a text.
func callSlots(slots []impl.Slot, irq int, n int) string {
	all := []any{impl.AreSlots(slots)}
	add := func(values ...any) { all = append(all, values...) }
	put, ok := impl.PutIrq(slots, irq, n)
	add(put, ok)
	taken, first, ok := impl.TakeSlot(slots, n+1)
	add(taken, first, ok)
	ended, ok := impl.EndSlot(slots, irq)
	add(ended, ok)
	empty, ok := impl.EmptySlots(slots)
	add(empty, ok)
	i, ok := impl.FindSlot(slots, irq)
	add(i, ok)
	evicted, x, ok := impl.EvictSlot(slots)
	add(evicted, x, ok)
	active, ok := impl.ActiveIrqs(slots)
	add(active, ok)
	text, ok := impl.SlotsText(slots)
	add(text, ok)
	parsed, ok := impl.ParseSlots(text)
	add(parsed, ok)
	return fmt.Sprint(all...)
}

// The lists lie within longer ones, whose other elements are no Slots and must be neither read nor written.
func TestSlotArgumentsAreNotChanged(t *testing.T) {
	odd := impl.Slot{State: 9, Irq: -5, Priority: 99}
	for i, slots := range append(manySlots(), invalidSlots()[3:]...) {
		whole := append(append([]impl.Slot{odd, odd}, slots...), odd, odd, odd)
		before := slices.Clone(whole)
		within, alone := callSlots(whole[2:2+len(slots)], i%8, i%16), callSlots(slices.Clone(slots), i%8, i%16)
		if within != alone {
			t.Fatalf("%v in a longer list: %s instead of %s", slots, within, alone)
		}
		if !slices.Equal(whole, before) {
			t.Fatalf("%v became %v", before, whole)
		}
	}
}

func TestSlotResultsAreNotShared(t *testing.T) {
	odd := impl.Slot{State: 9, Irq: -5, Priority: 99}
	for i, slots := range manySlots()[:2500] {
		lists := [][]impl.Slot{append(slots, odd)[:4]}
		var active [][]int
		for range 2 {
			for irq := range 8 {
				put, _ := impl.PutIrq(lists[0], irq, i%16)
				ended, _ := impl.EndSlot(lists[0], irq)
				lists = append(lists, put, ended)
			}
			taken, _, _ := impl.TakeSlot(lists[0], 16)
			evicted, _, _ := impl.EvictSlot(lists[0])
			text, _ := impl.SlotsText(lists[0])
			parsed, _ := impl.ParseSlots(text)
			irqs, _ := impl.ActiveIrqs(lists[0])
			lists, active = append(lists, taken, evicted, parsed), append(active, irqs)
		}
		wantNotShared(t, "Slots", lists, odd)
		wantNotShared(t, "active", active, -5)
	}
}

// What was returned before changes nothing of what is returned later.
func TestSlotCallsKeepNothing(t *testing.T) {
	slots := slotsFrom("p3:5 b1:2 p6:5 a0:0")
	want := callSlots(slots, 1, 7)
	for i, other := range manySlots()[:600] {
		put, _ := impl.PutIrq(slots, 1, 7)
		taken, _, _ := impl.TakeSlot(slots, 16)
		active, _ := impl.ActiveIrqs(slots)
		parsed, _ := impl.ParseSlots("p3:5 b1:2 p6:5 a0:0")
		clear(put)
		clear(taken)
		clear(active)
		clear(parsed)
		callSlots(other, i%8, i%16)
		callSlots(nil, -1, 17)
		if got := callSlots(slots, 1, 7); got != want {
			t.Fatalf("the calls gave %s and now %s", want, got)
		}
	}
}
