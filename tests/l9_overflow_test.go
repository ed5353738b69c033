package tests

import (
	"fmt"
	"slices"
	"strings"
	"testing"

	"loop.example/g00843/impl"
)

// waitersFrom returns the Waiters of words like 3:5, the interrupt and its priority.
func waitersFrom(text string) []impl.Waiter {
	var waiting []impl.Waiter
	for _, word := range strings.Fields(text) {
		var x impl.Waiter
		fmt.Sscanf(word, "%d:%d", &x.Irq, &x.Priority)
		waiting = append(waiting, x)
	}
	return waiting
}

// queueFrom returns the Queue of a text: Slots as slotsFrom reads them, and behind a bar Waiting.
func queueFrom(text string) impl.Queue {
	slots, waiting, _ := strings.Cut(text, "|")
	return impl.Queue{Slots: slotsFrom(slots), Waiting: waitersFrom(waiting)}
}

func sameQueue(a, b impl.Queue) bool {
	return slices.Equal(a.Slots, b.Slots) && slices.Equal(a.Waiting, b.Waiting)
}

func isNoQueue(q impl.Queue) bool { return len(q.Slots) == 0 && len(q.Waiting) == 0 }

// wantQueue compares what a call returned with a Queue, and with a failure if that has no Slots.
func wantQueue(t *testing.T, got impl.Queue, ok bool, want impl.Queue, call string, args ...any) {
	if ok != (len(want.Slots) > 0) || !sameQueue(got, want) {
		t.Helper()
		t.Fatalf("%s%v = %v, %v instead of %v", call, args, got, ok, want)
	}
}

// fewOf keeps the message of a failing test of long lists readable.
func fewOf(q impl.Queue) impl.Queue {
	return impl.Queue{Slots: q.Slots[:min(len(q.Slots), 8)], Waiting: q.Waiting[:min(len(q.Waiting), 10)]}
}

// queueModel tells of each interrupt what slotModel tells. What is pending and in no place waits.
type queueModel struct{ slotModel }

func queueModelOf(q impl.Queue) queueModel {
	m := queueModel{modelOf(q.Slots)}
	for _, x := range q.Waiting {
		m.pending[x.Irq], m.priority[x.Irq] = true, x.Priority
	}
	return m
}

func (m *queueModel) waits(irq int) bool { return m.pending[irq] && !slices.Contains(m.at[:], irq) }

// inSlotPending reports whether an interrupt may be taken or evicted.
func (m *queueModel) inSlotPending(irq int) bool {
	return m.pending[irq] && !m.active[irq] && !m.waits(irq)
}

// before reports whether one interrupt is more urgent than another one.
func (m *queueModel) before(a, b int) bool {
	return m.priority[a] < m.priority[b] || m.priority[a] == m.priority[b] && a < b
}

// urgentOnes returns the interrupts for which a function is true, the most urgent one first.
func (m *queueModel) urgentOnes(is func(irq int) bool) []int {
	var irqs []int
	for priority := range 16 {
		for irq := range 8 {
			if m.priority[irq] == priority && is(irq) {
				irqs = append(irqs, irq)
			}
		}
	}
	return irqs
}

// isSettled compares all that waits with all places.
func (m *queueModel) isSettled() bool {
	for irq := range 8 {
		for _, other := range m.at {
			if m.waits(irq) && (other < 0 || m.inSlotPending(other) && m.before(irq, other)) {
				return false
			}
		}
	}
	return true
}

func (m *queueModel) settle() {
	for !m.isSettled() {
		place := slices.Index(m.at[:], -1)
		if place < 0 {
			taken := m.urgentOnes(m.inSlotPending)
			place = slices.Index(m.at[:], taken[len(taken)-1])
		}
		m.at[place] = m.urgentOnes(m.waits)[0]
	}
}

// queue returns the Queue that the model describes.
func (m queueModel) queue() impl.Queue {
	q := impl.Queue{Slots: m.slots()}
	for _, irq := range m.urgentOnes(m.waits) {
		q.Waiting = append(q.Waiting, impl.Waiter{Irq: irq, Priority: m.priority[irq]})
	}
	return q
}

func (m *queueModel) offer(irq int, priority int) {
	if !m.pending[irq] && !m.active[irq] {
		m.priority[irq] = priority
	}
	m.pending[irq] = true
	m.settle()
}

// take tells which interrupt is taken and whether there is one, as do end and withdraw whether they could be done.
func (m *queueModel) take(limit int) (int, bool) {
	ready := m.urgentOnes(m.inSlotPending)
	if len(ready) == 0 || m.priority[ready[0]] >= limit {
		return 0, false
	}
	m.pending[ready[0]], m.active[ready[0]] = false, true
	return ready[0], true
}

func (m *queueModel) end(irq int) bool {
	done := m.slotModel.end(irq)
	m.settle()
	return done
}

func (m *queueModel) withdraw(irq int) bool {
	if !m.pending[irq] {
		return false
	}
	if m.inSlotPending(irq) {
		m.at[slices.Index(m.at[:], irq)] = -1
	}
	m.pending[irq] = false
	m.settle()
	return true
}

// manyParts returns Slots and Waiting as in a Queue, settled or not, over all States and many orders and priorities.
func manyParts() []impl.Queue {
	next := numbers(9)
	priorities := []func() int{
		func() int { return 5 },
		func() int { return 7 * next(3) },
		func() int { return next(16) },
	}
	var parts []impl.Queue
	for i, slots := range manySlots() {
		parts = append(parts, impl.Queue{Slots: slots})
		for _, priority := range priorities {
			m := queueModelOf(impl.Queue{Slots: slots})
			for irq := range 8 {
				if !m.pending[irq] && !m.active[irq] && next(8) > i%8 {
					m.pending[irq], m.priority[irq] = true, priority()
				}
			}
			parts = append(parts, m.queue())
		}
	}
	return parts
}

// manyQueues returns those of manyParts that are settled, and the others after the model settled them.
func manyQueues() []impl.Queue {
	var queues []impl.Queue
	for _, q := range manyParts() {
		m := queueModelOf(q)
		m.settle()
		queues = append(queues, m.queue())
	}
	return queues
}

func TestIsQueue(t *testing.T) {
	for _, c := range []struct {
		text string
		want bool
	}{
		{"- - - -|", true},
		{"p0:0 - - -|", true},
		{"- - - b7:15|", true},
		{"p0:0 a1:1 b2:2 p3:3|", true},
		{"p7:15 p6:15 p5:15 p4:15|", true},
		{"p0:0 p1:0 p2:0 p3:0|4:0 5:0 6:0 7:0", true},
		{"p3:15 p2:15 p1:15 p0:15|4:15 5:15 6:15 7:15", true},
		// An empty Slot, but something waits.
		{"- - - -|0:0", false},
		{"- - - -|7:15", false},
		{"- a1:0 b2:0 p3:0|4:9", false},
		{"a1:0 - b2:0 p3:0|4:9", false},
		{"a1:0 b2:0 p3:0 -|4:9", false},
		{"a1:0 b2:0 a3:0 -|4:9 5:9", false},
		// What waits is more urgent, or less urgent, than each SlotPending and than one of them.
		{"p1:5 p2:5 p3:5 p4:5|5:4", false},
		{"p1:5 p2:5 p3:5 p4:5|5:6", true},
		{"p1:5 p2:6 p3:5 p4:5|5:5", false},
		{"p1:5 p2:5 p3:5 p4:6|5:5 6:7", false},
		{"p1:6 p2:5 p3:5 p4:5|5:7", true},
		{"a1:5 a2:5 a3:5 p4:7|5:6", false},
		{"p1:7 a2:5 a3:5 a4:5|5:6", false},
		{"p1:7 a2:5 a3:5 a4:5|5:8", true},
		// Equal Priorities: the number tells.
		{"p1:5 p2:5 p3:5 p5:5|4:5", false},
		{"p1:5 p2:5 p3:5 p4:5|5:5", true},
		{"p5:5 p2:5 p3:5 p1:5|0:5", false},
		{"p5:5 p2:5 p3:5 p1:5|6:5", true},
		{"a7:5 a6:5 b5:5 p1:5|0:5", false},
		{"a7:5 a6:5 b5:5 p0:5|1:5", true},
		// What is active or both may be less urgent than what waits.
		{"a1:15 a2:15 a3:15 a4:15|0:0", true},
		{"b1:15 b2:15 b3:15 b4:15|0:0 5:3 6:3 7:15", true},
		{"a1:15 b2:15 p3:1 b4:15|0:0", false},
		{"a1:15 b2:15 p3:1 b4:15|0:2", true},
		{"a1:15 b2:15 p3:1 b4:15|0:1", false},
		{"a1:15 b2:15 p3:1 b4:15|5:1", true},
		// Waiting is not in strictly ascending order.
		{"a1:0 a2:0 a3:0 a4:0|5:6 0:5", false},
		{"a1:0 a2:0 a3:0 a4:0|5:6 0:6", false},
		{"a1:0 a2:0 a3:0 a4:0|0:6 5:6", true},
		{"a1:0 a2:0 a3:0 a4:0|5:6 0:10", true},
		{"a1:0 a2:0 a3:0 a4:0|5:6 0:7 6:6", false},
		{"a1:0 a2:0 a3:0 a4:0|5:6 0:7 6:7 7:6", false},
		{"a1:0 a2:0 a3:0 a4:0|5:6 5:6", false},
		{"a1:0 a2:0 a3:0 a4:0|5:6 5:7", false},
		{"a1:0 a2:0 a3:0 a4:0|5:6 7:6 5:7", false},
		// In a Slot and in Waiting.
		{"a1:0 a2:0 a3:0 a4:0|1:0", false},
		{"a1:0 a2:0 a3:0 b4:0|4:9", false},
		{"a1:0 p2:0 a3:0 b4:0|0:5 2:9", false},
		{"a1:0 p2:0 a3:0 b4:0|0:5 6:9", true},
	} {
		if got := impl.IsQueue(queueFrom(c.text)); got != c.want {
			t.Errorf("IsQueue(%q) = %v", c.text, got)
		}
	}
}

func TestIsQueueOfManyParts(t *testing.T) {
	settled := 0
	parts := manyParts()
	for _, q := range parts {
		m := queueModelOf(q)
		if got := impl.IsQueue(q); got != m.isSettled() {
			t.Fatalf("IsQueue(%v) = %v", q, got)
		}
		if m.isSettled() {
			settled++
		}
	}
	if settled < 2000 || len(parts)-settled < 2000 {
		t.Errorf("of %d parts, %d are settled", len(parts), settled)
	}
	for _, q := range manyQueues() {
		if !impl.IsQueue(q) {
			t.Fatalf("%v is no Queue", q)
		}
	}
}

func TestSettleQueue(t *testing.T) {
	for _, c := range []struct{ text, want string }{
		// Settled already.
		{"- - - -|", "- - - -|"},
		{"- p3:5 - b1:1|", "- p3:5 - b1:1|"},
		{"p4:3 p5:2 p2:5 p3:4|1:6 0:7", "p4:3 p5:2 p2:5 p3:4|1:6 0:7"},
		{"a4:9 b5:9 a2:9 b3:9|1:6 0:7", "a4:9 b5:9 a2:9 b3:9|1:6 0:7"},
		{"p1:5 p2:5 p3:5 p4:5|5:5", "p1:5 p2:5 p3:5 p4:5|5:5"},
		// The first of Waiting comes into the first empty Slot.
		{"- - - -|0:0", "p0:0 - - -|"},
		{"- - - -|7:15", "p7:15 - - -|"},
		{"a1:1 - b2:2 -|3:9", "a1:1 p3:9 b2:2 -|"},
		{"a1:1 - b2:2 -|3:9 4:9", "a1:1 p3:9 b2:2 p4:9|"},
		{"a1:1 - b2:2 -|5:9 3:10 4:11", "a1:1 p5:9 b2:2 p3:10|4:11"},
		{"- - - -|0:0 1:0 2:0 3:0 4:0 5:0 6:0 7:0", "p0:0 p1:0 p2:0 p3:0|4:0 5:0 6:0 7:0"},
		{"- - - -|7:0 6:1 5:2 4:3 3:4 2:5 1:6 0:7", "p7:0 p6:1 p5:2 p4:3|3:4 2:5 1:6 0:7"},
		// It comes into an empty Slot even if a SlotPending is less urgent.
		{"p1:9 p2:8 p3:7 -|4:3", "p1:9 p2:8 p3:7 p4:3|"},
		// The least urgent SlotPending is evicted, wherever it is.
		{"p1:9 p2:8 p3:7 p4:6|5:5", "p5:5 p2:8 p3:7 p4:6|1:9"},
		{"p1:6 p2:8 p3:7 p4:6|5:5", "p1:6 p5:5 p3:7 p4:6|2:8"},
		{"p1:6 p2:6 p3:7 p4:6|5:5", "p1:6 p2:6 p5:5 p4:6|3:7"},
		{"p1:6 p2:6 p3:6 p4:7|5:5", "p1:6 p2:6 p3:6 p5:5|4:7"},
		{"a1:15 p2:6 b3:15 p4:7|5:5", "a1:15 p2:6 b3:15 p5:5|4:7"},
		// Equal Priorities: the greatest number is evicted, and only for a smaller one.
		{"p4:5 p7:5 p6:5 p5:5|1:5", "p4:5 p1:5 p6:5 p5:5|7:5"},
		{"p4:5 p2:5 p6:5 p1:5|5:5", "p4:5 p2:5 p5:5 p1:5|6:5"},
		{"p4:5 p2:5 p3:5 p1:5|5:5", "p4:5 p2:5 p3:5 p1:5|5:5"},
		// What is evicted comes to the front, into the middle and to the end of what waits.
		{"p4:5 a1:0 a2:0 a3:0|5:3 6:9 7:12", "p5:3 a1:0 a2:0 a3:0|4:5 6:9 7:12"},
		{"p4:10 a1:0 a2:0 a3:0|5:3 6:9 7:12", "p5:3 a1:0 a2:0 a3:0|6:9 4:10 7:12"},
		{"p4:15 a1:0 a2:0 a3:0|5:3 6:9 7:12", "p5:3 a1:0 a2:0 a3:0|6:9 7:12 4:15"},
		{"p4:9 a1:0 a2:0 a3:0|5:3 6:9 7:12", "p5:3 a1:0 a2:0 a3:0|4:9 6:9 7:12"},
		{"p7:9 a1:0 a2:0 a3:0|5:3 6:9 0:12", "p5:3 a1:0 a2:0 a3:0|6:9 7:9 0:12"},
		// Several steps.
		{"p7:9 - a6:1 -|1:2 2:3 3:4", "p3:4 p1:2 a6:1 p2:3|7:9"},
		{"p4:9 p5:9 p6:9 p7:9|0:0 1:1 2:2 3:3", "p3:3 p2:2 p1:1 p0:0|4:9 5:9 6:9 7:9"},
		{"p4:9 p5:9 p6:9 p7:9|3:0 2:1 1:9 0:10", "p4:9 p1:9 p2:1 p3:0|5:9 6:9 7:9 0:10"},
		{"a4:9 p5:9 b6:9 p7:8|0:0 1:8 2:9", "a4:9 p0:0 b6:9 p1:8|7:8 2:9 5:9"},
		// None can be evicted.
		{"a4:15 b5:15 b6:15 a7:15|0:0 1:0", "a4:15 b5:15 b6:15 a7:15|0:0 1:0"},
		{"a4:15 b5:15 - a7:15|0:0 1:0", "a4:15 b5:15 p0:0 a7:15|1:0"},
	} {
		parts := queueFrom(c.text)
		got, ok := impl.SettleQueue(parts.Slots, parts.Waiting)
		wantQueue(t, got, ok, queueFrom(c.want), "SettleQueue", c.text)
	}
}

func TestSettleQueueOfManyParts(t *testing.T) {
	for _, q := range manyParts() {
		m := queueModelOf(q)
		before := m
		m.settle()
		got, ok := impl.SettleQueue(q.Slots, q.Waiting)
		wantQueue(t, got, ok, m.queue(), "SettleQueue", q)
		after := queueModelOf(got)
		if !impl.IsQueue(got) || after.pending != before.pending || after.active != before.active || after.priority != before.priority {
			t.Fatalf("%v became %v", q, got)
		}
	}
}

func TestOfferIrq(t *testing.T) {
	for _, c := range []struct {
		text          string
		irq, priority int
		want          string
	}{
		// The first empty Slot.
		{"- - - -|", 0, 0, "p0:0 - - -|"},
		{"- - - -|", 7, 15, "p7:15 - - -|"},
		{"p3:5 - b2:2 -|", 4, 9, "p3:5 p4:9 b2:2 -|"},
		{"p3:5 a1:1 b2:2 -|", 4, 0, "p3:5 a1:1 b2:2 p4:0|"},
		// In a Slot, pending, active and both, with an empty Slot and where others wait.
		{"- p3:5 - -|", 3, 0, "- p3:5 - -|"},
		{"- a3:5 - -|", 3, 15, "- b3:5 - -|"},
		{"- b3:5 - -|", 3, 0, "- b3:5 - -|"},
		{"p1:2 a2:3 b3:4 p4:5|5:6", 1, 15, "p1:2 a2:3 b3:4 p4:5|5:6"},
		{"p1:2 a2:3 b3:4 p4:5|5:6", 4, 0, "p1:2 a2:3 b3:4 p4:5|5:6"},
		{"p1:2 a2:3 b3:4 p4:5|5:6", 2, 0, "p1:2 b2:3 b3:4 p4:5|5:6"},
		{"p1:2 a2:13 b3:4 p4:5|5:6", 2, 0, "p1:2 b2:13 b3:4 p4:5|5:6"},
		{"p1:2 a2:3 b3:4 p4:5|5:6", 3, 0, "p1:2 a2:3 b3:4 p4:5|5:6"},
		// In Waiting, with a more urgent, the same and a less urgent priority.
		{"p1:2 a2:3 b3:4 p4:5|5:6 6:7", 5, 0, "p1:2 a2:3 b3:4 p4:5|5:6 6:7"},
		{"p1:2 a2:3 b3:4 p4:5|5:6 6:7", 6, 0, "p1:2 a2:3 b3:4 p4:5|5:6 6:7"},
		{"p1:2 a2:3 b3:4 p4:5|5:6 6:7", 5, 6, "p1:2 a2:3 b3:4 p4:5|5:6 6:7"},
		{"p1:2 a2:3 b3:4 p4:5|5:6 6:7", 5, 15, "p1:2 a2:3 b3:4 p4:5|5:6 6:7"},
		// All Slots are full and more urgent: the front, the middle and the end of Waiting.
		{"p1:2 p2:3 p3:4 p4:5|", 0, 6, "p1:2 p2:3 p3:4 p4:5|0:6"},
		{"p1:2 p2:3 p3:4 p4:5|", 0, 15, "p1:2 p2:3 p3:4 p4:5|0:15"},
		{"p1:2 p2:3 p3:4 p4:5|5:8 6:10", 0, 7, "p1:2 p2:3 p3:4 p4:5|0:7 5:8 6:10"},
		{"p1:2 p2:3 p3:4 p4:5|5:8 6:10", 0, 9, "p1:2 p2:3 p3:4 p4:5|5:8 0:9 6:10"},
		{"p1:2 p2:3 p3:4 p4:5|5:8 6:10", 0, 11, "p1:2 p2:3 p3:4 p4:5|5:8 6:10 0:11"},
		{"p1:2 p2:3 p3:4 p4:5|5:8 6:8", 0, 8, "p1:2 p2:3 p3:4 p4:5|0:8 5:8 6:8"},
		{"p1:2 p2:3 p3:4 p4:5|5:8 7:8", 6, 8, "p1:2 p2:3 p3:4 p4:5|5:8 6:8 7:8"},
		{"p1:2 p2:3 p3:4 p4:5|5:8 6:8", 7, 8, "p1:2 p2:3 p3:4 p4:5|5:8 6:8 7:8"},
		// All Slots are full, and one or all are less urgent.
		{"p1:2 p2:3 p3:4 p4:5|", 0, 4, "p1:2 p2:3 p3:4 p0:4|4:5"},
		{"p1:2 p2:9 p3:4 p4:5|", 0, 7, "p1:2 p0:7 p3:4 p4:5|2:9"},
		{"p1:9 p2:8 p3:4 p4:5|", 0, 1, "p0:1 p2:8 p3:4 p4:5|1:9"},
		{"p1:2 p2:3 p3:9 p4:5|5:10 6:11", 0, 0, "p1:2 p2:3 p0:0 p4:5|3:9 5:10 6:11"},
		{"p1:2 p2:3 p3:9 p4:5|5:9 6:9", 0, 0, "p1:2 p2:3 p0:0 p4:5|3:9 5:9 6:9"},
		{"a1:15 p2:1 b3:15 a4:15|5:9 6:9", 0, 0, "a1:15 p0:0 b3:15 a4:15|2:1 5:9 6:9"},
		// All Slots are full and as urgent.
		{"p1:5 p2:5 p3:5 p4:5|", 0, 5, "p1:5 p2:5 p3:5 p0:5|4:5"},
		{"p4:5 p2:5 p3:5 p1:5|", 0, 5, "p0:5 p2:5 p3:5 p1:5|4:5"},
		{"p1:5 p2:5 p3:5 p4:5|", 7, 5, "p1:5 p2:5 p3:5 p4:5|7:5"},
		{"p1:5 p2:5 p5:5 p4:5|6:5 7:5", 3, 5, "p1:5 p2:5 p3:5 p4:5|5:5 6:5 7:5"},
		{"p1:5 p2:5 p3:5 p4:5|5:5 7:5", 6, 5, "p1:5 p2:5 p3:5 p4:5|5:5 6:5 7:5"},
		// All Slots are active or both.
		{"a0:15 b1:15 a2:15 b3:15|", 4, 0, "a0:15 b1:15 a2:15 b3:15|4:0"},
		{"a0:15 b1:15 a2:15 b3:15|6:7", 4, 0, "a0:15 b1:15 a2:15 b3:15|4:0 6:7"},
		{"a0:15 b1:15 a2:15 b3:15|6:7", 4, 7, "a0:15 b1:15 a2:15 b3:15|4:7 6:7"},
		{"a0:15 b1:15 a2:15 b3:15|5:0 6:7", 4, 1, "a0:15 b1:15 a2:15 b3:15|5:0 4:1 6:7"},
		{"a0:15 b1:15 a2:15 b3:15|6:7", 4, 8, "a0:15 b1:15 a2:15 b3:15|6:7 4:8"},
		{"a0:15 b1:15 a2:15 b3:15|4:0 5:0 6:0", 7, 0, "a0:15 b1:15 a2:15 b3:15|4:0 5:0 6:0 7:0"},
	} {
		got, ok := impl.OfferIrq(queueFrom(c.text), c.irq, c.priority)
		wantQueue(t, got, ok, queueFrom(c.want), "OfferIrq", c.text, c.irq, c.priority)
	}
}

func TestTakeQueue(t *testing.T) {
	for _, c := range []struct {
		text  string
		limit int
		irq   int
		want  string // empty if it fails
	}{
		{"- - - -|", 0, 0, ""},
		{"- - - -|", 16, 0, ""},
		{"p0:0 - - -|", 0, 0, ""},
		{"p0:0 - - -|", 1, 0, "a0:0 - - -|"},
		{"- - - p7:15|", 15, 0, ""},
		{"- - - p7:15|", 16, 7, "- - - a7:15|"},
		{"- - - p7:15|", 17, 0, ""},
		{"- - - p7:15|", -1, 0, ""},
		// The limit is just the Priority of the most urgent one, and one more and less.
		{"p3:5 p1:2 p6:5 p2:4|0:6 4:6", 0, 0, ""},
		{"p3:5 p1:2 p6:5 p2:4|0:6 4:6", 1, 0, ""},
		{"p3:5 p1:2 p6:5 p2:4|0:6 4:6", 2, 0, ""},
		{"p3:5 p1:2 p6:5 p2:4|0:6 4:6", 3, 1, "p3:5 a1:2 p6:5 p2:4|0:6 4:6"},
		{"p3:5 p1:2 p6:5 p2:4|0:6 4:6", 16, 1, "p3:5 a1:2 p6:5 p2:4|0:6 4:6"},
		{"p3:5 p1:2 p6:5 p2:4|0:6 4:6", 17, 0, ""},
		{"p3:5 p1:2 p6:5 p2:4|0:6 4:6", -1, 0, ""},
		// Equal Priorities: the smaller number.
		{"p3:5 p6:5 p1:5 p4:5|7:5", 16, 1, "p3:5 p6:5 a1:5 p4:5|7:5"},
		{"p3:5 p6:5 a1:5 p4:5|7:5", 6, 3, "a3:5 p6:5 a1:5 p4:5|7:5"},
		// All Slots but one, and then all, are active or both, and what waits has to wait.
		{"a3:15 b6:15 p1:5 a4:15|7:5", 16, 1, "a3:15 b6:15 a1:5 a4:15|7:5"},
		{"a3:15 b6:15 a1:5 a4:15|7:5", 16, 0, ""},
		{"a3:15 b6:15 a1:15 b4:15|0:0 7:5", 16, 0, ""},
		{"b3:0 b6:0 b1:0 b4:0|", 16, 0, ""},
	} {
		got, irq, ok := impl.TakeQueue(queueFrom(c.text), c.limit)
		wantQueue(t, got, ok, queueFrom(c.want), "TakeQueue", c.text, c.limit)
		if irq != c.irq {
			t.Errorf("TakeQueue(%q, %d) gives %d, want %d", c.text, c.limit, irq, c.irq)
		}
	}
}

func TestEndQueue(t *testing.T) {
	for _, c := range []struct {
		text string
		irq  int
		want string // empty if it fails
	}{
		{"- - - -|", 0, ""},
		{"a0:0 - - -|", 0, "- - - -|"},
		{"- - - b7:15|", 7, "- - - p7:15|"},
		{"- - - p7:15|", 7, ""},
		{"- - - p7:15|", 0, ""},
		// What waits first comes into the Slot that is empty.
		{"a1:2 p2:3 a3:4 b4:5|5:6 6:6", 1, "p5:6 p2:3 a3:4 b4:5|6:6"},
		{"a1:2 p2:3 a3:4 b4:5|5:6 6:6", 3, "a1:2 p2:3 p5:6 b4:5|6:6"},
		{"a1:2 p2:3 a3:4 b4:5|5:6", 3, "a1:2 p2:3 p5:6 b4:5|"},
		{"a1:15 b2:15 a3:15 a4:15|0:0 5:0 6:0 7:0", 4, "a1:15 b2:15 a3:15 p0:0|5:0 6:0 7:0"},
		// One that was both remains in its Slot if it is more urgent than what waits.
		{"a1:2 p2:3 a3:4 b4:5|5:6 6:6", 4, "a1:2 p2:3 a3:4 p4:5|5:6 6:6"},
		{"a1:2 a2:3 a3:4 b4:6|5:6 6:6", 4, "a1:2 a2:3 a3:4 p4:6|5:6 6:6"},
		// Otherwise it is evicted, to the front, into the middle and to the end of what waits.
		{"b4:5 a1:0 a2:0 a3:0|5:3 6:9 7:12", 4, "p5:3 a1:0 a2:0 a3:0|4:5 6:9 7:12"},
		{"b4:10 a1:0 a2:0 a3:0|5:3 6:9 7:12", 4, "p5:3 a1:0 a2:0 a3:0|6:9 4:10 7:12"},
		{"b4:15 a1:0 a2:0 a3:0|5:3 6:9 7:12", 4, "p5:3 a1:0 a2:0 a3:0|6:9 7:12 4:15"},
		{"a1:0 p2:1 a3:0 b4:15|5:3", 4, "a1:0 p2:1 a3:0 p5:3|4:15"},
		{"a1:0 b5:9 a3:0 p2:1|4:9", 5, "a1:0 p4:9 a3:0 p2:1|5:9"},
		{"a1:0 b4:9 a3:0 p2:1|5:9", 4, "a1:0 p4:9 a3:0 p2:1|5:9"},
		// It fails if the interrupt is pending alone, waits or is nowhere.
		{"a1:2 p2:3 a3:4 b4:5|5:6 6:6", 2, ""},
		{"a1:2 p2:3 a3:4 b4:5|5:6 6:6", 5, ""},
		{"a1:2 p2:3 a3:4 b4:5|5:6 6:6", 6, ""},
		{"a1:2 p2:3 a3:4 b4:5|5:6 6:6", 0, ""},
		{"a1:2 p2:3 a3:4 b4:5|5:6 6:6", 7, ""},
	} {
		got, ok := impl.EndQueue(queueFrom(c.text), c.irq)
		wantQueue(t, got, ok, queueFrom(c.want), "EndQueue", c.text, c.irq)
	}
}

func TestWithdrawIrq(t *testing.T) {
	for _, c := range []struct {
		text string
		irq  int
		want string // empty if it fails
	}{
		// Nowhere; an empty Slot has no interrupt 0.
		{"- - - -|", 0, ""},
		{"- - - -|", 7, ""},
		{"p1:2 p2:3 a3:4 b4:5|5:6", 0, ""},
		{"p1:2 p2:3 a3:4 b4:5|5:6", 7, ""},
		// A SlotPending becomes empty, and what waits first comes into it.
		{"p0:0 - - -|", 0, "- - - -|"},
		{"- - - p7:15|", 7, "- - - -|"},
		{"a1:1 p2:3 - b4:5|", 2, "a1:1 - - b4:5|"},
		{"p1:2 p2:3 p3:4 p4:5|", 2, "p1:2 - p3:4 p4:5|"},
		{"p1:2 p2:3 p3:4 p4:5|5:6", 1, "p5:6 p2:3 p3:4 p4:5|"},
		{"p1:2 p2:3 p3:4 p4:5|5:6 0:7 7:7", 4, "p1:2 p2:3 p3:4 p5:6|0:7 7:7"},
		{"a1:2 p2:3 a3:4 b4:5|5:6 0:7 7:7", 2, "a1:2 p5:6 a3:4 b4:5|0:7 7:7"},
		// A SlotBoth becomes active, whatever waits.
		{"- - b7:15 -|", 7, "- - a7:15 -|"},
		{"p1:2 p2:3 a3:4 b4:5|5:6", 4, "p1:2 p2:3 a3:4 a4:5|5:6"},
		{"b1:12 a2:13 a3:14 a4:15|5:6", 1, "a1:12 a2:13 a3:14 a4:15|5:6"},
		// One that waits is removed: the first, one in the middle, the last, the only one.
		{"p1:2 p2:3 p3:4 p4:5|5:6 0:7 7:7", 5, "p1:2 p2:3 p3:4 p4:5|0:7 7:7"},
		{"p1:2 p2:3 p3:4 p4:5|5:6 0:7 7:7", 0, "p1:2 p2:3 p3:4 p4:5|5:6 7:7"},
		{"p1:2 p2:3 p3:4 p4:5|5:6 0:7 7:7", 7, "p1:2 p2:3 p3:4 p4:5|5:6 0:7"},
		{"a1:2 a2:3 b3:4 a4:5|0:0", 0, "a1:2 a2:3 b3:4 a4:5|"},
		// Active alone.
		{"a0:0 - - -|", 0, ""},
		{"p1:2 p2:3 a3:4 b4:5|5:6", 3, ""},
	} {
		got, ok := impl.WithdrawIrq(queueFrom(c.text), c.irq)
		wantQueue(t, got, ok, queueFrom(c.want), "WithdrawIrq", c.text, c.irq)
	}
}

func TestPendingIrqsAndServeQueue(t *testing.T) {
	for _, c := range []struct {
		text            string
		pending, served []int
	}{
		{"- - - -|", nil, nil},
		{"p0:0 - - -|", []int{0}, []int{0}},
		{"- - - p7:15|", []int{7}, []int{7}},
		{"a0:0 - - a7:15|", nil, nil},
		{"b0:0 - - p7:15|", []int{0, 7}, []int{7}},
		{"p0:9 p7:8 - -|", []int{7, 0}, []int{7, 0}},
		{"p0:10 p7:9 p5:2 -|", []int{5, 7, 0}, []int{5, 7, 0}},
		{"p3:5 p1:5 p6:5 p2:5|", []int{1, 2, 3, 6}, []int{1, 2, 3, 6}},
		{"p4:3 p5:2 p2:5 p3:4|1:6 0:7", []int{5, 4, 3, 2, 1, 0}, []int{5, 4, 3, 2, 1, 0}},
		{"p3:0 p2:0 p1:0 p0:0|4:0 5:0 6:0 7:0", []int{0, 1, 2, 3, 4, 5, 6, 7}, []int{0, 1, 2, 3, 4, 5, 6, 7}},
		{"p4:3 p5:3 p6:3 p7:3|3:4 2:5 1:6 0:15", []int{4, 5, 6, 7, 3, 2, 1, 0}, []int{4, 5, 6, 7, 3, 2, 1, 0}},
		// What is both is pending, but not taken again before it ends, and a single Slot is enough for all others.
		{"b4:3 b5:15 b6:0 p7:1|3:4 2:5 1:6 0:15", []int{6, 7, 4, 3, 2, 1, 0, 5}, []int{7, 3, 2, 1, 0}},
		{"b4:3 a5:15 a6:0 p7:1|3:4 0:5 2:5", []int{7, 4, 3, 0, 2}, []int{7, 3, 0, 2}},
		// No Slot for what waits.
		{"a4:3 a5:15 a6:0 a7:1|3:4 0:5 2:5", []int{3, 0, 2}, nil},
		{"b4:3 b5:15 b6:0 b7:1|3:4 0:5 2:5", []int{6, 7, 4, 3, 0, 2, 5}, nil},
	} {
		q := queueFrom(c.text)
		got, ok := impl.PendingIrqs(q)
		wantInterrupts(t, "PendingIrqs of "+c.text, got, ok, c.pending)
		got, ok = impl.ServeQueue(q)
		wantInterrupts(t, "ServeQueue of "+c.text, got, ok, c.served)
	}
}

// wantQueueCalls makes every call that changes a Queue, which must do what the model does, so that all else is as before.
func wantQueueCalls(t *testing.T, q impl.Queue, priorities []int, limits []int) {
	start := queueModelOf(q)
	compare := func(got impl.Queue, ok bool, m queueModel, done bool, call string, args ...any) {
		var want impl.Queue
		if done {
			want = m.queue()
		}
		wantQueue(t, got, ok, want, call, args...)
	}
	for irq := range 8 {
		for _, priority := range priorities {
			m := start
			m.offer(irq, priority)
			got, ok := impl.OfferIrq(q, irq, priority)
			compare(got, ok, m, true, "OfferIrq", q, irq, priority)
		}
		m := start
		done := m.end(irq)
		got, ok := impl.EndQueue(q, irq)
		compare(got, ok, m, done, "EndQueue", q, irq)
		m = start
		done = m.withdraw(irq)
		got, ok = impl.WithdrawIrq(q, irq)
		compare(got, ok, m, done, "WithdrawIrq", q, irq)
	}
	for _, limit := range limits {
		m := start
		want, done := m.take(limit)
		got, irq, ok := impl.TakeQueue(q, limit)
		compare(got, ok, m, done, "TakeQueue", q, limit)
		if irq != want {
			t.Fatalf("TakeQueue(%v, %d) gives %d, want %d", q, limit, irq, want)
		}
	}
}

// wantServed compares what is pending, and what is served, with all that is pending in the order of its urgency: one Slot that is neither active nor both is enough to serve what is not active.
func wantServed(t *testing.T, q impl.Queue) {
	m := queueModelOf(q)
	pending := m.urgentOnes(func(irq int) bool { return m.pending[irq] })
	if got, ok := impl.PendingIrqs(q); !ok || !slices.Equal(got, pending) {
		t.Fatalf("PendingIrqs(%v) = %v, %v, want %v", q, got, ok, pending)
	}
	var served []int
	if len(m.activeOnes()) < impl.SlotCount {
		served = m.urgentOnes(func(irq int) bool { return m.pending[irq] && !m.active[irq] })
	}
	if got, ok := impl.ServeQueue(q); !ok || !slices.Equal(got, served) {
		t.Fatalf("ServeQueue(%v) = %v, %v, want %v", q, got, ok, served)
	}
}

func TestCallsOfManyQueues(t *testing.T) {
	for i, q := range manyQueues() {
		wantServed(t, q)
		if i%4 == i/4%4 {
			wantQueueCalls(t, q, []int{0, 7, 15, i % 16}, []int{0, 1, i % 17, 16})
		}
	}
}

func TestTakeQueueWithEachLimit(t *testing.T) {
	for i, q := range manyQueues() {
		if i%8 != 0 {
			continue
		}
		for limit := range 17 {
			m := queueModelOf(q)
			want, done := m.take(limit)
			got, irq, ok := impl.TakeQueue(q, limit)
			if ok != done || irq != want || done && !sameQueue(got, m.queue()) || !done && !isNoQueue(got) {
				t.Fatalf("TakeQueue(%v, %d) = %v, %d, %v", q, limit, got, irq, ok)
			}
		}
	}
}

func TestServeQueueIsItsSteps(t *testing.T) {
	for i, q := range manyQueues() {
		if i%4 != 0 {
			continue
		}
		var steps []int
		for next := q; ; {
			taken, irq, ok := impl.TakeQueue(next, 16)
			if !ok {
				break
			}
			if next, ok = impl.EndQueue(taken, irq); !ok {
				t.Fatalf("%v: %d was taken, but cannot be ended", taken, irq)
			}
			steps = append(steps, irq)
		}
		if got, ok := impl.ServeQueue(q); !ok || !slices.Equal(got, steps) {
			t.Fatalf("ServeQueue(%v) = %v, %v, want %v", q, got, ok, steps)
		}
	}
}

// All Queues that five interrupts can reach from the empty one, one more than there are Slots, with two equal priorities and others.
func TestAllReachableQueues(t *testing.T) {
	priorities := [8]int{4, 0, 4, 15, 4}
	reached := map[queueModel]bool{}
	work := []impl.Queue{queueFrom("- - - -|")}
	for len(work) > 0 {
		q := work[len(work)-1]
		work = work[:len(work)-1]
		wantServed(t, q)
		for irq := range 5 {
			var after []impl.Queue
			if next, ok := impl.OfferIrq(q, irq, priorities[irq]); ok {
				after = append(after, next)
			}
			if next, ok := impl.EndQueue(q, irq); ok {
				after = append(after, next)
			}
			if next, ok := impl.WithdrawIrq(q, irq); ok {
				after = append(after, next)
			}
			if next, _, ok := impl.TakeQueue(q, priorities[irq]+1); ok {
				after = append(after, next)
			}
			for _, next := range after {
				if m := queueModelOf(next); !reached[m] {
					reached[m] = true
					work = append(work, next)
				}
			}
		}
		wantQueueCalls(t, q, []int{3, 4}, []int{0, 4, 5, 16})
	}
	if len(reached) < 10000 {
		t.Errorf("only %d Queues were reached", len(reached))
	}
}

// queueRun follows a Queue and, by what was done alone, which interrupts must be pending and active and with which priorities.
type queueRun struct {
	queue           impl.Queue
	pending, active [8]bool
	priority        [8]int
}

func (r *queueRun) activeCount() int {
	count := 0
	for _, active := range r.active {
		if active {
			count++
		}
	}
	return count
}

// toServe returns the interrupts that are pending and not active, the most urgent one first.
func (r *queueRun) toServe() []int {
	var irqs []int
	for irq := range 8 {
		if r.pending[irq] && !r.active[irq] {
			irqs = append(irqs, irq)
		}
	}
	slices.SortStableFunc(irqs, func(a, b int) int { return r.priority[a] - r.priority[b] })
	return irqs
}

func (r *queueRun) offer(t *testing.T, irq int, priority int) {
	next, ok := impl.OfferIrq(r.queue, irq, priority)
	if !ok {
		t.Fatalf("OfferIrq(%v, %d, %d) failed", r.queue, irq, priority)
	}
	if !r.pending[irq] && !r.active[irq] {
		r.priority[irq] = priority
	}
	r.pending[irq] = true
	r.queue = next
}

// take wants the most urgent interrupt of all, if there is a Slot for it.
func (r *queueRun) take(t *testing.T, limit int) {
	next, irq, ok := impl.TakeQueue(r.queue, limit)
	irqs := r.toServe()
	if len(irqs) == 0 || r.activeCount() == impl.SlotCount || r.priority[irqs[0]] >= limit {
		wantQueue(t, next, ok, impl.Queue{}, "TakeQueue", r.queue, limit)
		return
	}
	if !ok || irq != irqs[0] {
		t.Fatalf("TakeQueue(%v, %d) gives %d, %v instead of %d", r.queue, limit, irq, ok, irqs[0])
	}
	r.pending[irq], r.active[irq] = false, true
	r.queue = next
}

func (r *queueRun) end(t *testing.T, irq int) {
	next, ok := impl.EndQueue(r.queue, irq)
	if ok != r.active[irq] || !ok && !isNoQueue(next) {
		t.Fatalf("EndQueue(%v, %d) = %v, %v", r.queue, irq, next, ok)
	}
	if ok {
		r.active[irq] = false
		r.queue = next
	}
}

func (r *queueRun) withdraw(t *testing.T, irq int) {
	next, ok := impl.WithdrawIrq(r.queue, irq)
	if ok != r.pending[irq] || !ok && !isNoQueue(next) {
		t.Fatalf("WithdrawIrq(%v, %d) = %v, %v", r.queue, irq, next, ok)
	}
	if ok {
		r.pending[irq] = false
		r.queue = next
	}
}

// wantAllThere wants each interrupt that is pending or active to be so in one place, and no other one to be anywhere.
func (r *queueRun) wantAllThere(t *testing.T) {
	var count [8]int
	var pending, active [8]bool
	add := func(irq, priority int, isPending, isActive bool) {
		count[irq]++
		pending[irq], active[irq] = isPending, isActive
		if priority != r.priority[irq] {
			t.Fatalf("%v: the priority of %d is not %d", r.queue, irq, r.priority[irq])
		}
	}
	for _, x := range r.queue.Slots {
		if x.State != impl.SlotEmpty {
			add(x.Irq, x.Priority, x.State != impl.SlotActive, x.State != impl.SlotPending)
		}
	}
	for _, x := range r.queue.Waiting {
		add(x.Irq, x.Priority, true, false)
	}
	for irq, n := range count {
		if n > 1 || (n == 1) != (r.pending[irq] || r.active[irq]) {
			t.Fatalf("%v: the interrupt %d is there %d times", r.queue, irq, n)
		}
	}
	if pending != r.pending || active != r.active || !impl.IsQueue(r.queue) {
		t.Fatalf("%v: pending must be %v and active %v", r.queue, r.pending, r.active)
	}
}

func TestServedByUrgencyOverLongSequences(t *testing.T) {
	mostWaiting := 0
	for seed := range 150 {
		next := numbers(900 + seed)
		r := queueRun{queue: queueFrom("- - - -|")}
		// Some sequences have few priorities, so that many are equal, and some offer more than others.
		span, offers := 1+seed%16, 2+seed%5
		for range 300 {
			irq, call := next(8), next(offers+5)
			switch {
			case call < offers:
				r.offer(t, irq, next(span))
			case call == offers:
				r.take(t, next(17))
			case call == offers+1:
				r.take(t, 16)
			case call == offers+2:
				r.end(t, next(8))
			case call == offers+3:
				for irq := range 8 {
					if r.active[irq] && next(2) == 0 {
						r.end(t, irq)
					}
				}
			default:
				r.withdraw(t, irq)
			}
			r.wantAllThere(t)
			wantServed(t, r.queue)
			mostWaiting = max(mostWaiting, len(r.queue.Waiting))
		}
	}
	if mostWaiting < 4 {
		t.Errorf("at most %d interrupts waited", mostWaiting)
	}
}

// All eight interrupts are offered in many orders and then served, while one after the other is offered again and waits for its turn.
func TestMorePendingThanSlotsAreServed(t *testing.T) {
	for seed := range 300 {
		next := numbers(9000 + seed)
		r := queueRun{queue: queueFrom("- - - -|")}
		for _, irq := range []int{seed % 8, 3, 5, 0, 7, 2, 6, 1, 4} {
			r.offer(t, irq, next(1+seed%16))
			r.wantAllThere(t)
		}
		for again := 0; len(r.toServe()) > 0; again++ {
			irq := r.toServe()[0]
			r.take(t, 16)
			if again < 6 {
				r.offer(t, irq, next(16))
				r.offer(t, next(8), next(16))
			}
			r.wantAllThere(t)
			wantServed(t, r.queue)
			r.end(t, irq)
			r.wantAllThere(t)
		}
		wantQueue(t, r.queue, true, queueFrom("- - - -|"), "served")
	}
}

// otherWaiters are no interrupts with a priority.
func otherWaiters() []impl.Waiter {
	var all []impl.Waiter
	for _, irq := range otherIrqs() {
		all = append(all, impl.Waiter{Irq: irq, Priority: 6}, impl.Waiter{Irq: irq})
	}
	for _, priority := range otherPriorities() {
		all = append(all, impl.Waiter{Irq: 6, Priority: priority}, impl.Waiter{Irq: 0, Priority: priority})
	}
	return all
}

// invalidParts are neither valid nor as described apart from being settled.
func invalidParts() []impl.Queue {
	var parts []impl.Queue
	for _, slots := range invalidSlots() {
		parts = append(parts, impl.Queue{Slots: slots}, impl.Queue{Slots: slots, Waiting: waitersFrom("6:9 7:9")})
	}
	add := func(waiting []impl.Waiter) {
		for _, text := range []string{"a1:0 a2:3 b3:15 p4:0", "a1:15 a2:15 b3:15 b4:15", "- p3:7 - a1:2", "- - - -"} {
			parts = append(parts, impl.Queue{Slots: slotsFrom(text), Waiting: waiting})
		}
	}
	whole := waitersFrom("0:0 5:6 7:9")
	for i := range len(whole) + 1 {
		for _, x := range otherWaiters() {
			add(slices.Insert(slices.Clone(whole), i, x))
			add(append(slices.Clone(whole[:i]), x))
			add(append([]impl.Waiter{x}, whole[i:]...))
		}
		// In a Slot, or twice in Waiting.
		for priority := range 16 {
			twice := impl.Waiter{Irq: whole[i%3].Irq, Priority: priority}
			add(slices.Insert(slices.Clone(whole), i, twice))
			for irq := range 4 {
				x := impl.Waiter{Irq: 1 + irq, Priority: priority}
				list := slices.Insert(slices.Clone(whole), i, x)
				parts = append(parts, impl.Queue{Slots: slotsFrom("a1:0 a2:3 b3:15 p4:0"), Waiting: list})
				parts = append(parts, impl.Queue{Slots: slotsFrom("p4:15 b3:0 a2:0 a1:0"), Waiting: list})
			}
		}
	}
	for _, order := range arrangements() {
		if !slices.IsSorted(order) {
			sorted, equal := waitersFrom("0:0 5:6 6:6 7:9"), waitersFrom("0:3 5:3 6:3 7:3")
			for i, j := range order {
				sorted[i], equal[i] = waitersFrom("0:0 5:6 6:6 7:9")[j], waitersFrom("0:3 5:3 6:3 7:3")[j]
			}
			add(sorted)
			add(equal)
		}
	}
	add(waitersFrom("0:0 1:1 2:2 3:3 4:4 5:5 6:6 7:7 8:8"))
	add(waitersFrom("0:0 1:1 2:2 3:3 4:4 5:5 6:6 7:7 0:8"))
	add(make([]impl.Waiter, 1<<20))
	return parts
}

// wantQueueFailures makes all calls that have a Queue, which must give zero values and false.
func wantQueueFailures(t *testing.T, q impl.Queue) {
	if impl.IsQueue(q) {
		t.Fatalf("%v is a Queue", fewOf(q))
	}
	for irq := range 8 {
		wantIrqOfQueueFails(t, q, irq)
	}
	for _, limit := range []int{0, 1, 7, 15, 16, 17, -1} {
		got, irq, ok := impl.TakeQueue(q, limit)
		if ok || irq != 0 || !isNoQueue(got) {
			t.Fatalf("TakeQueue(%v, %d) = %v, %d, %v", fewOf(q), limit, got, irq, ok)
		}
	}
	if irqs, ok := impl.PendingIrqs(q); ok || len(irqs) != 0 {
		t.Fatalf("PendingIrqs(%v) = %v, %v", fewOf(q), irqs, ok)
	}
	if irqs, ok := impl.ServeQueue(q); ok || len(irqs) != 0 {
		t.Fatalf("ServeQueue(%v) = %v, %v", fewOf(q), irqs, ok)
	}
}

// wantIrqOfQueueFails makes all calls that have an interrupt of a Queue.
func wantIrqOfQueueFails(t *testing.T, q impl.Queue, irq int) {
	for _, priority := range []int{0, 7, 15} {
		got, ok := impl.OfferIrq(q, irq, priority)
		wantQueue(t, got, ok, impl.Queue{}, "OfferIrq", fewOf(q), irq, priority)
	}
	got, ok := impl.EndQueue(q, irq)
	wantQueue(t, got, ok, impl.Queue{}, "EndQueue", fewOf(q), irq)
	got, ok = impl.WithdrawIrq(q, irq)
	wantQueue(t, got, ok, impl.Queue{}, "WithdrawIrq", fewOf(q), irq)
}

func TestInvalidQueuesAreRefused(t *testing.T) {
	for _, q := range invalidParts() {
		wantQueueFailures(t, q)
		got, ok := impl.SettleQueue(q.Slots, q.Waiting)
		wantQueue(t, got, ok, impl.Queue{}, "SettleQueue", fewOf(q))
	}
}

// Only SettleQueue accepts what is not settled.
func TestQueuesThatAreNotSettledAreRefused(t *testing.T) {
	for i, q := range manyParts() {
		if m := queueModelOf(q); i%2 == 0 || m.isSettled() {
			continue
		}
		wantQueueFailures(t, q)
	}
}

func TestOtherInterruptsPrioritiesAndLimitsOfQueuesAreRefused(t *testing.T) {
	for _, text := range []string{
		"- - - -|", "p0:0 - - -|", "b0:0 a7:15 - -|", "b0:0 b1:1 b2:2 b7:7|", "p0:0 p1:1 p2:2 p7:3|3:4 4:4 5:4 6:4", "a0:9 b1:9 p2:0 a3:9|7:5",
	} {
		q := queueFrom(text)
		for _, irq := range otherIrqs() {
			wantIrqOfQueueFails(t, q, irq)
		}
		// A priority must be one also where it would not be used.
		for irq := range 8 {
			for _, priority := range otherPriorities() {
				got, ok := impl.OfferIrq(q, irq, priority)
				wantQueue(t, got, ok, impl.Queue{}, "OfferIrq", text, irq, priority)
			}
		}
		for _, limit := range farCounts {
			got, irq, ok := impl.TakeQueue(q, limit)
			wantQueue(t, got, ok, impl.Queue{}, "TakeQueue", text, limit)
			if irq != 0 {
				t.Errorf("TakeQueue(%q, %d) gives %d", text, limit, irq)
			}
		}
	}
}

// callQueue makes every call with a Queue or its parts and returns their results as a text.
func callQueue(q impl.Queue, irq int, n int) string {
	all := []any{impl.IsQueue(q)}
	add := func(values ...any) { all = append(all, values...) }
	offered, ok := impl.OfferIrq(q, irq, n)
	add(offered, ok)
	taken, first, ok := impl.TakeQueue(q, n+1)
	add(taken, first, ok)
	ended, ok := impl.EndQueue(q, irq)
	add(ended, ok)
	withdrawn, ok := impl.WithdrawIrq(q, irq)
	add(withdrawn, ok)
	pending, ok := impl.PendingIrqs(q)
	add(pending, ok)
	settled, ok := impl.SettleQueue(q.Slots, q.Waiting)
	add(settled, ok)
	served, ok := impl.ServeQueue(q)
	add(served, ok)
	return fmt.Sprint(all...)
}

var oddSlot = impl.Slot{State: 9, Irq: -5, Priority: 99}
var oddWaiter = impl.Waiter{Irq: -5, Priority: 99}

// inLongerQueue returns lists with odd elements at both ends, and the Queue that lies between these.
func inLongerQueue(q impl.Queue) (whole, part impl.Queue) {
	whole.Slots = slices.Concat([]impl.Slot{oddSlot, oddSlot}, q.Slots, []impl.Slot{oddSlot, oddSlot, oddSlot})
	whole.Waiting = slices.Concat([]impl.Waiter{oddWaiter}, q.Waiting, slices.Repeat([]impl.Waiter{oddWaiter}, 9))
	part = impl.Queue{Slots: whole.Slots[2 : 2+len(q.Slots)], Waiting: whole.Waiting[1 : 1+len(q.Waiting)]}
	return whole, part
}

// The lists lie within longer ones, whose other elements must be neither read nor written: there is room for more behind Waiting, but it is not the Queue's.
func TestQueueArgumentsAreNotChanged(t *testing.T) {
	all := slices.Concat(manyQueues()[:8000], manyParts()[:8000])
	for _, q := range invalidParts() {
		if len(q.Slots) < 20 && len(q.Waiting) < 20 {
			all = append(all, q)
		}
	}
	for i, q := range all {
		whole, part := inLongerQueue(q)
		before, _ := inLongerQueue(q)
		alone := impl.Queue{Slots: slices.Clone(q.Slots), Waiting: slices.Clone(q.Waiting)}
		if got, want := callQueue(part, i%8, i%16), callQueue(alone, i%8, i%16); got != want {
			t.Fatalf("%v in longer lists: %s instead of %s", q, got, want)
		}
		if !sameQueue(whole, before) {
			t.Fatalf("%v became %v", before, whole)
		}
	}
}

// allResults returns what all calls return that succeed, twice.
func allResults(q impl.Queue, priority int) (queues []impl.Queue, irqs [][]int) {
	for range 2 {
		for irq := range 8 {
			if next, ok := impl.OfferIrq(q, irq, priority); ok {
				queues = append(queues, next)
			}
			if next, ok := impl.EndQueue(q, irq); ok {
				queues = append(queues, next)
			}
			if next, ok := impl.WithdrawIrq(q, irq); ok {
				queues = append(queues, next)
			}
		}
		if next, _, ok := impl.TakeQueue(q, 16); ok {
			queues = append(queues, next)
		}
		if next, ok := impl.SettleQueue(q.Slots, q.Waiting); ok {
			queues = append(queues, next)
		}
		pending, _ := impl.PendingIrqs(q)
		served, _ := impl.ServeQueue(q)
		irqs = append(irqs, pending, served)
	}
	return queues, irqs
}

// The argument has room for more, and so may a result that is an argument in turn.
func TestQueueResultsAreNotShared(t *testing.T) {
	notSettled := []string{"- - - -|0:0", "p4:9 p5:9 p6:9 p7:9|0:0 1:1 2:2 3:3", "p7:9 - a6:1 -|1:2 2:3 3:4"}
	wantApart := func(q impl.Queue, priority int) []impl.Queue {
		queues, irqs := allResults(q, priority)
		slots, waiting := [][]impl.Slot{q.Slots}, [][]impl.Waiter{q.Waiting}
		for _, next := range queues {
			slots, waiting = append(slots, next.Slots), append(waiting, next.Waiting)
		}
		wantNotShared(t, "Slots", slots, oddSlot)
		wantNotShared(t, "Waiting", waiting, oddWaiter)
		wantNotShared(t, "interrupts", irqs, -5)
		return queues
	}
	all := manyQueues()
	for i := range 300 {
		_, q := inLongerQueue(all[i*101%len(all)])
		queues := wantApart(q, i%16)
		wantApart(queues[i%len(queues)], i/16%16)
		_, parts := inLongerQueue(queueFrom(notSettled[i%3]))
		wantApart(parts, i%16)
	}
}

// Interrupts that are offered to the same Queue are each in one result alone.
func TestOffersToOneQueue(t *testing.T) {
	_, q := inLongerQueue(queueFrom("p0:0 a1:1 b2:2 p3:3|4:4"))
	for range 3 {
		texts := map[int]string{5: "4:4 5:9", 6: "4:4 6:9", 7: "4:4 7:9"}
		results := map[int]impl.Queue{}
		for irq := 5; irq < 8; irq++ {
			next, ok := impl.OfferIrq(q, irq, 9)
			if !ok {
				t.Fatalf("OfferIrq(%v, %d, 9) failed", q, irq)
			}
			results[irq] = next
		}
		for irq, text := range texts {
			want := queueFrom("p0:0 a1:1 b2:2 p3:3|" + text)
			wantQueue(t, results[irq], true, want, "OfferIrq", irq)
		}
		// The next round starts with a Queue that was a result.
		next, ok := impl.WithdrawIrq(results[6], 6)
		wantQueue(t, next, ok, queueFrom("p0:0 a1:1 b2:2 p3:3|4:4"), "WithdrawIrq", 6)
		wantQueue(t, results[6], true, queueFrom("p0:0 a1:1 b2:2 p3:3|4:4 6:9"), "the argument", 6)
		q = next
	}
}

// What was returned before changes nothing of what is returned later.
func TestQueueCallsKeepNothing(t *testing.T) {
	q := queueFrom("p3:5 b1:2 p6:5 a0:0|7:5 2:6 5:6")
	want := callQueue(q, 1, 7)
	others := manyParts()
	for i := range 400 {
		queues, irqs := allResults(q, i%16)
		for _, next := range queues {
			clear(next.Slots)
			clear(next.Waiting)
		}
		for _, list := range irqs {
			clear(list)
		}
		callQueue(others[i*53%len(others)], i%8, i%16)
		callQueue(impl.Queue{}, -1, 17)
		if got := callQueue(q, 1, 7); got != want {
			t.Fatalf("the calls gave %s and now %s", want, got)
		}
	}
}
