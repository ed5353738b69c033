package tests

import (
	"fmt"
	"math"
	"math/bits"
	"slices"
	"testing"

	"loop.example/g00843/impl"
)

// trapForms has for each Cause its name, the greatest Info, whether Store may be true, the widths and the greatest Register.
var trapForms = []struct {
	cause    int
	name     string
	info     int
	stores   bool
	widths   []int
	register int
}{
	{1, "fault", 15, true, []int{0}, 0},
	{2, "call", 255, false, []int{0}, 0},
	{3, "device", 65535, true, []int{1, 2, 4}, 3},
	{4, "wait", 0, false, []int{0}, 0},
	{5, "bad", 0, false, []int{0}, 0},
}

// isTrap tells by the forms whether a Trap is valid.
func isTrap(x impl.Trap) bool {
	for _, f := range trapForms {
		if f.cause == x.Cause {
			inRange := x.Info >= 0 && x.Info <= f.info && x.Register >= 0 && x.Register <= f.register
			fits := slices.Contains(f.widths, x.Width) && (x.Width == 0 || x.Info/x.Width*x.Width == x.Info)
			return inRange && fits && (f.stores || !x.Store)
		}
	}
	return false
}

// everyTrap calls f with all valid Traps.
func everyTrap(f func(x impl.Trap)) {
	for _, form := range trapForms {
		for _, width := range form.widths {
			for info := 0; info <= form.info; info += max(width, 1) {
				for register := 0; register <= form.register; register++ {
					x := impl.Trap{Cause: form.cause, Width: width, Register: register, Info: info}
					f(x)
					if form.stores {
						x.Store = true
						f(x)
					}
				}
			}
		}
	}
}

// someTraps returns valid Traps of each Cause, those with the least and the greatest fields among them.
func someTraps() []impl.Trap {
	var list []impl.Trap
	everyTrap(func(x impl.Trap) {
		if x.Cause != impl.TrapDevice || slices.Contains([]int{0, 1, 2, 3, 4, 32768, 65532, 65534, 65535}, x.Info) {
			list = append(list, x)
		}
	})
	return list
}

// syndromeOf adds up what the document says, without bits.
func syndromeOf(x impl.Trap) int {
	n := x.Cause*16777216 + x.Width*1048576 + x.Register*65536 + x.Info
	if x.Store {
		n += 8388608
	}
	return n
}

// farFields are far from every range that chapter 5 names; some have the lowest bits of a number that is in it.
var farFields = []int{-2, -4, -65535, -65536, 1 << 17, 1<<17 + 1, 1<<20 + 2, 1<<24 + 4, 1 << 31, 1 << 32, 1<<32 + 1, 1<<32 + 3, math.MaxInt, math.MaxInt - 3, math.MinInt, math.MinInt + 1}

// boundsOf are the numbers around the ends of a range from 0 on, and far ones.
func boundsOf(most int) []int {
	return append([]int{-1, 0, 1, 2, 3, 4, 5, 6, 7, 8, most - 1, most, most + 1}, farFields...)
}

// invalidTraps has one fault or more in each of them.
func invalidTraps() []impl.Trap {
	list := []impl.Trap{{}, {Store: true}, {Width: 1}, {Info: 1}, {Register: 1}}
	for _, f := range trapForms {
		for _, width := range f.widths {
			x := impl.Trap{Cause: f.cause, Width: width, Register: f.register, Info: f.info / max(width, 1) * max(width, 1)}
			for _, far := range append([]int{-1}, farFields...) {
				list = append(list, impl.Trap{Cause: f.cause, Width: width, Info: far}, impl.Trap{Cause: f.cause, Width: width, Register: far}, impl.Trap{Cause: f.cause, Width: far})
			}
			for _, info := range []int{f.info + 1, f.info + 2, f.info + 4} {
				list = append(list, impl.Trap{Cause: f.cause, Width: width, Info: info})
			}
			for _, other := range []int{0, 1, 2, 3, 4, 5, 6, 7, 8, 16} {
				if !slices.Contains(f.widths, other) {
					y := x
					y.Width = other
					list = append(list, y, impl.Trap{Cause: f.cause, Width: other})
				}
			}
			y, z := x, x
			y.Register, z.Store = f.register+1, true
			list = append(list, y)
			if !f.stores {
				list = append(list, z)
			}
		}
	}
	for _, c := range [][2]int{{2, 1}, {2, 3}, {2, 65535}, {4, 1}, {4, 2}, {4, 3}, {4, 6}, {4, 65533}, {4, 65534}, {4, 65535}} {
		list = append(list, impl.Trap{Cause: impl.TrapDevice, Width: c[0], Info: c[1]}, impl.Trap{Cause: impl.TrapDevice, Width: c[0], Store: true, Register: 3, Info: c[1]})
	}
	for _, cause := range append([]int{-1, -3, 0, 6, 7, 8}, farFields...) {
		list = append(list, impl.Trap{Cause: cause}, impl.Trap{Cause: cause, Width: 1, Register: 1, Info: 4}, impl.Trap{Cause: cause, Store: true})
	}
	return list
}

func isNoTrap(x impl.Trap) bool { return x == impl.Trap{} }

// wantTrap compares what a call returned with a Trap where it is valid, and with a failure elsewhere.
func wantTrap(t *testing.T, name string, got impl.Trap, ok bool, want impl.Trap) {
	t.Helper()
	fine := isTrap(want)
	if !fine {
		want = impl.Trap{}
	}
	if ok != fine || got != want {
		t.Fatalf("%s = %v, %v instead of %v, %v", name, got, ok, want, fine)
	}
}

func TestTrapConstants(t *testing.T) {
	causes := []int{impl.TrapFault, impl.TrapCall, impl.TrapDevice, impl.TrapWait, impl.TrapBad}
	for i, cause := range causes {
		if cause != i+1 {
			t.Errorf("the Cause %s is %d", trapForms[i].name, cause)
		}
	}
}

func TestIsTrap(t *testing.T) {
	for _, c := range []struct {
		x    impl.Trap
		want bool
	}{
		{impl.Trap{Cause: impl.TrapFault}, true},
		{impl.Trap{Cause: impl.TrapFault, Info: 15}, true},
		{impl.Trap{Cause: impl.TrapFault, Info: 16}, false},
		{impl.Trap{Cause: impl.TrapFault, Info: -1}, false},
		{impl.Trap{Cause: impl.TrapFault, Store: true, Info: 15}, true},
		{impl.Trap{Cause: impl.TrapFault, Store: true, Info: 16}, false},
		{impl.Trap{Cause: impl.TrapFault, Width: 1}, false},
		{impl.Trap{Cause: impl.TrapFault, Register: 1}, false},
		{impl.Trap{Cause: impl.TrapCall}, true},
		{impl.Trap{Cause: impl.TrapCall, Info: 255}, true},
		{impl.Trap{Cause: impl.TrapCall, Info: 256}, false},
		{impl.Trap{Cause: impl.TrapCall, Info: -1}, false},
		{impl.Trap{Cause: impl.TrapCall, Store: true}, false},
		{impl.Trap{Cause: impl.TrapCall, Width: 1}, false},
		{impl.Trap{Cause: impl.TrapCall, Register: 1}, false},
		{impl.Trap{Cause: impl.TrapDevice}, false},
		{impl.Trap{Cause: impl.TrapDevice, Width: 1}, true},
		{impl.Trap{Cause: impl.TrapDevice, Width: 2}, true},
		{impl.Trap{Cause: impl.TrapDevice, Width: 3}, false},
		{impl.Trap{Cause: impl.TrapDevice, Width: 3, Info: 3}, false},
		{impl.Trap{Cause: impl.TrapDevice, Width: 4}, true},
		{impl.Trap{Cause: impl.TrapDevice, Width: 5}, false},
		{impl.Trap{Cause: impl.TrapDevice, Width: 6, Info: 6}, false},
		{impl.Trap{Cause: impl.TrapDevice, Width: 8}, false},
		{impl.Trap{Cause: impl.TrapDevice, Width: -1}, false},
		{impl.Trap{Cause: impl.TrapDevice, Width: -4, Info: 4}, false},
		{impl.Trap{Cause: impl.TrapDevice, Width: 1, Info: 65535}, true},
		{impl.Trap{Cause: impl.TrapDevice, Width: 1, Info: 65536}, false},
		{impl.Trap{Cause: impl.TrapDevice, Width: 2, Info: 65534}, true},
		{impl.Trap{Cause: impl.TrapDevice, Width: 2, Info: 65535}, false},
		{impl.Trap{Cause: impl.TrapDevice, Width: 2, Info: 65536}, false},
		{impl.Trap{Cause: impl.TrapDevice, Width: 4, Info: 65532}, true},
		{impl.Trap{Cause: impl.TrapDevice, Width: 4, Info: 65534}, false},
		{impl.Trap{Cause: impl.TrapDevice, Width: 4, Info: 65536}, false},
		{impl.Trap{Cause: impl.TrapDevice, Width: 2, Info: 6}, true},
		{impl.Trap{Cause: impl.TrapDevice, Width: 2, Info: 7}, false},
		{impl.Trap{Cause: impl.TrapDevice, Width: 4, Info: 6}, false},
		{impl.Trap{Cause: impl.TrapDevice, Width: 4, Info: 7}, false},
		{impl.Trap{Cause: impl.TrapDevice, Width: 4, Info: 8}, true},
		{impl.Trap{Cause: impl.TrapDevice, Width: 4, Info: -4}, false},
		{impl.Trap{Cause: impl.TrapDevice, Width: 4, Register: 3, Store: true, Info: 8}, true},
		{impl.Trap{Cause: impl.TrapDevice, Width: 4, Register: 4, Store: true, Info: 8}, false},
		{impl.Trap{Cause: impl.TrapDevice, Width: 4, Register: -1, Info: 8}, false},
		{impl.Trap{Cause: impl.TrapWait}, true},
		{impl.Trap{Cause: impl.TrapWait, Info: 1}, false},
		{impl.Trap{Cause: impl.TrapWait, Info: -1}, false},
		{impl.Trap{Cause: impl.TrapWait, Store: true}, false},
		{impl.Trap{Cause: impl.TrapWait, Width: 1}, false},
		{impl.Trap{Cause: impl.TrapWait, Register: 1}, false},
		{impl.Trap{Cause: impl.TrapBad}, true},
		{impl.Trap{Cause: impl.TrapBad, Info: 1}, false},
		{impl.Trap{Cause: impl.TrapBad, Store: true}, false},
		{impl.Trap{Cause: impl.TrapBad, Width: 4}, false},
		{impl.Trap{Cause: impl.TrapBad, Register: 3}, false},
		{impl.Trap{}, false},
		{impl.Trap{Cause: 6}, false},
		{impl.Trap{Cause: -1}, false},
	} {
		if impl.IsTrap(c.x) != c.want || isTrap(c.x) != c.want {
			t.Errorf("IsTrap(%v) = %v, and %v by the forms", c.x, impl.IsTrap(c.x), isTrap(c.x))
		}
	}
}

func TestIsTrapAtTheBounds(t *testing.T) {
	for _, cause := range boundsOf(5) {
		most := 0
		if cause >= 1 && cause <= 5 {
			most = trapForms[cause-1].info
		}
		for _, width := range boundsOf(4) {
			for _, register := range boundsOf(3) {
				for _, info := range boundsOf(most) {
					for _, store := range []bool{false, true} {
						x := impl.Trap{Cause: cause, Width: width, Store: store, Register: register, Info: info}
						if impl.IsTrap(x) != isTrap(x) {
							t.Fatalf("IsTrap(%v) = %v", x, impl.IsTrap(x))
						}
					}
				}
			}
		}
	}
}

func TestEachAddressAndWidth(t *testing.T) {
	for width := -2; width <= 17; width++ {
		for address := -20; address <= 65536+20; address++ {
			x := impl.Trap{Cause: impl.TrapDevice, Width: width, Register: address & 3, Store: address&4 == 0, Info: address}
			if impl.IsTrap(x) != isTrap(x) {
				t.Fatalf("IsTrap(%v) = %v", x, impl.IsTrap(x))
			}
			got, ok := impl.DeviceTrap(x.Info, x.Width, x.Register, x.Store)
			wantTrap(t, fmt.Sprintf("DeviceTrap(%d, %d, %d, %v)", x.Info, x.Width, x.Register, x.Store), got, ok, x)
		}
	}
}

func TestInvalidTrapsAreRefused(t *testing.T) {
	registers := []int{1, 2, 3, 4}
	for _, x := range invalidTraps() {
		if isTrap(x) {
			t.Fatalf("%v is no example of an invalid Trap", x)
		}
		if impl.IsTrap(x) {
			t.Errorf("%v is a Trap", x)
		}
		if n, ok := impl.Syndrome(x); ok || n != 0 {
			t.Errorf("Syndrome(%v) = %d, %v", x, n, ok)
		}
		if n, ok := impl.StoredValue(x, registers); ok || n != 0 {
			t.Errorf("StoredValue(%v) = %d, %v", x, n, ok)
		}
		if r, ok := impl.LoadValue(x, registers, 5); ok || len(r) != 0 {
			t.Errorf("LoadValue(%v) = %v, %v", x, r, ok)
		}
		if c, ok := impl.CountCauses([]impl.Trap{x}); ok || len(c) != 0 {
			t.Errorf("CountCauses(%v) = %v, %v", x, c, ok)
		}
		if s, ok := impl.TrapName(x); ok || s != "" {
			t.Errorf("TrapName(%v) = %q, %v", x, s, ok)
		}
		if again, ok := impl.DoesRepeat(x); ok || again {
			t.Errorf("DoesRepeat(%v) = %v, %v", x, again, ok)
		}
	}
}

func TestSyndromes(t *testing.T) {
	for _, c := range []struct {
		x    impl.Trap
		want int
	}{
		{impl.Trap{Cause: impl.TrapFault}, 0x1000000},
		{impl.Trap{Cause: impl.TrapFault, Info: 15}, 0x100000f},
		{impl.Trap{Cause: impl.TrapFault, Store: true, Info: 9}, 0x1800009},
		{impl.Trap{Cause: impl.TrapCall}, 0x2000000},
		{impl.Trap{Cause: impl.TrapCall, Info: 255}, 0x20000ff},
		{impl.Trap{Cause: impl.TrapDevice, Width: 1}, 0x3100000},
		{impl.Trap{Cause: impl.TrapDevice, Width: 2, Register: 1, Store: true, Info: 260}, 0x3a10104},
		{impl.Trap{Cause: impl.TrapDevice, Width: 4, Register: 3, Store: true, Info: 65532}, 0x3c3fffc},
		{impl.Trap{Cause: impl.TrapDevice, Width: 1, Register: 2, Info: 65535}, 0x312ffff},
		{impl.Trap{Cause: impl.TrapWait}, 0x4000000},
		{impl.Trap{Cause: impl.TrapBad}, 0x5000000},
	} {
		if n, ok := impl.Syndrome(c.x); !ok || n != c.want {
			t.Errorf("Syndrome(%v) = %x, %v, want %x", c.x, n, ok, c.want)
		}
		if x, ok := impl.TrapOf(c.want); !ok || x != c.x {
			t.Errorf("TrapOf(%x) = %v, %v, want %v", c.want, x, ok, c.x)
		}
	}
}

// aboveSyndromes is above the syndromes of all Causes, with room for two more of them.
const aboveSyndromes = 8 << 24

// allSyndromes has a bit for each number from 0 on, which tells that it is the syndrome of a Trap.
func allSyndromes() []uint64 {
	set := make([]uint64, aboveSyndromes/64)
	everyTrap(func(x impl.Trap) {
		n := syndromeOf(x)
		set[n/64] |= 1 << (n % 64)
	})
	return set
}

func TestEveryTrapIsRecovered(t *testing.T) {
	count := 0
	everyTrap(func(x impl.Trap) {
		count++
		if !impl.IsTrap(x) {
			t.Fatalf("%v is no Trap", x)
		}
		n, ok := impl.Syndrome(x)
		if !ok || n != syndromeOf(x) {
			t.Fatalf("Syndrome(%v) = %d, %v, want %d", x, n, ok, syndromeOf(x))
		}
		if y, ok := impl.TrapOf(n); !ok || y != x {
			t.Fatalf("TrapOf(%d) = %v, %v, want %v", n, y, ok, x)
		}
	})
	different := 0
	for _, word := range allSyndromes() {
		different += bits.OnesCount64(word)
	}
	if count != 2*16+256+8*(65536+32768+16384)+2 || different != count {
		t.Errorf("%d Traps have %d syndromes", count, different)
	}
}

// wantSyndrome compares what TrapOf tells with whether the number is the syndrome of a Trap, and with that syndrome. It is no Helper, as it is called too often for one.
func wantSyndrome(t *testing.T, n int, is bool) {
	x, ok := impl.TrapOf(n)
	if ok != is || !ok && !isNoTrap(x) {
		t.Fatalf("TrapOf(%#x) = %v, %v, want %v", n, x, ok, is)
	}
	if ok {
		if m, fine := impl.Syndrome(x); !fine || m != n {
			t.Fatalf("TrapOf(%#x) = %v, whose syndrome is %#x, %v", n, x, m, fine)
		}
	}
}

func TestNoOtherSyndromeIsAccepted(t *testing.T) {
	set := allSyndromes()
	for n := range aboveSyndromes {
		wantSyndrome(t, n, set[n/64]>>(n%64)&1 == 1)
	}
	for n := -1 << 20; n < 0; n++ {
		wantSyndrome(t, n, false)
	}
	for _, far := range []int{aboveSyndromes, 16 << 24, 255 << 24, 256 << 24, 1 << 32, 1 << 40, 1 << 56, 1 << 62, -1 << 24, -8 << 24, -1 << 32, -1 << 40, math.MinInt, math.MaxInt - aboveSyndromes} {
		for n := 0; n < 6<<24; n += 1 << 15 {
			wantSyndrome(t, far+n, far+n >= 0 && far+n < aboveSyndromes && set[(far+n)/64]>>((far+n)%64)&1 == 1)
		}
	}
	for _, n := range []int{0, -1, -2, 1<<24 - 1, 4<<24 + 1, 5<<24 + 1, 5<<24 + 1<<16, 6 << 24, math.MaxInt, math.MaxInt - 1, math.MinInt, math.MinInt + 1, -3 << 24, -(3<<24 + 1<<20)} {
		wantSyndrome(t, n, false)
	}
}

// Each bit of a number counts, the sign and those above the Cause included.
func TestSyndromesWithOneBitChanged(t *testing.T) {
	set := allSyndromes()
	for _, x := range someTraps() {
		for bit := range 64 {
			n := syndromeOf(x) ^ 1<<bit
			is := n >= 0 && n < aboveSyndromes && set[n/64]>>(n%64)&1 == 1
			wantSyndrome(t, n, is)
			if y, ok := impl.TrapOf(n); ok && y == x {
				t.Fatalf("TrapOf(%#x) is %v too", n, x)
			}
		}
	}
}

func TestFaultTrap(t *testing.T) {
	for _, page := range append(boundsOf(15), 9, 10, 11, 12, 13, 17) {
		for _, store := range []bool{false, true} {
			got, ok := impl.FaultTrap(page, store)
			wantTrap(t, fmt.Sprintf("FaultTrap(%d, %v)", page, store), got, ok, impl.Trap{Cause: 1, Store: store, Info: page})
		}
	}
}

func TestDeviceTrap(t *testing.T) {
	for _, address := range boundsOf(65535) {
		for _, width := range boundsOf(4) {
			for _, register := range boundsOf(3) {
				for _, store := range []bool{false, true} {
					got, ok := impl.DeviceTrap(address, width, register, store)
					want := impl.Trap{Cause: 3, Width: width, Store: store, Register: register, Info: address}
					wantTrap(t, fmt.Sprintf("DeviceTrap(%d, %d, %d, %v)", address, width, register, store), got, ok, want)
				}
			}
		}
	}
}

// lowest returns the lowest bytes of a number, at most two: as many as a word has.
func lowest(n int, width int) int {
	if width == 1 {
		return int(uint8(n))
	}
	return int(uint16(n))
}

// accesses returns TrapDevices of each width with each register, at the least and the greatest address.
func accesses(store bool) []impl.Trap {
	var list []impl.Trap
	for _, x := range someTraps() {
		if x.Cause == impl.TrapDevice && x.Store == store {
			list = append(list, x)
		}
	}
	return list
}

func TestStoredValue(t *testing.T) {
	for _, c := range []struct {
		width, register int
		registers       []int
		want            int
	}{
		{1, 0, []int{513, 2, 3, 4}, 1},
		{2, 0, []int{513, 2, 3, 4}, 513},
		// A register has no more bytes than two.
		{4, 0, []int{513, 2, 3, 4}, 513},
		{1, 3, []int{1, 2, 3, 65535}, 255},
		{2, 3, []int{1, 2, 3, 65535}, 65535},
		{4, 3, []int{1, 2, 3, 65535}, 65535},
		{1, 1, []int{1, 65280, 3, 4}, 0},
		{1, 2, []int{1, 2, 256, 4}, 0},
		{1, 2, []int{1, 2, 255, 4}, 255},
		{4, 2, []int{1, 2, 0, 4}, 0},
	} {
		for _, address := range []int{0, 4, 65532} {
			x := impl.Trap{Cause: impl.TrapDevice, Width: c.width, Store: true, Register: c.register, Info: address}
			if n, ok := impl.StoredValue(x, c.registers); !ok || n != c.want {
				t.Errorf("StoredValue(%v, %v) = %d, %v, want %d", x, c.registers, n, ok, c.want)
			}
		}
	}
}

func TestStoredValueOfEachWord(t *testing.T) {
	for width := 1; width <= 4; width *= 2 {
		for register := range 4 {
			for word := range 65536 {
				registers := []int{1111, 2222, 3333, 4444}
				registers[register] = word
				x := impl.Trap{Cause: impl.TrapDevice, Width: width, Store: true, Register: register, Info: word &^ 3}
				if n, ok := impl.StoredValue(x, registers); !ok || n != lowest(word, width) {
					t.Fatalf("StoredValue(%v, %v) = %d, %v", x, registers, n, ok)
				}
			}
		}
	}
}

func TestLoadValue(t *testing.T) {
	for _, c := range []struct {
		width, register, value int
		want                   []int
	}{
		{1, 0, 513, []int{1, 20, 300, 65535}},
		{2, 0, 513, []int{513, 20, 300, 65535}},
		{4, 0, 513, []int{513, 20, 300, 65535}},
		// The word is replaced as a whole.
		{1, 3, 0, []int{10, 20, 300, 0}},
		{1, 3, 255, []int{10, 20, 300, 255}},
		{1, 3, 256, []int{10, 20, 300, 0}},
		{1, 2, 65535, []int{10, 20, 255, 65535}},
		{2, 1, 65535, []int{10, 65535, 300, 65535}},
		{2, 1, 65536, []int{10, 0, 300, 65535}},
		{2, 1, 65537, []int{10, 1, 300, 65535}},
		{4, 1, 65535, []int{10, 65535, 300, 65535}},
		{4, 1, 65536, []int{10, 0, 300, 65535}},
		{4, 2, 0xdeadbeef, []int{10, 20, 0xbeef, 65535}},
		{2, 2, 0xdeadbeef, []int{10, 20, 0xbeef, 65535}},
		{1, 2, 0xdeadbeef, []int{10, 20, 0xef, 65535}},
		{1, 0, 1<<32 - 1, []int{255, 20, 300, 65535}},
		{2, 0, 1<<32 - 1, []int{65535, 20, 300, 65535}},
		{4, 0, 1<<32 - 1, []int{65535, 20, 300, 65535}},
		{4, 0, 0, []int{0, 20, 300, 65535}},
	} {
		for _, address := range []int{0, 4, 65532} {
			x := impl.Trap{Cause: impl.TrapDevice, Width: c.width, Register: c.register, Info: address}
			if r, ok := impl.LoadValue(x, []int{10, 20, 300, 65535}, c.value); !ok || !slices.Equal(r, c.want) {
				t.Errorf("LoadValue(%v, %d) = %v, %v, want %v", x, c.value, r, ok, c.want)
			}
		}
	}
}

func TestLoadValueOfManyValues(t *testing.T) {
	next := numbers(51)
	for i, x := range slices.Repeat(accesses(false), 500) {
		registers := []int{next(65536), next(65536), next(65536), next(65536)}
		value := next(65536)<<16 | next(65536)
		if i%3 == 0 {
			value &= 0x1ffff
		}
		want := slices.Clone(registers)
		want[x.Register] = lowest(value, x.Width)
		if r, ok := impl.LoadValue(x, registers, value); !ok || !slices.Equal(r, want) {
			t.Fatalf("LoadValue(%v, %v, %d) = %v, %v, want %v", x, registers, value, r, ok, want)
		}
	}
}

// What is stored and loaded again with the same width is the lowest bytes of the register.
func TestLoadOfWhatWasStored(t *testing.T) {
	next := numbers(52)
	for _, load := range slices.Repeat(accesses(false), 50) {
		registers := []int{next(65536), next(65536), next(65536), next(65536)}
		for from := range 4 {
			store := load
			store.Store, store.Register = true, from
			value, _ := impl.StoredValue(store, registers)
			want := slices.Clone(registers)
			want[load.Register] = lowest(registers[from], load.Width)
			if r, ok := impl.LoadValue(load, registers, value); !ok || !slices.Equal(r, want) {
				t.Fatalf("%v and %v lead %v to %v, %v", store, load, registers, r, ok)
			}
		}
	}
}

// wrongRegisters are not four words.
func wrongRegisters() [][]int {
	lists := [][]int{nil, {}, {1}, {1, 2}, {1, 2, 3}, {1, 2, 3, 4, 5}, make([]int, 1<<20), []int{1, 2, 3, 4}[:3]}
	for i := range 4 {
		for _, wrong := range append([]int{-1, 65536, 65537}, farFields...) {
			list := []int{1, 2, 3, 65535}
			list[i] = wrong
			lists = append(lists, list)
		}
	}
	return lists
}

func TestOtherRegistersAreRefused(t *testing.T) {
	stores, loads := accesses(true), accesses(false)
	for _, registers := range wrongRegisters() {
		for _, x := range stores {
			if n, ok := impl.StoredValue(x, registers); ok || n != 0 {
				t.Errorf("StoredValue(%v, %v) = %d, %v", x, shown(fmt.Sprint(registers)), n, ok)
			}
		}
		for _, x := range loads {
			if r, ok := impl.LoadValue(x, registers, 7); ok || len(r) != 0 {
				t.Errorf("LoadValue(%v, %v, 7) = %v, %v", x, shown(fmt.Sprint(registers)), r, ok)
			}
		}
	}
}

func TestOtherValuesAreRefused(t *testing.T) {
	for _, x := range accesses(false) {
		for _, value := range []int{-1, -2, -65535, -1 << 32, 1 << 32, 1<<32 + 1, 1<<33 - 1, 1 << 40, math.MaxInt, math.MinInt} {
			if r, ok := impl.LoadValue(x, []int{1, 2, 3, 4}, value); ok || len(r) != 0 {
				t.Errorf("LoadValue(%v, %d) = %v, %v", x, value, r, ok)
			}
		}
	}
}

// Each Trap stores, or loads, or neither.
func TestOnlyTheRightTrapsStoreAndLoad(t *testing.T) {
	registers := []int{1, 2, 3, 4}
	for _, x := range someTraps() {
		isDevice := x.Cause == impl.TrapDevice
		if n, ok := impl.StoredValue(x, registers); ok != (isDevice && x.Store) || !ok && n != 0 {
			t.Errorf("StoredValue(%v) = %d, %v", x, n, ok)
		}
		if r, ok := impl.LoadValue(x, registers, 9); ok != (isDevice && !x.Store) || !ok && len(r) != 0 {
			t.Errorf("LoadValue(%v) = %v, %v", x, r, ok)
		}
	}
}

func TestCountCauses(t *testing.T) {
	fault, call, device := impl.Trap{Cause: 1, Store: true, Info: 3}, impl.Trap{Cause: 2, Info: 255}, impl.Trap{Cause: 3, Width: 4, Info: 8}
	wait, bad := impl.Trap{Cause: 4}, impl.Trap{Cause: 5}
	for _, c := range []struct {
		list []impl.Trap
		want []int
	}{
		{nil, []int{0, 0, 0, 0, 0}},
		{[]impl.Trap{}, []int{0, 0, 0, 0, 0}},
		{[]impl.Trap{fault}, []int{1, 0, 0, 0, 0}},
		{[]impl.Trap{call}, []int{0, 1, 0, 0, 0}},
		{[]impl.Trap{device}, []int{0, 0, 1, 0, 0}},
		{[]impl.Trap{wait}, []int{0, 0, 0, 1, 0}},
		{[]impl.Trap{bad}, []int{0, 0, 0, 0, 1}},
		{[]impl.Trap{bad, wait, device, call, fault}, []int{1, 1, 1, 1, 1}},
		{[]impl.Trap{bad, fault, bad, device, bad, fault}, []int{2, 0, 1, 0, 3}},
		{slices.Repeat([]impl.Trap{wait}, 50), []int{0, 0, 0, 50, 0}},
		{slices.Repeat([]impl.Trap{fault, call, device, wait, bad}, 10), []int{10, 10, 10, 10, 10}},
		{append(slices.Repeat([]impl.Trap{call}, 49), bad), []int{0, 49, 0, 0, 1}},
		{make([]impl.Trap, 60)[:0], []int{0, 0, 0, 0, 0}},
	} {
		if got, ok := impl.CountCauses(c.list); !ok || !slices.Equal(got, c.want) {
			t.Errorf("CountCauses of %d Traps = %v, %v, want %v", len(c.list), got, ok, c.want)
		}
	}
}

func TestCountCausesOfManyLists(t *testing.T) {
	byCause := make([][]impl.Trap, 5)
	for _, x := range someTraps() {
		byCause[x.Cause-1] = append(byCause[x.Cause-1], x)
	}
	next := numbers(53)
	for i := range 5100 {
		list, want := make([]impl.Trap, i%51), make([]int, 5)
		for j := range list {
			place := next(5)
			list[j] = byCause[place][next(len(byCause[place]))]
			want[place]++
		}
		if got, ok := impl.CountCauses(list); !ok || !slices.Equal(got, want) {
			t.Fatalf("CountCauses(%v) = %v, %v, want %v", list, got, ok, want)
		}
	}
}

func TestCountCausesRefuses(t *testing.T) {
	for _, x := range someTraps() {
		for _, n := range []int{51, 52, 100} {
			if got, ok := impl.CountCauses(slices.Repeat([]impl.Trap{x}, n)); ok || len(got) != 0 {
				t.Errorf("CountCauses of %d times %v = %v, %v", n, x, got, ok)
			}
		}
	}
	if got, ok := impl.CountCauses(slices.Repeat([]impl.Trap{{Cause: 4}}, 1<<20)); ok || len(got) != 0 {
		t.Errorf("CountCauses of 2^20 Traps = %v, %v", got, ok)
	}
	wrong := invalidTraps()
	for n := 1; n <= 51; n++ {
		for at := range n {
			list := slices.Repeat([]impl.Trap{{Cause: 1 + at%2}}, n)
			list[at] = wrong[(n*7+at)%len(wrong)]
			if got, ok := impl.CountCauses(list); ok || len(got) != 0 {
				t.Errorf("CountCauses with %v at %d of %d = %v, %v", list[at], at, n, got, ok)
			}
		}
	}
}

func TestTrapNames(t *testing.T) {
	for _, c := range []struct {
		x    impl.Trap
		want string
	}{
		{impl.Trap{Cause: impl.TrapFault, Info: 2}, "fault"},
		{impl.Trap{Cause: impl.TrapFault, Store: true, Info: 2}, "fault store"},
		{impl.Trap{Cause: impl.TrapCall, Info: 2}, "call"},
		{impl.Trap{Cause: impl.TrapDevice, Width: 2, Register: 1, Info: 2}, "device"},
		{impl.Trap{Cause: impl.TrapDevice, Width: 2, Register: 1, Store: true, Info: 2}, "device store"},
		{impl.Trap{Cause: impl.TrapWait}, "wait"},
		{impl.Trap{Cause: impl.TrapBad}, "bad"},
	} {
		if s, ok := impl.TrapName(c.x); !ok || s != c.want {
			t.Errorf("TrapName(%v) = %q, %v, want %q", c.x, s, ok, c.want)
		}
	}
	everyTrap(func(x impl.Trap) {
		want := trapForms[x.Cause-1].name
		if x.Store {
			want += " store"
		}
		if s, ok := impl.TrapName(x); !ok || s != want {
			t.Fatalf("TrapName(%v) = %q, %v, want %q", x, s, ok, want)
		}
	})
}

func TestOnlyFaultsRepeat(t *testing.T) {
	everyTrap(func(x impl.Trap) {
		if again, ok := impl.DoesRepeat(x); !ok || again != (x.Cause == 1) {
			t.Fatalf("DoesRepeat(%v) = %v, %v", x, again, ok)
		}
	})
}

// What the other functions return is a Trap for IsTrap, and recovered from its syndrome.
func TestMadeTrapsAreRecovered(t *testing.T) {
	var made []impl.Trap
	for _, store := range []bool{false, true} {
		for page := range impl.MaxPages {
			x, _ := impl.FaultTrap(page, store)
			made = append(made, x)
		}
		for address := 0; address < 65536; address += 4 {
			for register := range 4 {
				x, _ := impl.DeviceTrap(address, 4>>(register%3), register, store)
				made = append(made, x)
			}
		}
	}
	for _, x := range made {
		n, ok := impl.Syndrome(x)
		y, fine := impl.TrapOf(n)
		if !ok || !fine || y != x || !impl.IsTrap(x) {
			t.Fatalf("%v has the syndrome %d, %v, of which the Trap is %v, %v", x, n, ok, y, fine)
		}
	}
}

// The lists lie within longer ones, whose other elements must be neither read nor written.
func TestTrapArgumentsAreNotChanged(t *testing.T) {
	whole := []int{-7, 10, 20, 300, 65535, -9, 70000}
	before := slices.Clone(whole)
	for _, x := range append(someTraps(), invalidTraps()...) {
		for _, value := range []int{0, 513, 1<<32 - 1, 1 << 32, -1} {
			n, stored := impl.StoredValue(x, whole[1:5])
			r, loaded := impl.LoadValue(x, whole[1:5], value)
			m, storedAlone := impl.StoredValue(x, []int{10, 20, 300, 65535})
			s, loadedAlone := impl.LoadValue(x, []int{10, 20, 300, 65535}, value)
			if n != m || stored != storedAlone || !slices.Equal(r, s) || loaded != loadedAlone {
				t.Fatalf("%v in a longer list: %d, %v and %v, %v", x, n, stored, r, loaded)
			}
		}
	}
	if !slices.Equal(whole, before) {
		t.Error("the registers became", whole)
	}
	odd := impl.Trap{Cause: -5, Width: 9}
	traps := append(append([]impl.Trap{odd}, someTraps()[:50]...), odd, impl.Trap{Cause: 4})
	saved := slices.Clone(traps)
	for n := range 51 {
		if c, ok := impl.CountCauses(traps[1 : 1+n]); !ok || c[0]+c[1] != n {
			t.Errorf("CountCauses of %d in a longer list = %v, %v", n, c, ok)
		}
	}
	impl.CountCauses(traps)
	if !slices.Equal(traps, saved) {
		t.Error("the Traps became", traps)
	}
}

func TestTrapResultsAreNotShared(t *testing.T) {
	for _, x := range accesses(false) {
		registers := []int{10, 20, 300, 65535, 7, 7}
		// One load changes a word, the other one puts it where it is already.
		for _, value := range []int{513, registers[x.Register]} {
			a, _ := impl.LoadValue(x, registers[:4], value)
			b, _ := impl.LoadValue(x, registers[:4], value)
			wantNotShared(t, "LoadValue", [][]int{registers, a, b}, -5)
		}
	}
	list := slices.Repeat([]impl.Trap{{Cause: 4}}, 50)
	for n := range 51 {
		a, _ := impl.CountCauses(list[:n])
		b, _ := impl.CountCauses(list[:n])
		wantNotShared(t, "CountCauses", [][]int{a, b}, -5)
	}
}

// What was returned before changes nothing of what is returned later.
func TestTrapCallsKeepNothing(t *testing.T) {
	x := impl.Trap{Cause: impl.TrapDevice, Width: 2, Register: 2, Info: 6}
	for range 3 {
		r, ok := impl.LoadValue(x, []int{1, 2, 3, 4}, 70000)
		if !ok || !slices.Equal(r, []int{1, 2, 4464, 4}) {
			t.Fatalf("LoadValue = %v, %v", r, ok)
		}
		clear(r)
		for _, list := range [][]impl.Trap{{x, x}, nil} {
			c, ok := impl.CountCauses(list)
			if !ok || !slices.Equal(c, []int{0, 0, len(list), 0, 0}) {
				t.Fatalf("CountCauses(%v) = %v, %v", list, c, ok)
			}
			for i := range c {
				c[i] = -5
			}
		}
		impl.CountCauses([]impl.Trap{x, {}})
		impl.TrapOf(-1)
	}
}
