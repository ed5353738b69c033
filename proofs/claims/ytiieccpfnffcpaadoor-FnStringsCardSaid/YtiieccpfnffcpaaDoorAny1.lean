/- What chapter 1's draws of texts answer: short texts. -/
import Derived.Test.YtiieccpfnffcpaaDoorCur
import Derived.OwnWalk
namespace Go.Proofs.YtiieccpfnffcpaaDoor.Draw
open Go.RowKit Go.Proofs.YtiieccpfnffcpaaDoor.Mem
set_option linter.unusedVariables false
theorem cells_list {w : World} {h : Nat} {t : TypeId} {cs : Array Value} (hb : w.heap[h]? = some (.cells cs t (0, 0))) {ss : List ByteArray} (hcs : cs = (ss.map Value.string).toArray) : ∀ j x, ss[j]? = some x → w.cell? ⟨h, j, none⟩ = some (.string x) := by
  intro j x hx
  rw [hcs] at hb
  simp [World.cell?, hb, hx]
def anys : List ByteArray := [⟨#[]⟩, ⟨#[97]⟩, ⟨#[97, 44, 98]⟩, ⟨#[115, 111, 109, 101, 32, 119, 111, 114, 100, 115]⟩, ⟨#[120, 35, 121]⟩, ⟨#[45, 49, 50]⟩, ⟨#[0, 255]⟩, ⟨#[44, 44]⟩, ⟨#[48]⟩]
theorem anys_size : ∀ s ∈ anys, s.size ≤ 20 := by decide
/-- what a draw of a text leaves -/
def Drawn (P : ByteArray → Prop) (g B : Nat) (A : Option Addr) (n cp : Nat) (zs : List Int) (t : Nat) (w : World) (e : Ending) (w' : World) : Prop :=
  ∃ x, e = .returned (.string x) ∧ P x ∧ (∃ t', t' ≤ t + 2 ∧ Cur w' g B A n cp zs t') ∧ w.grownBy w' (some g)
theorem grown_alloc {w w' : World} {o : Obj} {row : Option Nat} (h : (w.alloc o).grownBy w' row) : w.grownBy w' row := grown_trans' (World.grownBy_alloc w o row) h
set_option maxHeartbeats 1000000 in
theorem any1_any (w : World) (g B : Nat) (A : Option Addr) (n cp : Nat) (zs : List Int) (t : Nat) (hz : ∀ z ∈ zs, 0 ≤ z ∧ z ≤ 255) (hc : Cur w g B A n cp zs t) (ht : t ≤ 900000) (hn : n ≤ 1000000) :
    Calls Tryd.prog 30 #[.pointer (some ⟨g, 0, none⟩)] w (Drawn (fun x => x.size ≤ 20) g B A n cp zs t w) := by
  have hlt := hc.lt
  have HC := Lib.hid hc
  have HZ := Lib.hid hz
  clear hc hz
  go_enter Tryd.func30, Tryd.ntmps30
  go_wp2_with fail
  refine (of_any _ g B A n cp zs t HZ.out (HC.out.alloc _) ht hn w.heap.size 9 9 anys (by omega) (by simp) (by omega) (by omega) (Nat.le_refl _) rfl (cells_list (heap_alloc_new w _) rfl)).mono ?_
  rintro e w1 ⟨x, rfl, hx, hc1, hg1⟩
  have HR : Hid (Drawn (fun x => x.size ≤ 20) g B A n cp zs t w (.returned (.string x)) w1) := Lib.hid ⟨x, rfl, anys_size x hx, hc1, grown_alloc hg1⟩
  clear hx hc1 hg1
  go_wp2_with fail
  go_ret
  exact HR.out
theorem cur_new (w : World) (A : Option Addr) (n cp : Nat) (zs : List Int) (hr : Reads w w.heap.size 1 A n (zs.map (Value.int .u8))) : Cur (w.alloc (.cells #[.slice A n cp, .int .i64 0, .int .u64 0] 37)) w.heap.size w.heap.size A n cp zs 0 :=
  ⟨Nat.le_refl _, hr.alloc (Nat.le_refl _) _, 0, by decide, heap_alloc_new w _⟩
theorem below_cur {w w0 w' : World} {g : Nat} (h : Below w.heap.size w w0) (hg : w0.grownBy w' (some g)) (hle : w.heap.size ≤ g) : Below w.heap.size w w' :=
  h.grown hg h.size (fun k e => by cases e; exact hle)
end Go.Proofs.YtiieccpfnffcpaaDoor.Draw
