/- What the draws' cursor answers: among, a number of a list. -/
import Derived.Test.YtadpjkghfgnbbaaCur0
import Derived.Test.YtadpjkghfgnbbaaOwn
namespace Go.Proofs.Ytadpjkghfgnbbaa.Draw
open Go.RowKit Go.Proofs.Ytadpjkghfgnbbaa.Mem Go.Proofs.Ytadpjkghfgnbbaa.Own
set_option linter.unusedVariables false
set_option maxHeartbeats 1000000 in
theorem among_any (w : World) (g B : Nat) (A : Option Addr) (n cp : Nat) (zs : List Int) (t : Nat) (hz : ∀ z ∈ zs, 0 ≤ z ∧ z ≤ 255) (hc : Cur w g B A n cp zs t) (ht : t ≤ 900000) (hn : n ≤ 1000000)
    (h m c : Nat) (xs : List Int) (hne : h ≠ g) (hh : h < w.heap.size) (hm0 : 1 ≤ m) (hm1 : m ≤ 60000) (hmc : m ≤ c) (hl : xs.length = m) (hcell : ∀ j x, xs[j]? = some x → w.cell? ⟨h, j, none⟩ = some (.int .i64 x)) :
    Calls Try.prog 71 #[.pointer (some ⟨g, 0, none⟩), .slice (some ⟨h, 0, none⟩) m c] w fun e w' => ∃ x, e = .returned (.int .i64 x) ∧ x ∈ xs ∧ (∃ t', t' ≤ t + 2 ∧ Cur w' g B A n cp zs t') ∧ w.grownBy w' (some g) := by
  have HC := Lib.hid hc
  have HZ := Lib.hid hz
  have HL := Lib.hid hl
  have HX := Lib.hid hcell
  clear hc hz hl hcell
  go_enter Try.func71, Try.ntmps71
  go_wp2_with fail
  refine (pick_any _ g B A n cp zs t HZ.out HC.out ht hn m (by omega) (by omega)).mono ?_
  rintro e w1 ⟨x, rfl, hx0, hx1, hc1, hg1⟩
  obtain ⟨q, rfl⟩ : ∃ q : Nat, x = q := ⟨x.toNat, by omega⟩
  have hq : q < m := by omega
  obtain ⟨y, hy⟩ : ∃ y, xs[q]? = some y := ⟨xs[q]'(by rw [HL.out]; exact hq), List.getElem?_eq_getElem _⟩
  have hcy : w1.cell? ⟨h, q, none⟩ = some (.int .i64 y) := (World.cell?_of_block (hg1.block h hh (fun e => hne (by injection e)))).trans (HX.out q y hy)
  have HM := Lib.hid (List.mem_of_getElem? hy)
  have HC1 := Lib.hid hc1
  have HG1 := Lib.hid hg1
  clear hc1 hg1 hy
  go_wp2_with fail
  go_ret
  exact ⟨y, rfl, HM.out, HC1.out, HG1.out⟩
/-- the cells of a list of numbers that has just been laid -/
theorem list_cells (w : World) (xs : List Int) (cs : Array Value) (h : cs = (I xs).toArray) (t : TypeId) : ∀ j x, xs[j]? = some x → (w.alloc (.cells cs t)).cell? ⟨w.heap.size, j, none⟩ = some (.int .i64 x) := by
  intro j x hx
  subst h
  rw [cell_of_row _ _ _ _ _ _ (heap_alloc_new w _)]
  simpa using I_at hx
/-- drawing from a list that is laid for it -/
theorem among_list (w : World) (g B : Nat) (A : Option Addr) (n cp : Nat) (zs : List Int) (t : Nat) (hz : ∀ z ∈ zs, 0 ≤ z ∧ z ≤ 255) (hc : Cur w g B A n cp zs t) (ht : t ≤ 900000) (hn : n ≤ 1000000)
    (xs : List Int) (cs : Array Value) (h : cs = (I xs).toArray) (ty : TypeId) (m : Nat) (hm : xs.length = m) (hm0 : 1 ≤ m) (hm1 : m ≤ 60000) :
    Calls Try.prog 71 #[.pointer (some ⟨g, 0, none⟩), .slice (some ⟨w.heap.size, 0, none⟩) m m] (w.alloc (.cells cs ty)) fun e w' => ∃ x, e = .returned (.int .i64 x) ∧ x ∈ xs ∧ (∃ t', t' ≤ t + 2 ∧ Cur w' g B A n cp zs t') ∧ w.grownBy w' (some g) := by
  have hlt := hc.lt
  have hz2 := (World.grownBy_alloc w (.cells cs ty) (some g)).size
  have hsz : (w.alloc (.cells cs ty)).heap.size = w.heap.size + 1 := Array.size_push _
  refine (among_any _ g B A n cp zs t hz (hc.alloc _) ht hn w.heap.size m m xs (by omega) (by omega) hm0 hm1 (Nat.le_refl _) hm (list_cells w xs cs h ty)).mono ?_
  rintro e w' ⟨x, h1, h2, h3, h4⟩
  exact ⟨x, h1, h2, h3, grown_trans' (World.grownBy_alloc w _ (some g)) h4⟩
end Go.Proofs.Ytadpjkghfgnbbaa.Draw
