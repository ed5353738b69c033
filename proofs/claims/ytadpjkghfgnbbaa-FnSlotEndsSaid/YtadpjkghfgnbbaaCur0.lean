/- What the draws' cursor answers: next, pick; only its own block turns. -/
import Derived.Test.YtadpjkghfgnbbaaRows
import Derived.Test.YtadpjkghfgnbbaaMem
import Derived.Deep.QuietTactic
import Derived.BigQuiet
import Derived.Laws.Rows
import Derived.Outline
import Derived.Laws.BitsAllLaws
import Derived.OpenShut
import Derived.IntWalk
namespace Go.Proofs.Ytadpjkghfgnbbaa.Draw
open Go.RowKit Go.Proofs.Ytadpjkghfgnbbaa.Mem
set_option linter.unusedVariables false
/-- the cursor's block g: a code of n bytes zs that lies below B; t draws have been made -/
def Cur (w : World) (g B : Nat) (A : Option Addr) (n cp : Nat) (zs : List Int) (t : Nat) : Prop :=
  B ≤ g ∧ Reads w B 1 A n (zs.map (Value.int .u8)) ∧ ∃ sd : Int, (Lit.int .u64 sd).wf = true ∧ w.heap[g]? = some (.cells #[.slice A n cp, .int .i64 t, .int .u64 sd] 58 (0, 0))
theorem cells3 {w : World} {g : Nat} {t : TypeId} {a b c : Value} (h : w.heap[g]? = some (.cells #[a, b, c] t (0, 0))) :
    w.cell? ⟨g, 0, none⟩ = some a ∧ w.cell? ⟨g, 1, none⟩ = some b ∧ w.cell? ⟨g, 2, none⟩ = some c ∧ w.frozen? ⟨g, 1, none⟩ = false ∧ w.frozen? ⟨g, 2, none⟩ = false := by
  simp [World.cell?, World.frozen?, h]
theorem cur_next {w : World} {g B n cp t k : Nat} {A : Option Addr} {zs : List Int} {sd V : Int} (hB : B ≤ g) (hr : Reads w B 1 A n (zs.map (Value.int .u8))) (h : w.heap[g]? = some (.cells #[.slice A n cp, .int .i64 t, .int .u64 sd] 58 (0, 0))) (hV : (Lit.int .u64 V).wf = true) :
    Cur (((w.drewN k).setCell ⟨g, 1, none⟩ (.int .i64 (↑t + 1))).setCell ⟨g, 2, none⟩ (.int .u64 V)) g B A n cp zs (t + 1) ∧ w.grownBy (((w.drewN k).setCell ⟨g, 1, none⟩ (.int .i64 (↑t + 1))).setCell ⟨g, 2, none⟩ (.int .u64 V)) (some g) := by
  have hg : w.grownBy (((w.drewN k).setCell ⟨g, 1, none⟩ (.int .i64 (↑t + 1))).setCell ⟨g, 2, none⟩ (.int .u64 V)) (some g) := by
    refine ⟨rfl, rfl, rfl, by simp, fun i _ hne => ?_⟩
    have hne' : i ≠ g := fun e => hne (by rw [e])
    rw [Below.heap_setCell _ _ _ _ hne', Below.heap_setCell _ _ _ _ hne']
    rfl
  refine ⟨⟨hB, ?_, V, hV, ?_⟩, hg⟩
  · exact hr.keep fun p hp => World.cell?_of_block (by
      have hne' : p.block ≠ g := by omega
      rw [Below.heap_setCell _ _ _ _ hne', Below.heap_setCell _ _ _ _ hne']
      rfl)
  · have e1 := heap_setCell_same (w.drewN k) g 1 _ _ (.int .i64 (↑t + 1)) h
    have e2 := heap_setCell_same _ g 2 _ _ (.int .u64 V) e1
    rw [e2]
    rfl
theorem cur_drew {w w' : World} {g B n cp t k : Nat} {A : Option Addr} {zs : List Int} {row : Option Nat} (h : Cur w' g B A n cp zs t ∧ w.grownBy w' row) : Cur (w'.drewN k) g B A n cp zs t ∧ w.grownBy (w'.drewN k) row :=
  ⟨h.1, ⟨h.2.os, h.2.tape, h.2.output, h.2.size, h.2.block⟩⟩
theorem mask_bd (V : Int) (h : (Lit.int .u64 V).wf = true) : 0 ≤ wrap64 (bits BinOp.and IntKind.u64 (V / 1099511627776) 255) ∧ wrap64 (bits BinOp.and IntKind.u64 (V / 1099511627776) 255) ≤ 255 := by
  have hb := bounds_u64 h
  have e := u64_and_nat (V / 1099511627776).toNat 255 (by omega) (by omega)
  rw [Int.toNat_of_nonneg (by omega)] at e
  have hl := Nat.and_le_right (n := (V / 1099511627776).toNat) (m := 255)
  have e2 : bits BinOp.and IntKind.u64 (V / 1099511627776) 255 = (((V / 1099511627776).toNat &&& 255 : Nat) : Int) := e
  rw [e2, IntWalk.wrap64_in _ (by omega)]
  omega
set_option maxHeartbeats 1000000 in
theorem next_in (w : World) (g B : Nat) (A : Option Addr) (n cp : Nat) (zs : List Int) (t : Nat) (hz : ∀ z ∈ zs, 0 ≤ z ∧ z ≤ 255) (hc : Cur w g B A n cp zs t) (ht : t ≤ 1000000) (hn : n ≤ 1000000) (hlt : t < n) :
    Calls Try.prog 73 #[.pointer (some ⟨g, 0, none⟩)] w fun e w' => ∃ x : Int, e = .returned (.int .i64 x) ∧ 0 ≤ x ∧ x ≤ 255 ∧ Cur w' g B A n cp zs (t + 1) ∧ w.grownBy w' (some g) := by
  obtain ⟨hB, hr, sd, hsd, hb⟩ := hc
  obtain ⟨b, off, x, rfl, hbB, hu, hc0⟩ := hr.int_at hlt
  obtain ⟨k0, k1, k2, f1, f2⟩ := cells3 hb
  obtain ⟨hx0, hx1⟩ := hz x (List.mem_of_getElem? hu)
  have hne : b ≠ g := by omega
  go_enter Try.func73, Try.ntmps73
  go_wp2
  go_quiet (fail)
  go_wp2
  go_quiet (fail)
  go_wp2
  go_quiet (fail)
  go_wp2
  go_ret
  exact ⟨x, rfl, hx0, hx1, cur_drew (cur_next hB hr hb (wf_wrap _ _))⟩
set_option maxHeartbeats 1000000 in
theorem next_out (w : World) (g B : Nat) (A : Option Addr) (n cp : Nat) (zs : List Int) (t : Nat) (hc : Cur w g B A n cp zs t) (ht : t ≤ 1000000) (hn : n ≤ 1000000) (hlt : n ≤ t) :
    Calls Try.prog 73 #[.pointer (some ⟨g, 0, none⟩)] w fun e w' => ∃ x : Int, e = .returned (.int .i64 x) ∧ 0 ≤ x ∧ x ≤ 255 ∧ Cur w' g B A n cp zs (t + 1) ∧ w.grownBy w' (some g) := by
  obtain ⟨hB, hr, sd, hsd, hb⟩ := hc
  obtain ⟨k0, k1, k2, f1, f2⟩ := cells3 hb
  go_enter Try.func73, Try.ntmps73
  go_wp2
  go_quiet (fail)
  go_wp2
  go_quiet (fail)
  go_wp2
  go_ret
  obtain ⟨h1, h2⟩ := mask_bd _ (wf_wrap .u64 (IntKind.u64.wrap (IntKind.u64.wrap (sd * 6364136223846793005)) + 843843))
  exact ⟨_, rfl, h1, h2, cur_drew (cur_next hB hr hb (wf_wrap _ _))⟩
theorem next_any (w : World) (g B : Nat) (A : Option Addr) (n cp : Nat) (zs : List Int) (t : Nat) (hz : ∀ z ∈ zs, 0 ≤ z ∧ z ≤ 255) (hc : Cur w g B A n cp zs t) (ht : t ≤ 1000000) (hn : n ≤ 1000000) :
    Calls Try.prog 73 #[.pointer (some ⟨g, 0, none⟩)] w fun e w' => ∃ x : Int, e = .returned (.int .i64 x) ∧ 0 ≤ x ∧ x ≤ 255 ∧ Cur w' g B A n cp zs (t + 1) ∧ w.grownBy w' (some g) := by
  by_cases h : t < n
  · exact next_in w g B A n cp zs t hz hc ht hn h
  · exact next_out w g B A n cp zs t hc ht hn (by omega)
theorem grown_trans' {a b c : World} {row : Option Nat} (h : a.grownBy b row) (k : b.grownBy c row) : a.grownBy c row :=
  ⟨k.os.trans h.os, k.tape.trans h.tape, k.output.trans h.output, Nat.le_trans h.size k.size, fun i hi hne => (k.block i (Nat.lt_of_lt_of_le hi h.size) hne).trans (h.block i hi hne)⟩
set_option maxHeartbeats 1000000 in
theorem pick_any (w : World) (g B : Nat) (A : Option Addr) (n cp : Nat) (zs : List Int) (t : Nat) (hz : ∀ z ∈ zs, 0 ≤ z ∧ z ≤ 255) (hc : Cur w g B A n cp zs t) (ht : t ≤ 900000) (hn : n ≤ 1000000) (m : Int) (hm0 : 1 ≤ m) (hm : m ≤ 60000) :
    Calls Try.prog 48 #[.pointer (some ⟨g, 0, none⟩), .int .i64 m] w fun e w' => ∃ x : Int, e = .returned (.int .i64 x) ∧ 0 ≤ x ∧ x < m ∧ (∃ t', t' ≤ t + 2 ∧ Cur w' g B A n cp zs t') ∧ w.grownBy w' (some g) := by
  have HC := Lib.hid hc
  have HZ := Lib.hid hz
  clear hc hz
  by_cases h1 : m ≤ 1
  · go_enter Try.func48, Try.ntmps48
    go_wp2_with fail
    go_ret
    exact ⟨0, rfl, Int.le_refl _, by omega, ⟨t, by omega, HC.out⟩, World.grownBy.refl _ _⟩
  · by_cases h2 : m ≤ 200
    · go_enter Try.func48, Try.ntmps48
      go_wp2_with fail
      refine (next_any _ g B A n cp zs t HZ.out HC.out (by omega) hn).mono ?_
      rintro e w1 ⟨x, rfl, hx0, hx1, hc1, hg1⟩
      have hr1 := Int.emod_nonneg x (show m ≠ 0 by omega)
      have hr2 := Int.emod_lt_of_pos x (show 0 < m by omega)
      have HC1 := Lib.hid hc1
      have HG1 := Lib.hid hg1
      clear hc1 hg1
      go_wp2_with fail
      go_ret
      exact ⟨_, rfl, hr1, hr2, ⟨t + 1, by omega, HC1.out⟩, HG1.out⟩
    · go_enter Try.func48, Try.ntmps48
      go_wp2_with fail
      refine (next_any _ g B A n cp zs t HZ.out HC.out (by omega) hn).mono ?_
      rintro e w1 ⟨x, rfl, hx0, hx1, hc1, hg1⟩
      have HC1 := Lib.hid hc1
      have HG1 := Lib.hid hg1
      clear hc1 hg1
      go_wp2_with fail
      refine (next_any _ g B A n cp zs (t + 1) HZ.out HC1.out (by omega) hn).mono ?_
      rintro e w2 ⟨y, rfl, hy0, hy1, hc2, hg2⟩
      have HC2 := Lib.hid hc2
      have HG2 := Lib.hid (grown_trans' HG1.out hg2)
      have hr1 := Int.emod_nonneg (x * 256 + y) (show m ≠ 0 by omega)
      have hr2 := Int.emod_lt_of_pos (x * 256 + y) (show 0 < m by omega)
      clear hc2 hg2
      go_wp2_with fail
      go_ret
      exact ⟨_, rfl, hr1, hr2, ⟨t + 1 + 1, by omega, HC2.out⟩, HG2.out⟩
theorem Cur.lt {w : World} {g B n cp t : Nat} {A : Option Addr} {zs : List Int} (h : Cur w g B A n cp zs t) : g < w.heap.size := by
  obtain ⟨_, _, _, _, hb⟩ := h
  rcases Nat.lt_or_ge g w.heap.size with hl | hl
  · exact hl
  · rw [Array.getElem?_eq_none hl] at hb; cases hb
theorem Cur.grown {w w' : World} {g B n cp t : Nat} {A : Option Addr} {zs : List Int} {row : Option Nat} (h : Cur w g B A n cp zs t) (hg : w.grownBy w' row) (hr : ∀ r, row = some r → g < r) : Cur w' g B A n cp zs t := by
  have hlt := h.lt
  obtain ⟨hB, hrd, sd, hsd, hb⟩ := h
  refine ⟨hB, ?_, sd, hsd, ?_⟩
  · exact hrd.grown hg (by omega) (fun r e => by have := hr r e; omega)
  · rw [hg.block g hlt (fun e => by have := hr g e.symm; omega)]; exact hb
theorem Cur.alloc {w : World} {g B n cp t : Nat} {A : Option Addr} {zs : List Int} (h : Cur w g B A n cp zs t) (o : Obj) : Cur (w.alloc o) g B A n cp zs t :=
  h.grown (World.grownBy_alloc w o none) (fun r e => by cases e)
theorem Cur.below {w w' : World} {g B n cp t : Nat} {A : Option Addr} {zs : List Int} (h : Cur w g B A n cp zs t) (hb : Below w.heap.size w w') : Cur w' g B A n cp zs t :=
  h.grown (row := none) ⟨hb.os, hb.tape, hb.output, hb.size, fun k hk _ => hb.block k hk⟩ (fun r e => by cases e)
end Go.Proofs.Ytadpjkghfgnbbaa.Draw
