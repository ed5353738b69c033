/- What the draws of chapter 2 answer: owners, a guest, a count. -/
import Derived.Test.YtajjmgmjkjnlpaaAmong
import Derived.Test.YtajjmgmjkjnlpaaStep
import Derived.Test.YtajjmgmjkjnlpaaInts
import Derived.Deep.LoopGhost
namespace Go.Proofs.Ytajjmgmjkjnlpaa.Draw
open Go.RowKit Go.Proofs.Ytajjmgmjkjnlpaa.Mem Go.Proofs.Ytajjmgmjkjnlpaa.Own
set_option linter.unusedVariables false
/-- what is owned lies apart from the cursor -/
theorem own_cur {w w' : World} {b g n size : Nat} {e : TypeId} {v : Value} {xs : List Value} (h : w.ownsRow b e size v n xs) (hg : w.grownBy w' (some g)) (hb : g < b) : w'.ownsRow b e size v n xs := by
  refine h.kept hg ?_
  cases hv : v.ownBlock with
  | none => exact .inl rfl
  | some k =>
    right
    intro e
    have := (h.lt k hv).1
    have : k = g := by injection e
    omega
theorem grown_over {w a b : World} {g : Nat} {row : Option Nat} (h : w.grownBy a (some g)) (k : a.grownBy b row) (hr : ∀ r, row = some r → w.heap.size ≤ r) : w.grownBy b (some g) :=
  ⟨k.os.trans h.os, k.tape.trans h.tape, k.output.trans h.output, Nat.le_trans h.size k.size, fun i hi hne => (k.block i (Nat.lt_of_lt_of_le hi h.size) (fun e => by have := hr i e.symm; omega)).trans (h.block i hi hne)⟩
theorem guest_any (w : World) (g B : Nat) (A : Option Addr) (n cp : Nat) (zs : List Int) (t : Nat) (hz : ∀ z ∈ zs, 0 ≤ z ∧ z ≤ 255) (hc : Cur w g B A n cp zs t) (ht : t ≤ 800000) (hn : n ≤ 1000000) :
    Calls Try.prog 61 #[.pointer (some ⟨g, 0, none⟩)] w fun e w' => ∃ x, e = .returned (.int .i64 x) ∧ (∃ t', t' ≤ t + 2 ∧ Cur w' g B A n cp zs t') ∧ w.grownBy w' (some g) := by
  have HA := Lib.hid (among_list w g B A n cp zs t hz hc (by omega) hn [1, 1, 2, 2, 3, 4, 1, 2, 0, 5, -1, 3] _ rfl 3 12 rfl (by omega) (by omega))
  clear hz hc
  go_enter Try.func61, Try.ntmps61
  go_wp2_with fail
  refine HA.out.mono ?_
  rintro e w1 ⟨x, rfl, _, hc1, hg1⟩
  have HC1 := Lib.hid hc1
  have HG1 := Lib.hid hg1
  clear hc1 hg1 HA
  go_wp2_with fail
  go_ret
  exact ⟨x, rfl, HC1.out, HG1.out⟩
set_option maxHeartbeats 2000000 in
theorem owners_any (w : World) (g B : Nat) (A : Option Addr) (n cp : Nat) (zs : List Int) (t : Nat) (hz : ∀ z ∈ zs, 0 ≤ z ∧ z ≤ 255) (hc : Cur w g B A n cp zs t) (ht : t ≤ 700000) (hn : n ≤ 1000000) :
    Calls Try.prog 60 #[.pointer (some ⟨g, 0, none⟩)] w fun e w' => ∃ (v : Value) (L : List Int), e = .returned v ∧ L.length ≤ 17 ∧ w'.ownsRow w.heap.size 3 1 v L.length (I L) ∧ (∃ t', t' ≤ t + 100 ∧ Cur w' g B A n cp zs t') ∧ w.grownBy w' (some g) := by
  obtain ⟨i0, hi, hz0, hz1, hz2⟩ := info_parts intInfo
  have HZ := Lib.hid hz
  have hgl := hc.lt
  have HC := Lib.hid (hc.alloc (.cells #[] 3))
  have hown0 : (w.alloc (.cells #[] 3)).ownsRow w.heap.size 3 1 (.slice (some ⟨w.heap.size, 0, none⟩) 0 0) 0 [] := World.ownsRow_made w #[] 0 (Nat.le_refl _) (Nat.zero_le _) rfl
  have HO0 := Lib.hid hown0
  have HG0 := Lib.hid (World.grownBy_alloc w (.cells #[] 3) (some g))
  clear hz hc hown0
  go_enter Try.func60, Try.ntmps60
  go_wp2_with fail
  refine (pick_any _ g B A n cp zs t HZ.out HC.out (by omega) hn 16 (by omega) (by omega)).mono ?_
  rintro e w1 ⟨x, rfl, hx0, hx1, ⟨t1, ht1, hc1⟩, hg1⟩
  obtain ⟨m, rfl⟩ : ∃ m : Nat, x = m := ⟨x.toNat, by omega⟩
  have hown1 := own_cur HO0.out hg1 hgl
  have hgr1 := grown_trans' HG0.out hg1
  clear HC HO0 HG0 hg1
  go_wp2_with fail
  go_loopw [3, 4] (fun v i wr => ∃ (k : Nat) (L : List Int) (t' : Nat), i = .int .i64 k ∧ k + L.length = m + 1 ∧ t' + 2 * k ≤ t + 34 ∧ wr.ownsRow w.heap.size 3 1 v L.length (I L) ∧ Hid (Cur wr g B A n cp zs t') ∧ w.grownBy wr (some g)) (fun _ i _ => (intOf i).toNat)
  case atStart => exact ⟨m + 1, [], t1, by go_num, by simp, by omega, hown1, Lib.hid hc1, hgr1⟩
  case round =>
    clear hown1 hgr1 hc1
    obtain ⟨k, L, t', rfl, hk, ht', hown, HC, hgr⟩ := hrel
    have hsz := hgr.size
    by_cases h0 : 0 < k
    · have HA := Lib.hid (among_list wr g B A n cp zs t' HZ.out HC.out (by omega) hn [0, 0, 0, 1, 1, 2, 3, 4] _ rfl 3 8 rfl (by omega) (by omega))
      go_wp2_with fail
      refine HA.out.mono ?_
      rintro e w2 ⟨x, rfl, _, ⟨t2, ht2, hc2⟩, hg2⟩
      have hown2 := own_cur hown hg2 hgl
      have hgr2 := grown_trans' hgr hg2
      have hsz2 := hgr2.size
      have HC2 := Lib.hid hc2
      clear HA hown hgr hg2 hc2 HC
      go_wp2_with (at_builtin; refine wpList_append_own _ rfl _ _ 24 rfl w.heap.size 3 i0 (.int .i64 0) 1 8 Try.underlying24 hi hz0 hz1 hz2 rfl (by decide) _ _ _ rfl (hown2.alloc _) ⟨w2.heap.size, 0, none⟩ 1 1 [.int .i64 x] rfl rfl (cell_one_new _ _ _) (fun x hx => by simp at hx; subst hx; rfl) (by unfold maxLen; omega) (by omega) (by simp; omega) ?_; intro v' w3 hown3 hgrow3 _)
      have hc3 : Cur w3 g B A n cp zs t2 := (HC2.out.alloc _).grown hgrow3 (fun r hr => Nat.lt_of_lt_of_le hgl (hown2.lt r hr).1)
      have hgr3 : w.grownBy w3 (some g) := grown_over (grown_trans' hgr2 (World.grownBy_alloc w2 _ (some g))) hgrow3 (fun r hr => (hown2.lt r hr).1)
      go_roundw
      case rel => exact ⟨k - 1, L ++ [x], t2, by go_num, by simp; omega, by omega, by simpa [I] using hown3, Lib.hid hc3, hgr3⟩
      case measure => simp [intOf]; omega
    · have hkz : k = 0 := by omega
      subst hkz
      have hL1 : 1 ≤ L.length := by omega
      have hL2 : L.length ≤ 16 := by omega
      go_wp2_with fail
      refine (pick_any _ g B A n cp zs t' HZ.out HC.out (by omega) hn 24 (by omega) (by omega)).mono ?_
      rintro e w2 ⟨x, rfl, hx0, hx1, ⟨t2, ht2, hc2⟩, hg2⟩
      have hown2 := own_cur hown hg2 hgl
      have hgr2 := grown_trans' hgr hg2
      have hsz2 := hgr2.size
      have HC2 := Lib.hid hc2
      clear hown hgr hg2 hc2 HC
      by_cases e0 : x = 0
      · subst e0
        obtain ⟨A1, c1, rfl, _, _⟩ := own_form hown2
        obtain ⟨g1, rfl⟩ := own_head hown2 (by omega)
        go_wp2_with fail
        refine (pick_any _ g B A n cp zs t2 HZ.out HC2.out (by omega) hn L.length (by omega) (by omega)).mono ?_
        rintro e w3 ⟨y, rfl, hy0, hy1, ⟨t3, ht3, hc3⟩, hg3⟩
        obtain ⟨j, rfl⟩ : ∃ j : Nat, y = j := ⟨y.toNat, by omega⟩
        have hown3 := own_cur hown2 hg3 hgl
        have hgr3 := grown_trans' hgr2 hg3
        have hsz3 := hgr3.size
        have HA := Lib.hid (among_list w3 g B A n cp zs t3 HZ.out hc3 (by omega) hn [-1, 5] _ rfl 3 2 rfl (by omega) (by omega))
        clear hown2 hgr2 hg3 hc3 HC2
        go_wp2_with fail
        refine HA.out.mono ?_
        rintro e w4 ⟨z, rfl, _, ⟨t4, ht4, hc4⟩, hg4⟩
        have hown4 := own_cur hown3 hg4 hgl
        have hgr4 := grown_trans' hgr3 hg4
        have hsz4 := hgr4.size
        have hst := hown4.stored j (.int .i64 z)
        have hst1 := Lib.hid hst.1
        have hfz := hown4.frozenAt j
        obtain ⟨u, hu⟩ : ∃ u, w4.cell? ⟨g1, j, none⟩ = some u := ⟨_, (hown4.cellAt j (by omega)).trans (I_at (List.getElem?_eq_getElem (by omega)))⟩
        have hg1 := (hown4.lt g1 rfl).1
        have hrow : ∀ r, some g1 = some r → w.heap.size ≤ r := fun r hr => by cases hr; exact hg1
        have HC5 := Lib.hid (hc4.grown hst.2 (fun r hr => Nat.lt_of_lt_of_le hgl (hrow r hr)))
        have HG5 := Lib.hid (grown_over hgr4 hst.2 hrow)
        clear hrow
        have hyL : (j : Int) < L.length := by omega
        clear hst hown3 hown4 hgr3 hgr4 hg4 hc4 HA
        go_wp2_with fail
        go_ret
        have hx1 := hst1.out
        rw [I_set] at hx1
        exact ⟨_, L.set j z, rfl, by rw [List.length_set]; omega, by rw [List.length_set]; exact hx1, ⟨t4, by omega, HC5.out⟩, HG5.out⟩
      by_cases e1 : x = 1
      · subst e1
        have hx : (w2.alloc (.cells #[] 3)).ownsRow w.heap.size 3 1 (.slice (some ⟨w2.heap.size, 0, none⟩) 0 0) ([] : List Int).length (I []) := World.ownsRow_made w2 #[] 0 hsz2 (Nat.zero_le _) rfl
        have HX := Lib.hid hx
        have HC3 := Lib.hid (HC2.out.alloc (.cells #[] 3))
        have HG3 := Lib.hid (grown_trans' hgr2 (World.grownBy_alloc w2 (.cells #[] 3) (some g)))
        clear hx hown2 hgr2 HC2
        go_wp2_with fail
        go_ret
        exact ⟨_, [], rfl, by simp, HX.out, ⟨t2, by omega, HC3.out⟩, HG3.out⟩
      by_cases e2 : x = 2
      · subst e2
        go_wp2_with fail
        go_loopg [3] (17 - L.length) (fun gh v wr => ∃ (L' : List Int) (t' : Nat), L'.length + gh = 17 ∧ t' + 2 * gh ≤ t + 70 ∧ wr.ownsRow w.heap.size 3 1 v L'.length (I L') ∧ Hid (Cur wr g B A n cp zs t') ∧ w.grownBy wr (some g))
        case atStart => exact ⟨L, t2, by omega, by omega, hown2, HC2, hgr2⟩
        case round =>
          clear hown2 hgr2 HC2
          obtain ⟨L', t5, hL', ht5, hown5, HC5, hgr5⟩ := hrel
          have hsz5 := hgr5.size
          obtain ⟨A5, c5, rfl, _, _⟩ := own_form hown5
          go_wp2_with fail
          refine (pick_any _ g B A n cp zs t5 HZ.out HC5.out (by omega) hn 2 (by omega) (by omega)).mono ?_
          rintro e w2 ⟨y, rfl, hy0, hy1, ⟨t6, ht6, hc6⟩, hg6⟩
          have hown6 := own_cur hown5 hg6 hgl
          have hgr6 := grown_trans' hgr5 hg6
          have hsz6 := hgr6.size
          have HC6 := Lib.hid hc6
          clear hown5 hgr5 hg6 hc6 HC5
          by_cases hlt : (L'.length : Int) < 16 + y
          · cases gk with
            | zero => omega
            | succ g' =>
              go_wp2_with (at_builtin; refine wpList_append_own _ rfl _ _ 24 rfl w.heap.size 3 i0 (.int .i64 0) 1 8 Try.underlying24 hi hz0 hz1 hz2 rfl (by decide) _ _ _ rfl (hown6.alloc _) ⟨w2.heap.size, 0, none⟩ 1 1 [.int .i64 0] rfl rfl (cell_one_new _ _ _) (fun x hx => by simp at hx; subst hx; rfl) (by unfold maxLen; omega) (by omega) (by simp; omega) ?_; intro v' w3 hown3 hgrow3 _)
              have hc3 : Cur w3 g B A n cp zs t6 := (HC6.out.alloc _).grown hgrow3 (fun r hr => Nat.lt_of_lt_of_le hgl (hown6.lt r hr).1)
              have hgr3 : w.grownBy w3 (some g) := grown_over (grown_trans' hgr6 (World.grownBy_alloc w2 _ (some g))) hgrow3 (fun r hr => (hown6.lt r hr).1)
              go_roundg g'
              case measure => omega
              case rel => exact ⟨L' ++ [0], t6, by simp; omega, by omega, by simpa [I] using hown3, Lib.hid hc3, hgr3⟩
          · go_wp2_with fail
            go_ret
            exact ⟨_, L', rfl, by omega, hown6, ⟨t6, by omega, HC6.out⟩, hgr6⟩
      have q0 : (x == 0) = false := by simpa using e0
      have q1 : (x == 1) = false := by simpa using e1
      have q2 : (x == 2) = false := by simpa using e2
      go_wp2_with fail
      go_ret
      exact ⟨_, L, rfl, by omega, hown2, ⟨t2, by omega, HC2.out⟩, hgr2⟩
end Go.Proofs.Ytajjmgmjkjnlpaa.Draw
