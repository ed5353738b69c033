/- What spec.l1Put answers where the number is not there. -/
import Derived.Test.YtadpjkghfgnbbaaStepA
import Derived.Test.YtadpjkghfgnbbaaBlk
import Derived.Test.YtadpjkghfgnbbaaReachQ
import Derived.Test.YtadpjkghfgnbbaaRow
import Derived.Test.YtadpjkghfgnbbaaInf
import Derived.Deep.Cut
namespace Go.Proofs.Ytadpjkghfgnbbaa.L3
open Go Go.RowKit Go.Proofs.Ytadpjkghfgnbbaa.Mem Go.Proofs.Ytadpjkghfgnbbaa.Own
set_option maxRecDepth 100000 in
set_option maxHeartbeats 4000000 in
theorem l1Put_at (go m c' base k : Nat) (L : List Int) (x : Int) (w : World) (hown : w.ownsRow base 3 1 (.slice (some ⟨go, 0, none⟩) m c') m (I L)) (hm : m ≤ 1048576) (hkm : k ≤ m) (ha : ∀ a z, a < k → L[a]? = some z → z < x) (hb : ∀ z, L[k]? = some z → x < z) :
    Calls Try.prog 72 #[.slice (some ⟨go, 0, none⟩) m c', .int .i64 x] w fun e w' => ∃ g c2, e = .returned (.slice (some ⟨g, 0, none⟩) (m + 1) c2) ∧ w'.ownsRow w.heap.size 3 1 (.slice (some ⟨g, 0, none⟩) (m + 1) c2) (m + 1) (I (L.take k ++ x :: L.drop k)) ∧ Below w.heap.size w w' := by
  obtain ⟨i0, hi, hz0, hz1, hz2⟩ := info_parts intInfo
  have HOQ0 := Lib.hid hown
  have HA := Lib.hid ha
  have HBX := Lib.hid hb
  have HL : Hid (L.length = m) := Lib.hid (by have h1 := hown.1; rw [I_len] at h1; omega)
  have hmc : m ≤ c' := by
    obtain ⟨_, _, e1, h3, _⟩ := own_form hown
    simp only [Value.slice.injEq, true_and] at e1
    omega
  obtain ⟨kk, hkk⟩ : ∃ kk, k = kk := ⟨_, rfl⟩
  clear hown ha hb
  go_enter Try.func72, Try.ntmps72
  go_wp2_with fail
  go_loop [5] (fun u5 => ∃ a : Nat, u5 = .int .i64 a ∧ a ≤ kk) (fun u5 => m - (intOf u5).toNat)
  case atStart => exact ⟨0, rfl, Nat.zero_le _⟩
  case round =>
    obtain ⟨a, rfl, hak⟩ := hrel
    by_cases hlt : a < kk
    · have ham : a < m := by omega
      obtain ⟨z, hz⟩ : ∃ z, L[a]? = some z := ⟨_, List.getElem?_eq_getElem (by rw [HL.out]; exact ham)⟩
      have c0 : w.cell? ⟨go, a, none⟩ = some (.int .i64 z) := (HOQ0.out.cellAt a (by omega)).trans (I_at hz)
      have hzx : z < x := HA.out a z (by omega) hz
      have hamz : (a : Int) < m := by omega
      clear hz hkk
      go_wp2_with fail
      go_round
      case rel => exact ⟨a + 1, by go_num, by omega⟩
      case measure => simp [intOf]; omega
    · have hae : a = k := by omega
      subst hae
      clear hkk hak hlt
      by_cases hlt : a < m
      · obtain ⟨z, hz⟩ : ∃ z, L[a]? = some z := ⟨_, List.getElem?_eq_getElem (by rw [HL.out]; exact hlt)⟩
        have c0 : w.cell? ⟨go, a, none⟩ = some (.int .i64 z) := (HOQ0.out.cellAt a (by omega)).trans (I_at hz)
        have hzx : x < z := HBX.out z hz
        have hzd : decide (z < x) = false := decide_eq_false (by omega)
        have hze : (z == x) = false := by simp; omega
        have hamz : (a : Int) < m := by omega
        clear hz hzx
        go_wp2_with fail
        clear hzd hze c0
        obtain ⟨k, hk⟩ : ∃ k, k = a := ⟨_, rfl⟩
        subst hk
        obtain ⟨V, hV⟩ : ∃ V, I L = V := ⟨_, rfl⟩
        have HV := Lib.hid hV
        have HV1 : Hid (∀ u ∈ V, u.oneCell' = true) := Lib.hid (by rw [← hV]; exact I_one _)
        have HOQ : Hid (w.ownsRow base 3 1 (.slice (some ⟨go, 0, none⟩) m c') m V) := Lib.hid (by rw [← hV]; exact HOQ0.out)
        have HIV1 : Hid ((Value.int .i64 x).oneCell' = true) := Lib.hid rfl
        have HPV : Hid (V.take k ++ [Value.int .i64 x] ++ V.drop k = I (L.take k ++ x :: L.drop k)) := Lib.hid (by rw [← hV]; simp [I, List.map_take, List.map_drop])
        have hkm1 : k + 1 + (m - k) = m + 1 := by omega
        have hkc : (k : Int) ≤ c' := by omega
        have hkmz : (k : Int) ≤ m := by omega
        obtain ⟨o2, hite, hoe⟩ : ∃ o2, (if c' = k then (some ⟨go, 0, none⟩ : Option Addr) else some ⟨go, k, none⟩) = some ⟨go, o2, none⟩ ∧ (c' = k ∨ o2 = k) := by
          by_cases h : c' = k
          · exact ⟨0, by rw [if_pos h], .inl h⟩
          · exact ⟨k, by rw [if_neg h], .inr rfl⟩
        have HOE := Lib.hid hoe
        clear hV hoe HOQ0
        have HEA : Hid ((w.drew.alloc (.cells #[] 3)).ownsRow w.heap.size 3 1 (.slice (some ⟨w.heap.size, 0, none⟩) 0 0) 0 []) := Lib.hid (World.ownsRow_made w.drew #[] 0 (Nat.le_refl _) (Nat.zero_le _) rfl)
        have HEB : Hid (((w.drew.alloc (.cells #[] 3)).alloc (.cells #[(Value.int .i64 x)] 3)).ownsRow w.heap.size 3 1 (.slice (some ⟨w.heap.size, 0, none⟩) 0 0) 0 []) := Lib.hid (HEA.out.alloc _)
        have HEC : Hid (((w.drew.alloc (.cells #[(Value.int .i64 x)] 3)).alloc (.cells #[] 3)).ownsRow w.heap.size 3 1 (.slice (some ⟨w.heap.size + 1, 0, none⟩) 0 0) 0 []) := Lib.hid (by have h := World.ownsRow_made (w.drew.alloc (.cells #[(Value.int .i64 x)] 3)) (e := 3) (size := 1) #[] 0 (base := w.heap.size) (alloc_le _ _) (Nat.zero_le _) rfl; rw [size1] at h; exact h)
        have HBA : Hid (Below w.heap.size w (w.drew.alloc (.cells #[] 3))) := Lib.hid (below_more (below_drew1 w) _)
        have HBB : Hid (Below w.heap.size w ((w.drew.alloc (.cells #[] 3)).alloc (.cells #[(Value.int .i64 x)] 3))) := Lib.hid (below_more HBA.out _)
        have HBC : Hid (Below w.heap.size w ((w.drew.alloc (.cells #[(Value.int .i64 x)] 3)).alloc (.cells #[] 3))) := Lib.hid (below_more (below_more (below_drew1 w) _) _)
        have HLB : Hid (((w.drew.alloc (.cells #[] 3)).alloc (.cells #[(Value.int .i64 x)] 3)).cell? ⟨w.heap.size + 1, 0, none⟩ = some (Value.int .i64 x)) := Lib.hid (by have h := (Blk.new (w.drew.alloc (.cells #[] 3)) #[(Value.int .i64 x)] 3).cell 0 _ rfl; rw [size1] at h; exact h)
        have HLC : Hid (((w.drew.alloc (.cells #[(Value.int .i64 x)] 3)).alloc (.cells #[] 3)).cell? ⟨w.heap.size, 0, none⟩ = some (Value.int .i64 x)) := Lib.hid (((Blk.new w.drew #[(Value.int .i64 x)] 3).alloc (.cells #[] 3)).cell 0 _ rfl)
        have HCE : Hid (∀ w2, Below w.heap.size w w2 → ∀ j u, V[j]? = some u → w2.cell? ⟨go, j, none⟩ = some u) := Lib.hid fun w2 hb j u hu => by
          have hjm : j < m := by have h1 := HOQ.out.1; have h2 := (List.getElem?_eq_some_iff.1 hu).1; omega
          rw [hb.cell (p := ⟨go, j, none⟩) (HOQ.out.lt go rfl).2]
          exact (HOQ.out.cellAt j (by omega)).trans hu
        have HVL : Hid (V.length = m) := Lib.hid (by have h1 := HOQ.out.1; omega)
        have HN1 : Hid (∀ w2, Below w.heap.size w w2 → (V.take k).length = k * 1 ∧ (∀ j u, (V.take k)[j]? = some u → w2.cell? ((⟨go, 0, none⟩ : Addr).add j) = some u) ∧ (∀ u ∈ V.take k, u.oneCell' = true)) := Lib.hid (by
          intro w2 hb
          refine ⟨by rw [List.length_take, HVL.out]; omega, ?_, fun u hu => HV1.out u (List.mem_of_mem_take hu)⟩
          intro j u hu
          rw [Go.WideShapes.add_plain, Nat.zero_add]
          rw [List.getElem?_take] at hu
          split at hu
          · exact HCE.out _ hb j u hu
          · cases hu)
        have HN2 : Hid (∀ w2, Below w.heap.size w w2 → (V.drop k).length = (m - k) * 1 ∧ (∀ j u, (V.drop k)[j]? = some u → w2.cell? ((⟨go, o2, none⟩ : Addr).add j) = some u) ∧ (∀ u ∈ V.drop k, u.oneCell' = true)) := Lib.hid (by
          intro w2 hb
          refine ⟨by rw [List.length_drop, HVL.out]; omega, ?_, fun u hu => HV1.out u (List.mem_of_mem_drop hu)⟩
          intro j u hu
          rw [Go.WideShapes.add_plain]
          rw [List.getElem?_drop] at hu
          have hjl := (List.getElem?_eq_some_iff.1 hu).1
          rw [HVL.out] at hjl
          rcases HOE.out with h | h
          · omega
          · rw [h]; exact HCE.out _ hb _ u hu)
        go_region_law (first
          | (refine step_own rfl (.tmp 40) (.tmp 43) 39 rfl w.heap.size 3 i0 (.int .i64 0) 1 8 Try.underlying39 hi hz0 hz1 hz2 rfl (by decide) (.slice (some ⟨g4, 0, none⟩) (k + 1) c4) (k + 1) (V.take k ++ [(Value.int .i64 x)]) (by first | (simp [Act.eval]; done) | simp [Act.eval, Act.put]) hown4 (by simp) ⟨go, o2, none⟩ (m - k) (c' - k) (V.drop k) (by first | (simp [Act.eval]; done) | simp [Act.eval, Act.put]) (HN2.out _ hb4).1 (HN2.out _ hb4).2.1 (HN2.out _ hb4).2.2 (by unfold maxLen; omega) (by omega) hb4.size ?_; intro g5 c5 w4 hown5 hgrow5; have hb5 : Below w.heap.size w w4 := hb4.grown hgrow5 hb4.size (fun q hq => (hown4.lt q hq).1); rw [hkm1] at hown5 ⊢)
          | (refine step_own rfl (.tmp 37) (.tmp 39) 39 rfl w.heap.size 3 i0 (.int .i64 0) 1 8 Try.underlying39 hi hz0 hz1 hz2 rfl (by decide) (.slice (some ⟨g3, 0, none⟩) k c3) k (V.take k) (by first | (simp [Act.eval]; done) | simp [Act.eval, Act.put]) (hown3.alloc (.cells #[(Value.int .i64 x)] 3)) (by simp) ⟨w2.heap.size, 0, none⟩ 1 1 [(Value.int .i64 x)] (by simp [Act.eval]) rfl (cell_one_new _ _ _) (fun u hu => by rw [List.mem_singleton.1 hu]; exact HIV1.out) (by unfold maxLen; omega) (by omega) (below_more hb3 (.cells #[(Value.int .i64 x)] 3)).size ?_; intro g4 c4 w3 hown4 hgrow4; have hb4 : Below w.heap.size w w3 := (below_more hb3 (.cells #[(Value.int .i64 x)] 3)).grown hgrow4 (below_more hb3 (.cells #[(Value.int .i64 x)] 3)).size (fun q hq => (hown3.lt q hq).1))
          | (refine step_own rfl (.tmp 37) (.tmp 39) 39 rfl w.heap.size 3 i0 (.int .i64 0) 1 8 Try.underlying39 hi hz0 hz1 hz2 rfl (by decide) (.slice (some ⟨g3, 0, none⟩) k c3) k (V.take k) (by first | (simp [Act.eval]; done) | simp [Act.eval, Act.put]) hown3 (by simp) ⟨w.heap.size + 1, 0, none⟩ 1 1 [(Value.int .i64 x)] (by simp [Act.eval]) rfl (fun j u hu => by have hj : j = 0 := (by have h1 := (List.getElem?_eq_some_iff.1 hu).1; simp at h1; exact h1); subst hj; simp at hu; subst hu; exact hlit) (fun u hu => by rw [List.mem_singleton.1 hu]; exact HIV1.out) (by unfold maxLen; omega) (by omega) hb3.size ?_; intro g4 c4 w3 hown4 hgrow4; have hb4 : Below w.heap.size w w3 := hb3.grown hgrow4 hb3.size (fun q hq => (hown3.lt q hq).1))
          | (refine step_own rfl (.tmp 37) (.tmp 39) 39 rfl w.heap.size 3 i0 (.int .i64 0) 1 8 Try.underlying39 hi hz0 hz1 hz2 rfl (by decide) (.slice (some ⟨g3, 0, none⟩) k c3) k (V.take k) (by first | (simp [Act.eval]; done) | simp [Act.eval, Act.put]) hown3 (by simp) ⟨w.heap.size, 0, none⟩ 1 1 [(Value.int .i64 x)] (by simp [Act.eval]) rfl (fun j u hu => by have hj : j = 0 := (by have h1 := (List.getElem?_eq_some_iff.1 hu).1; simp at h1; exact h1); subst hj; simp at hu; subst hu; exact hlit) (fun u hu => by rw [List.mem_singleton.1 hu]; exact HIV1.out) (by unfold maxLen; omega) (by omega) hb3.size ?_; intro g4 c4 w3 hown4 hgrow4; have hb4 : Below w.heap.size w w3 := hb3.grown hgrow4 hb3.size (fun q hq => (hown3.lt q hq).1))
          | (refine step_own rfl (.tmp 33) (.tmp 36) 39 rfl w.heap.size 3 i0 (.int .i64 0) 1 8 Try.underlying39 hi hz0 hz1 hz2 rfl (by decide) (.slice (some ⟨w.heap.size, 0, none⟩) 0 0) 0 [] (by first | (simp [Act.eval]; done) | simp [Act.eval, Act.put]) HEA.out (by simp) ⟨go, 0, none⟩ k c' (V.take k) (by first | (simp [Act.eval]; done) | simp [Act.eval, Act.put]) (HN1.out _ HBA.out).1 (HN1.out _ HBA.out).2.1 (HN1.out _ HBA.out).2.2 (by unfold maxLen; omega) (by omega) HBA.out.size ?_; intro g3 c3 w2 hown3q hgrow3; have hown3 : w2.ownsRow w.heap.size 3 1 (.slice (some ⟨g3, 0, none⟩) k c3) k (V.take k) := (by simpa using hown3q); clear hown3q; rw [Nat.zero_add]; have hb3 : Below w.heap.size w w2 := HBA.out.grown hgrow3 HBA.out.size (fun q hq => (HEA.out.lt q hq).1))
          | (refine step_own rfl (.tmp 33) (.tmp 36) 39 rfl w.heap.size 3 i0 (.int .i64 0) 1 8 Try.underlying39 hi hz0 hz1 hz2 rfl (by decide) (.slice (some ⟨w.heap.size, 0, none⟩) 0 0) 0 [] (by first | (simp [Act.eval]; done) | simp [Act.eval, Act.put]) HEB.out (by simp) ⟨go, 0, none⟩ k c' (V.take k) (by first | (simp [Act.eval]; done) | simp [Act.eval, Act.put]) (HN1.out _ HBB.out).1 (HN1.out _ HBB.out).2.1 (HN1.out _ HBB.out).2.2 (by unfold maxLen; omega) (by omega) HBB.out.size ?_; intro g3 c3 w2 hown3q hgrow3; have hown3 : w2.ownsRow w.heap.size 3 1 (.slice (some ⟨g3, 0, none⟩) k c3) k (V.take k) := (by simpa using hown3q); clear hown3q; rw [Nat.zero_add]; have hb3 : Below w.heap.size w w2 := HBB.out.grown hgrow3 HBB.out.size (fun q hq => (HEB.out.lt q hq).1); have hgq : World.grownBy _ w2 (some w.heap.size) := hgrow3; have hlit : w2.cell? ⟨w.heap.size + 1, 0, none⟩ = some (Value.int .i64 x) := hgq.cell HLB.out (fun e => by simp at e))
          | (refine step_own rfl (.tmp 33) (.tmp 36) 39 rfl w.heap.size 3 i0 (.int .i64 0) 1 8 Try.underlying39 hi hz0 hz1 hz2 rfl (by decide) (.slice (some ⟨w.heap.size + 1, 0, none⟩) 0 0) 0 [] (by first | (simp [Act.eval]; done) | simp [Act.eval, Act.put]) HEC.out (by simp) ⟨go, 0, none⟩ k c' (V.take k) (by first | (simp [Act.eval]; done) | simp [Act.eval, Act.put]) (HN1.out _ HBC.out).1 (HN1.out _ HBC.out).2.1 (HN1.out _ HBC.out).2.2 (by unfold maxLen; omega) (by omega) HBC.out.size ?_; intro g3 c3 w2 hown3q hgrow3; have hown3 : w2.ownsRow w.heap.size 3 1 (.slice (some ⟨g3, 0, none⟩) k c3) k (V.take k) := (by simpa using hown3q); clear hown3q; rw [Nat.zero_add]; have hb3 : Below w.heap.size w w2 := HBC.out.grown hgrow3 HBC.out.size (fun q hq => (HEC.out.lt q hq).1); have hgq : World.grownBy _ w2 (some (w.heap.size + 1)) := hgrow3; have hlit : w2.cell? ⟨w.heap.size, 0, none⟩ = some (Value.int .i64 x) := hgq.cell HLC.out (fun e => by simp at e))
          | fail)
        all_goals
          have HF5 : Hid (w4.ownsRow w.heap.size 3 1 (.slice (some ⟨g5, 0, none⟩) (m + 1) c5) (m + 1) (I (L.take k ++ x :: L.drop k))) := Lib.hid (by rw [← HPV.out]; exact hown5)
          have HB5 := Lib.hid hb5
          clear hown5 hgrow5 hb5
          go_wp2_with fail
          go_ret
          exact ⟨g5, c5, rfl, HF5.out, HB5.out⟩
      · have hamz : ¬ ((a : Int) < m) := by omega
        have hd : decide ((a : Int) < m) = false := decide_eq_false hamz
        have hd2 : decide (a < m) = false := decide_eq_false hlt
        clear hamz
        go_wp2_with fail
        clear hd hd2
        obtain ⟨k, hk⟩ : ∃ k, k = a := ⟨_, rfl⟩
        subst hk
        obtain ⟨V, hV⟩ : ∃ V, I L = V := ⟨_, rfl⟩
        have HV := Lib.hid hV
        have HV1 : Hid (∀ u ∈ V, u.oneCell' = true) := Lib.hid (by rw [← hV]; exact I_one _)
        have HOQ : Hid (w.ownsRow base 3 1 (.slice (some ⟨go, 0, none⟩) m c') m V) := Lib.hid (by rw [← hV]; exact HOQ0.out)
        have HIV1 : Hid ((Value.int .i64 x).oneCell' = true) := Lib.hid rfl
        have HPV : Hid (V.take k ++ [Value.int .i64 x] ++ V.drop k = I (L.take k ++ x :: L.drop k)) := Lib.hid (by rw [← hV]; simp [I, List.map_take, List.map_drop])
        have hkm1 : k + 1 + (m - k) = m + 1 := by omega
        have hkc : (k : Int) ≤ c' := by omega
        have hkmz : (k : Int) ≤ m := by omega
        obtain ⟨o2, hite, hoe⟩ : ∃ o2, (if c' = k then (some ⟨go, 0, none⟩ : Option Addr) else some ⟨go, k, none⟩) = some ⟨go, o2, none⟩ ∧ (c' = k ∨ o2 = k) := by
          by_cases h : c' = k
          · exact ⟨0, by rw [if_pos h], .inl h⟩
          · exact ⟨k, by rw [if_neg h], .inr rfl⟩
        have HOE := Lib.hid hoe
        clear hV hoe HOQ0
        have HEA : Hid ((w.drew.alloc (.cells #[] 3)).ownsRow w.heap.size 3 1 (.slice (some ⟨w.heap.size, 0, none⟩) 0 0) 0 []) := Lib.hid (World.ownsRow_made w.drew #[] 0 (Nat.le_refl _) (Nat.zero_le _) rfl)
        have HEB : Hid (((w.drew.alloc (.cells #[] 3)).alloc (.cells #[(Value.int .i64 x)] 3)).ownsRow w.heap.size 3 1 (.slice (some ⟨w.heap.size, 0, none⟩) 0 0) 0 []) := Lib.hid (HEA.out.alloc _)
        have HEC : Hid (((w.drew.alloc (.cells #[(Value.int .i64 x)] 3)).alloc (.cells #[] 3)).ownsRow w.heap.size 3 1 (.slice (some ⟨w.heap.size + 1, 0, none⟩) 0 0) 0 []) := Lib.hid (by have h := World.ownsRow_made (w.drew.alloc (.cells #[(Value.int .i64 x)] 3)) (e := 3) (size := 1) #[] 0 (base := w.heap.size) (alloc_le _ _) (Nat.zero_le _) rfl; rw [size1] at h; exact h)
        have HBA : Hid (Below w.heap.size w (w.drew.alloc (.cells #[] 3))) := Lib.hid (below_more (below_drew1 w) _)
        have HBB : Hid (Below w.heap.size w ((w.drew.alloc (.cells #[] 3)).alloc (.cells #[(Value.int .i64 x)] 3))) := Lib.hid (below_more HBA.out _)
        have HBC : Hid (Below w.heap.size w ((w.drew.alloc (.cells #[(Value.int .i64 x)] 3)).alloc (.cells #[] 3))) := Lib.hid (below_more (below_more (below_drew1 w) _) _)
        have HLB : Hid (((w.drew.alloc (.cells #[] 3)).alloc (.cells #[(Value.int .i64 x)] 3)).cell? ⟨w.heap.size + 1, 0, none⟩ = some (Value.int .i64 x)) := Lib.hid (by have h := (Blk.new (w.drew.alloc (.cells #[] 3)) #[(Value.int .i64 x)] 3).cell 0 _ rfl; rw [size1] at h; exact h)
        have HLC : Hid (((w.drew.alloc (.cells #[(Value.int .i64 x)] 3)).alloc (.cells #[] 3)).cell? ⟨w.heap.size, 0, none⟩ = some (Value.int .i64 x)) := Lib.hid (((Blk.new w.drew #[(Value.int .i64 x)] 3).alloc (.cells #[] 3)).cell 0 _ rfl)
        have HCE : Hid (∀ w2, Below w.heap.size w w2 → ∀ j u, V[j]? = some u → w2.cell? ⟨go, j, none⟩ = some u) := Lib.hid fun w2 hb j u hu => by
          have hjm : j < m := by have h1 := HOQ.out.1; have h2 := (List.getElem?_eq_some_iff.1 hu).1; omega
          rw [hb.cell (p := ⟨go, j, none⟩) (HOQ.out.lt go rfl).2]
          exact (HOQ.out.cellAt j (by omega)).trans hu
        have HVL : Hid (V.length = m) := Lib.hid (by have h1 := HOQ.out.1; omega)
        have HN1 : Hid (∀ w2, Below w.heap.size w w2 → (V.take k).length = k * 1 ∧ (∀ j u, (V.take k)[j]? = some u → w2.cell? ((⟨go, 0, none⟩ : Addr).add j) = some u) ∧ (∀ u ∈ V.take k, u.oneCell' = true)) := Lib.hid (by
          intro w2 hb
          refine ⟨by rw [List.length_take, HVL.out]; omega, ?_, fun u hu => HV1.out u (List.mem_of_mem_take hu)⟩
          intro j u hu
          rw [Go.WideShapes.add_plain, Nat.zero_add]
          rw [List.getElem?_take] at hu
          split at hu
          · exact HCE.out _ hb j u hu
          · cases hu)
        have HN2 : Hid (∀ w2, Below w.heap.size w w2 → (V.drop k).length = (m - k) * 1 ∧ (∀ j u, (V.drop k)[j]? = some u → w2.cell? ((⟨go, o2, none⟩ : Addr).add j) = some u) ∧ (∀ u ∈ V.drop k, u.oneCell' = true)) := Lib.hid (by
          intro w2 hb
          refine ⟨by rw [List.length_drop, HVL.out]; omega, ?_, fun u hu => HV1.out u (List.mem_of_mem_drop hu)⟩
          intro j u hu
          rw [Go.WideShapes.add_plain]
          rw [List.getElem?_drop] at hu
          have hjl := (List.getElem?_eq_some_iff.1 hu).1
          rw [HVL.out] at hjl
          rcases HOE.out with h | h
          · omega
          · rw [h]; exact HCE.out _ hb _ u hu)
        go_region_law (first
          | (refine step_own rfl (.tmp 40) (.tmp 43) 39 rfl w.heap.size 3 i0 (.int .i64 0) 1 8 Try.underlying39 hi hz0 hz1 hz2 rfl (by decide) (.slice (some ⟨g4, 0, none⟩) (k + 1) c4) (k + 1) (V.take k ++ [(Value.int .i64 x)]) (by first | (simp [Act.eval]; done) | simp [Act.eval, Act.put]) hown4 (by simp) ⟨go, o2, none⟩ (m - k) (c' - k) (V.drop k) (by first | (simp [Act.eval]; done) | simp [Act.eval, Act.put]) (HN2.out _ hb4).1 (HN2.out _ hb4).2.1 (HN2.out _ hb4).2.2 (by unfold maxLen; omega) (by omega) hb4.size ?_; intro g5 c5 w4 hown5 hgrow5; have hb5 : Below w.heap.size w w4 := hb4.grown hgrow5 hb4.size (fun q hq => (hown4.lt q hq).1); rw [hkm1] at hown5 ⊢)
          | (refine step_own rfl (.tmp 37) (.tmp 39) 39 rfl w.heap.size 3 i0 (.int .i64 0) 1 8 Try.underlying39 hi hz0 hz1 hz2 rfl (by decide) (.slice (some ⟨g3, 0, none⟩) k c3) k (V.take k) (by first | (simp [Act.eval]; done) | simp [Act.eval, Act.put]) (hown3.alloc (.cells #[(Value.int .i64 x)] 3)) (by simp) ⟨w2.heap.size, 0, none⟩ 1 1 [(Value.int .i64 x)] (by simp [Act.eval]) rfl (cell_one_new _ _ _) (fun u hu => by rw [List.mem_singleton.1 hu]; exact HIV1.out) (by unfold maxLen; omega) (by omega) (below_more hb3 (.cells #[(Value.int .i64 x)] 3)).size ?_; intro g4 c4 w3 hown4 hgrow4; have hb4 : Below w.heap.size w w3 := (below_more hb3 (.cells #[(Value.int .i64 x)] 3)).grown hgrow4 (below_more hb3 (.cells #[(Value.int .i64 x)] 3)).size (fun q hq => (hown3.lt q hq).1))
          | (refine step_own rfl (.tmp 37) (.tmp 39) 39 rfl w.heap.size 3 i0 (.int .i64 0) 1 8 Try.underlying39 hi hz0 hz1 hz2 rfl (by decide) (.slice (some ⟨g3, 0, none⟩) k c3) k (V.take k) (by first | (simp [Act.eval]; done) | simp [Act.eval, Act.put]) hown3 (by simp) ⟨w.heap.size + 1, 0, none⟩ 1 1 [(Value.int .i64 x)] (by simp [Act.eval]) rfl (fun j u hu => by have hj : j = 0 := (by have h1 := (List.getElem?_eq_some_iff.1 hu).1; simp at h1; exact h1); subst hj; simp at hu; subst hu; exact hlit) (fun u hu => by rw [List.mem_singleton.1 hu]; exact HIV1.out) (by unfold maxLen; omega) (by omega) hb3.size ?_; intro g4 c4 w3 hown4 hgrow4; have hb4 : Below w.heap.size w w3 := hb3.grown hgrow4 hb3.size (fun q hq => (hown3.lt q hq).1))
          | (refine step_own rfl (.tmp 37) (.tmp 39) 39 rfl w.heap.size 3 i0 (.int .i64 0) 1 8 Try.underlying39 hi hz0 hz1 hz2 rfl (by decide) (.slice (some ⟨g3, 0, none⟩) k c3) k (V.take k) (by first | (simp [Act.eval]; done) | simp [Act.eval, Act.put]) hown3 (by simp) ⟨w.heap.size, 0, none⟩ 1 1 [(Value.int .i64 x)] (by simp [Act.eval]) rfl (fun j u hu => by have hj : j = 0 := (by have h1 := (List.getElem?_eq_some_iff.1 hu).1; simp at h1; exact h1); subst hj; simp at hu; subst hu; exact hlit) (fun u hu => by rw [List.mem_singleton.1 hu]; exact HIV1.out) (by unfold maxLen; omega) (by omega) hb3.size ?_; intro g4 c4 w3 hown4 hgrow4; have hb4 : Below w.heap.size w w3 := hb3.grown hgrow4 hb3.size (fun q hq => (hown3.lt q hq).1))
          | (refine step_own rfl (.tmp 33) (.tmp 36) 39 rfl w.heap.size 3 i0 (.int .i64 0) 1 8 Try.underlying39 hi hz0 hz1 hz2 rfl (by decide) (.slice (some ⟨w.heap.size, 0, none⟩) 0 0) 0 [] (by first | (simp [Act.eval]; done) | simp [Act.eval, Act.put]) HEA.out (by simp) ⟨go, 0, none⟩ k c' (V.take k) (by first | (simp [Act.eval]; done) | simp [Act.eval, Act.put]) (HN1.out _ HBA.out).1 (HN1.out _ HBA.out).2.1 (HN1.out _ HBA.out).2.2 (by unfold maxLen; omega) (by omega) HBA.out.size ?_; intro g3 c3 w2 hown3q hgrow3; have hown3 : w2.ownsRow w.heap.size 3 1 (.slice (some ⟨g3, 0, none⟩) k c3) k (V.take k) := (by simpa using hown3q); clear hown3q; rw [Nat.zero_add]; have hb3 : Below w.heap.size w w2 := HBA.out.grown hgrow3 HBA.out.size (fun q hq => (HEA.out.lt q hq).1))
          | (refine step_own rfl (.tmp 33) (.tmp 36) 39 rfl w.heap.size 3 i0 (.int .i64 0) 1 8 Try.underlying39 hi hz0 hz1 hz2 rfl (by decide) (.slice (some ⟨w.heap.size, 0, none⟩) 0 0) 0 [] (by first | (simp [Act.eval]; done) | simp [Act.eval, Act.put]) HEB.out (by simp) ⟨go, 0, none⟩ k c' (V.take k) (by first | (simp [Act.eval]; done) | simp [Act.eval, Act.put]) (HN1.out _ HBB.out).1 (HN1.out _ HBB.out).2.1 (HN1.out _ HBB.out).2.2 (by unfold maxLen; omega) (by omega) HBB.out.size ?_; intro g3 c3 w2 hown3q hgrow3; have hown3 : w2.ownsRow w.heap.size 3 1 (.slice (some ⟨g3, 0, none⟩) k c3) k (V.take k) := (by simpa using hown3q); clear hown3q; rw [Nat.zero_add]; have hb3 : Below w.heap.size w w2 := HBB.out.grown hgrow3 HBB.out.size (fun q hq => (HEB.out.lt q hq).1); have hgq : World.grownBy _ w2 (some w.heap.size) := hgrow3; have hlit : w2.cell? ⟨w.heap.size + 1, 0, none⟩ = some (Value.int .i64 x) := hgq.cell HLB.out (fun e => by simp at e))
          | (refine step_own rfl (.tmp 33) (.tmp 36) 39 rfl w.heap.size 3 i0 (.int .i64 0) 1 8 Try.underlying39 hi hz0 hz1 hz2 rfl (by decide) (.slice (some ⟨w.heap.size + 1, 0, none⟩) 0 0) 0 [] (by first | (simp [Act.eval]; done) | simp [Act.eval, Act.put]) HEC.out (by simp) ⟨go, 0, none⟩ k c' (V.take k) (by first | (simp [Act.eval]; done) | simp [Act.eval, Act.put]) (HN1.out _ HBC.out).1 (HN1.out _ HBC.out).2.1 (HN1.out _ HBC.out).2.2 (by unfold maxLen; omega) (by omega) HBC.out.size ?_; intro g3 c3 w2 hown3q hgrow3; have hown3 : w2.ownsRow w.heap.size 3 1 (.slice (some ⟨g3, 0, none⟩) k c3) k (V.take k) := (by simpa using hown3q); clear hown3q; rw [Nat.zero_add]; have hb3 : Below w.heap.size w w2 := HBC.out.grown hgrow3 HBC.out.size (fun q hq => (HEC.out.lt q hq).1); have hgq : World.grownBy _ w2 (some (w.heap.size + 1)) := hgrow3; have hlit : w2.cell? ⟨w.heap.size, 0, none⟩ = some (Value.int .i64 x) := hgq.cell HLC.out (fun e => by simp at e))
          | fail)
        all_goals
          have HF5 : Hid (w4.ownsRow w.heap.size 3 1 (.slice (some ⟨g5, 0, none⟩) (m + 1) c5) (m + 1) (I (L.take k ++ x :: L.drop k))) := Lib.hid (by rw [← HPV.out]; exact hown5)
          have HB5 := Lib.hid hb5
          clear hown5 hgrow5 hb5
          go_wp2_with fail
          go_ret
          exact ⟨g5, c5, rfl, HF5.out, HB5.out⟩
end Go.Proofs.Ytadpjkghfgnbbaa.L3
