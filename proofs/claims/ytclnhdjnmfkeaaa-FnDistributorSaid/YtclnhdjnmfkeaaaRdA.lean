/- What spec.l6All answers. -/
import Derived.Test.YtclnhdjnmfkeaaaDstS
import Derived.Test.YtclnhdjnmfkeaaaStepA
import Derived.Test.YtclnhdjnmfkeaaaBlk
import Derived.Deep.Cut
namespace Go.Proofs.Ytclnhdjnmfkeaaa.L6
open Go Go.RowKit Go.Proofs.Ytclnhdjnmfkeaaa.Mem Go.Proofs.Ytclnhdjnmfkeaaa.Own
set_option maxRecDepth 100000 in
set_option maxHeartbeats 4000000 in
theorem l6All_any (A : Option Addr) (c : Nat) (xs : List Irq) (cpu : Int) (w : World) (hr : Reads w w.heap.size 5 A 8 (FL xs)) :
    Calls Try.prog 65 #[.slice A 8 c, .int .i64 cpu] w fun e w' => ∃ g c', e = .returned (.slice (some ⟨g, 0, none⟩) (rdy xs cpu 8).length c') ∧ w'.ownsRow w.heap.size 3 1 (.slice (some ⟨g, 0, none⟩) (rdy xs cpu 8).length c') (rdy xs cpu 8).length (I (ints (rdy xs cpu 8))) ∧ Below w.heap.size w w' := by
  obtain ⟨i0, hi, hz0, hz1, hz2⟩ := info_parts intInfo
  have HR := Lib.hid hr
  have HL : Hid (xs.length = 8) := Lib.hid (reads_len hr)
  have HO0 : Hid ((w.alloc (.cells #[] 3)).ownsRow w.heap.size 3 1 (.slice (some ⟨w.heap.size, 0, none⟩) 0 0) 0 []) := Lib.hid (World.ownsRow_made w #[] 0 (Nat.le_refl _) (Nat.zero_le _) rfl)
  clear hr
  go_enter Try.func65, Try.ntmps65
  go_wp2_with fail
  go_loopw [5, 6] (fun u5 ui wr => ∃ (i : Nat) (l : List Nat) (go c' : Nat), ui = .int .i64 i ∧ i ≤ 8 ∧ u5 = .slice (some ⟨go, 0, none⟩) l.length c' ∧ Hid (IsRd xs cpu i l) ∧ Hid (wr.ownsRow w.heap.size 3 1 (.slice (some ⟨go, 0, none⟩) l.length c') l.length (I (ints l))) ∧ Hid (Below w.heap.size w wr)) (fun _ ui _ => 8 - (intOf ui).toNat)
  case atStart => exact ⟨0, [], _, 0, rfl, Nat.zero_le _, rfl, Lib.hid ⟨List.Perm.refl _, List.Pairwise.nil⟩, HO0, Lib.hid (below_more (Below.refl _ _) _)⟩
  case round =>
    clear HO0
    obtain ⟨i, l, go, c', rfl, hi8, rfl, HI, HO, HB⟩ := hrel
    by_cases hlt : i < 8
    · obtain ⟨b1, o1, x, rfl, hbB, hu, c0, c1, c2, c3, c4⟩ := irq_at (HR.out.below HB.out) hlt
      have HU := Lib.hid hu
      obtain ⟨q, hq⟩ : ∃ q, rdyOwn x = q := ⟨_, rfl⟩
      have HQ := Lib.hid hq
      have HRQ : Hid (isRdy cpu (xs.getD i default) = (q && decide (x.tg = cpu))) := Lib.hid (by rw [getD_at HU.out, isRdy_split, HQ.out])
      have HPI : Hid (prio xs i = x.pr) := Lib.hid (by unfold prio; rw [getD_at HU.out])
      obtain ⟨x0, x1, x2, x3, x4⟩ := x
      simp only at c0 c1 c2 c3 c4
      clear hu hq
      go_wp2_with fail
      refine (l6Ready_c x0 x1 x2 x3 x4 q HQ.out _).mono ?_
      rintro e w3 ⟨rfl, hb3⟩
      have HB3 := Lib.hid (below_then HB.out hb3)
      have HO3 := Lib.hid (own_below HO.out hb3)
      replace c3 := (hb3.cell (p := ⟨b1, o1 + i * 5 + 3, none⟩) (Nat.lt_of_lt_of_le hbB HB.out.size)).trans c3
      replace c4 := (hb3.cell (p := ⟨b1, o1 + i * 5 + 4, none⟩) (Nat.lt_of_lt_of_le hbB HB.out.size)).trans c4
      clear hb3 HO HB c0 c1 c2
      cases q with
      | false =>
        have HS : Hid (IsRd xs cpu (i + 1) l) := Lib.hid (HI.out.skip (by rw [HRQ.out]; rfl))
        clear c3 c4
        go_wp2_with fail
        go_roundw
        case rel => exact ⟨i + 1, l, go, c', by go_num, by omega, rfl, HS, HO3, HB3⟩
        case measure => simp [intOf]; omega
      | true =>
        by_cases htg : x4 = cpu
        · have HRDY : Hid (isRdy cpu (xs.getD i default) = true) := Lib.hid (by rw [HRQ.out]; simp [htg])
          have htg2 := htg.symm
          subst htg2
          clear htg
          have hnn : (cpu != cpu) = false := by simp
          obtain ⟨m, hm⟩ : ∃ m, l.length = m := ⟨_, rfl⟩
          rw [hm] at HO3 ⊢
          have HM := Lib.hid hm
          have hlen := HI.out.len
          rw [hm] at hlen
          have hmc : m ≤ c' := by
            obtain ⟨_, _, e1, h3, _⟩ := own_form HO3.out
            simp only [Value.slice.injEq, true_and] at e1
            omega
          clear hm
          go_wp2_with fail
          obtain ⟨wo, rfl⟩ : ∃ wo, wo = w3 := ⟨_, rfl⟩
          go_loopw [7] (fun u7 wr => ∃ (k : Nat), u7 = .int .i64 k ∧ k ≤ m ∧ Hid (∀ a, k ≤ a → ∀ j, l[a]? = some j → prio xs i < prio xs j) ∧ Hid (Below wo.heap.size wo wr)) (fun u7 _ => (intOf u7).toNat)
          case atStart => exact ⟨m, rfl, Nat.le_refl _, Lib.hid (fun a ha j hj => by have h1 := (List.getElem?_eq_some_iff.1 hj).1; have h2 := HM.out; omega), Lib.hid (Below.refl _ _)⟩
          case round =>
            obtain ⟨k, rfl, hkm, HBE, HBW⟩ := hrel
            have HOUT := Lib.hid (own_below HO3.out HBW.out)
            have hbw3 := HB3.out.size
            replace c3 := (HBW.out.cell (p := ⟨b1, o1 + i * 5 + 3, none⟩) (Nat.lt_of_lt_of_le hbB hbw3)).trans c3
            have HIV1 : Hid ((Value.int .i64 (i : Int)).oneCell' = true) := Lib.hid rfl
            obtain ⟨V, hV⟩ : ∃ V, I (ints l) = V := ⟨_, rfl⟩
            have HV := Lib.hid hV
            have HV1 : Hid (∀ u ∈ V, u.oneCell' = true) := Lib.hid (by rw [← hV]; exact I_one _)
            rw [hV] at HOUT
            clear hV
            by_cases hk0 : k = 0
            · have HAH : Hid (∀ a, k = a + 1 → ∀ j, l[a]? = some j → prio xs j ≤ prio xs i) := Lib.hid (fun a ha => by omega)
              have hgd : decide ((0 : Nat) < k) = false := decide_eq_false (by omega)
              clear hk0
              go_wp2_with fail
              go_quiet (fail)
              clear hgd
              go_upto_region 9 with fail
              obtain ⟨wq, hwq⟩ : ∃ wq, wr.drewN nq = wq := ⟨_, rfl⟩
              rw [hwq]
              have HOQ : Hid (wq.ownsRow w.heap.size 3 1 (.slice (some ⟨go, 0, none⟩) m c') m V) := Lib.hid (by rw [← hwq]; exact HOUT.out)
              have HBQ : Hid (Below w.heap.size w wq) := Lib.hid (by rw [← hwq]; exact below_then HB3.out (below_then HBW.out ⟨rfl, rfl, rfl, Nat.le_refl _, fun _ _ => rfl⟩))
              clear hwq HOUT HBW HB3 HO3
              have HPUT : Hid (IsRd xs cpu (i + 1) (l.take k ++ i :: l.drop k)) := Lib.hid (HI.out.put HRDY.out (by have h2 := HM.out; omega) HAH.out HBE.out)
              have hput2 : V.take k ++ [(Value.int .i64 (i : Int))] ++ V.drop k = I (ints (l.take k ++ i :: l.drop k)) := by rw [← HV.out]; simp [I, ints, List.map_take, List.map_drop]
              have HPV := Lib.hid hput2
              have hkm1 : k + 1 + (m - k) = m + 1 := by omega
              have hkc : (k : Int) ≤ c' := by omega
              have hkmz : (k : Int) ≤ m := by omega
              obtain ⟨o2, hite, hoe⟩ : ∃ o2, (if c' = k then (some ⟨go, 0, none⟩ : Option Addr) else some ⟨go, k, none⟩) = some ⟨go, o2, none⟩ ∧ (c' = k ∨ o2 = k) := by
                by_cases h : c' = k
                · exact ⟨0, by rw [if_pos h], .inl h⟩
                · exact ⟨k, by rw [if_neg h], .inr rfl⟩
              have HOE := Lib.hid hoe
              clear hput2 hoe c3 c4
              have HEA : Hid ((wq.drew.alloc (.cells #[] 3)).ownsRow wq.heap.size 3 1 (.slice (some ⟨wq.heap.size, 0, none⟩) 0 0) 0 []) := Lib.hid (World.ownsRow_made wq.drew #[] 0 (Nat.le_refl _) (Nat.zero_le _) rfl)
              have HEB : Hid (((wq.drew.alloc (.cells #[] 3)).alloc (.cells #[(Value.int .i64 (i : Int))] 3)).ownsRow wq.heap.size 3 1 (.slice (some ⟨wq.heap.size, 0, none⟩) 0 0) 0 []) := Lib.hid (HEA.out.alloc _)
              have HEC : Hid (((wq.drew.alloc (.cells #[(Value.int .i64 (i : Int))] 3)).alloc (.cells #[] 3)).ownsRow wq.heap.size 3 1 (.slice (some ⟨wq.heap.size + 1, 0, none⟩) 0 0) 0 []) := Lib.hid (by have h := World.ownsRow_made (wq.drew.alloc (.cells #[(Value.int .i64 (i : Int))] 3)) (e := 3) (size := 1) #[] 0 (base := wq.heap.size) (alloc_le _ _) (Nat.zero_le _) rfl; rw [size1] at h; exact h)
              have HBA : Hid (Below wq.heap.size wq (wq.drew.alloc (.cells #[] 3))) := Lib.hid (below_more (below_drew1 wq) _)
              have HBB : Hid (Below wq.heap.size wq ((wq.drew.alloc (.cells #[] 3)).alloc (.cells #[(Value.int .i64 (i : Int))] 3))) := Lib.hid (below_more HBA.out _)
              have HBC : Hid (Below wq.heap.size wq ((wq.drew.alloc (.cells #[(Value.int .i64 (i : Int))] 3)).alloc (.cells #[] 3))) := Lib.hid (below_more (below_more (below_drew1 wq) _) _)
              have HLB : Hid (((wq.drew.alloc (.cells #[] 3)).alloc (.cells #[(Value.int .i64 (i : Int))] 3)).cell? ⟨wq.heap.size + 1, 0, none⟩ = some (Value.int .i64 (i : Int))) := Lib.hid (by have h := (Blk.new (wq.drew.alloc (.cells #[] 3)) #[(Value.int .i64 (i : Int))] 3).cell 0 _ rfl; rw [size1] at h; exact h)
              have HLC : Hid (((wq.drew.alloc (.cells #[(Value.int .i64 (i : Int))] 3)).alloc (.cells #[] 3)).cell? ⟨wq.heap.size, 0, none⟩ = some (Value.int .i64 (i : Int))) := Lib.hid (((Blk.new wq.drew #[(Value.int .i64 (i : Int))] 3).alloc (.cells #[] 3)).cell 0 _ rfl)
              have HCE : Hid (∀ w2, Below wq.heap.size wq w2 → ∀ j u, V[j]? = some u → w2.cell? ⟨go, j, none⟩ = some u) := Lib.hid fun w2 hb j u hu => by
                have hjm : j < m := by have h1 := HOQ.out.1; have h2 := (List.getElem?_eq_some_iff.1 hu).1; omega
                rw [hb.cell (p := ⟨go, j, none⟩) (HOQ.out.lt go rfl).2]
                exact (HOQ.out.cellAt j (by omega)).trans hu
              have HVL : Hid (V.length = m) := Lib.hid (by have h1 := HOQ.out.1; omega)
              have HN1 : Hid (∀ w2, Below wq.heap.size wq w2 → (V.take k).length = k * 1 ∧ (∀ j u, (V.take k)[j]? = some u → w2.cell? ((⟨go, 0, none⟩ : Addr).add j) = some u) ∧ (∀ u ∈ V.take k, u.oneCell' = true)) := Lib.hid (by
                intro w2 hb
                refine ⟨by rw [List.length_take, HVL.out]; omega, ?_, fun u hu => HV1.out u (List.mem_of_mem_take hu)⟩
                intro j u hu
                rw [Go.WideShapes.add_plain, Nat.zero_add]
                rw [List.getElem?_take] at hu
                split at hu
                · exact HCE.out _ hb j u hu
                · cases hu)
              have HN2 : Hid (∀ w2, Below wq.heap.size wq w2 → (V.drop k).length = (m - k) * 1 ∧ (∀ j u, (V.drop k)[j]? = some u → w2.cell? ((⟨go, o2, none⟩ : Addr).add j) = some u) ∧ (∀ u ∈ V.drop k, u.oneCell' = true)) := Lib.hid (by
                intro w2 hb
                refine ⟨by rw [List.length_drop, HVL.out]; omega, ?_, fun u hu => HV1.out u (List.mem_of_mem_drop hu)⟩
                intro j u hu
                rw [Go.WideShapes.add_plain]
                rw [List.getElem?_drop] at hu
                have hjl := (List.getElem?_eq_some_iff.1 hu).1
                rw [HVL.out] at hjl
                rcases HOE.out with h | h
                · omega
                · rw [h]; exact HCE.out _ hb _ u hu)
              go_region_law (first
                | (refine step_own rfl (.tmp 60) (.tmp 63) 35 rfl wq.heap.size 3 i0 (.int .i64 0) 1 8 Try.underlying35 hi hz0 hz1 hz2 rfl (by decide) (.slice (some ⟨g4, 0, none⟩) (k + 1) c4) (k + 1) (V.take k ++ [(Value.int .i64 (i : Int))]) (by first | (simp [Act.eval]; done) | simp [Act.eval, Act.put]) hown4 (by simp) ⟨go, o2, none⟩ (m - k) (c' - k) (V.drop k) (by first | (simp [Act.eval]; done) | simp [Act.eval, Act.put]) (HN2.out _ hb4).1 (HN2.out _ hb4).2.1 (HN2.out _ hb4).2.2 (by unfold maxLen; omega) (by omega) hb4.size ?_; intro g5 c5 w4 hown5 hgrow5; have hb5 : Below wq.heap.size wq w4 := hb4.grown hgrow5 hb4.size (fun q hq => (hown4.lt q hq).1); rw [hkm1] at hown5 ⊢)
                | (refine step_own rfl (.tmp 57) (.tmp 59) 35 rfl wq.heap.size 3 i0 (.int .i64 0) 1 8 Try.underlying35 hi hz0 hz1 hz2 rfl (by decide) (.slice (some ⟨g3, 0, none⟩) k c3) k (V.take k) (by first | (simp [Act.eval]; done) | simp [Act.eval, Act.put]) (hown3.alloc (.cells #[(Value.int .i64 (i : Int))] 3)) (by simp) ⟨w2.heap.size, 0, none⟩ 1 1 [(Value.int .i64 (i : Int))] (by simp [Act.eval]) rfl (cell_one_new _ _ _) (fun u hu => by rw [List.mem_singleton.1 hu]; exact HIV1.out) (by unfold maxLen; omega) (by omega) (below_more hb3 (.cells #[(Value.int .i64 (i : Int))] 3)).size ?_; intro g4 c4 w3 hown4 hgrow4; have hb4 : Below wq.heap.size wq w3 := (below_more hb3 (.cells #[(Value.int .i64 (i : Int))] 3)).grown hgrow4 (below_more hb3 (.cells #[(Value.int .i64 (i : Int))] 3)).size (fun q hq => (hown3.lt q hq).1))
                | (refine step_own rfl (.tmp 57) (.tmp 59) 35 rfl wq.heap.size 3 i0 (.int .i64 0) 1 8 Try.underlying35 hi hz0 hz1 hz2 rfl (by decide) (.slice (some ⟨g3, 0, none⟩) k c3) k (V.take k) (by first | (simp [Act.eval]; done) | simp [Act.eval, Act.put]) hown3 (by simp) ⟨wq.heap.size + 1, 0, none⟩ 1 1 [(Value.int .i64 (i : Int))] (by simp [Act.eval]) rfl (fun j u hu => by have hj : j = 0 := (by have h1 := (List.getElem?_eq_some_iff.1 hu).1; simp at h1; exact h1); subst hj; simp at hu; subst hu; exact hlit) (fun u hu => by rw [List.mem_singleton.1 hu]; exact HIV1.out) (by unfold maxLen; omega) (by omega) hb3.size ?_; intro g4 c4 w3 hown4 hgrow4; have hb4 : Below wq.heap.size wq w3 := hb3.grown hgrow4 hb3.size (fun q hq => (hown3.lt q hq).1))
                | (refine step_own rfl (.tmp 57) (.tmp 59) 35 rfl wq.heap.size 3 i0 (.int .i64 0) 1 8 Try.underlying35 hi hz0 hz1 hz2 rfl (by decide) (.slice (some ⟨g3, 0, none⟩) k c3) k (V.take k) (by first | (simp [Act.eval]; done) | simp [Act.eval, Act.put]) hown3 (by simp) ⟨wq.heap.size, 0, none⟩ 1 1 [(Value.int .i64 (i : Int))] (by simp [Act.eval]) rfl (fun j u hu => by have hj : j = 0 := (by have h1 := (List.getElem?_eq_some_iff.1 hu).1; simp at h1; exact h1); subst hj; simp at hu; subst hu; exact hlit) (fun u hu => by rw [List.mem_singleton.1 hu]; exact HIV1.out) (by unfold maxLen; omega) (by omega) hb3.size ?_; intro g4 c4 w3 hown4 hgrow4; have hb4 : Below wq.heap.size wq w3 := hb3.grown hgrow4 hb3.size (fun q hq => (hown3.lt q hq).1))
                | (refine step_own rfl (.tmp 53) (.tmp 56) 35 rfl wq.heap.size 3 i0 (.int .i64 0) 1 8 Try.underlying35 hi hz0 hz1 hz2 rfl (by decide) (.slice (some ⟨wq.heap.size, 0, none⟩) 0 0) 0 [] (by first | (simp [Act.eval]; done) | simp [Act.eval, Act.put]) HEA.out (by simp) ⟨go, 0, none⟩ k c' (V.take k) (by first | (simp [Act.eval]; done) | simp [Act.eval, Act.put]) (HN1.out _ HBA.out).1 (HN1.out _ HBA.out).2.1 (HN1.out _ HBA.out).2.2 (by unfold maxLen; omega) (by omega) HBA.out.size ?_; intro g3 c3 w2 hown3q hgrow3; have hown3 : w2.ownsRow wq.heap.size 3 1 (.slice (some ⟨g3, 0, none⟩) k c3) k (V.take k) := (by simpa using hown3q); clear hown3q; rw [Nat.zero_add]; have hb3 : Below wq.heap.size wq w2 := HBA.out.grown hgrow3 HBA.out.size (fun q hq => (HEA.out.lt q hq).1))
                | (refine step_own rfl (.tmp 53) (.tmp 56) 35 rfl wq.heap.size 3 i0 (.int .i64 0) 1 8 Try.underlying35 hi hz0 hz1 hz2 rfl (by decide) (.slice (some ⟨wq.heap.size, 0, none⟩) 0 0) 0 [] (by first | (simp [Act.eval]; done) | simp [Act.eval, Act.put]) HEB.out (by simp) ⟨go, 0, none⟩ k c' (V.take k) (by first | (simp [Act.eval]; done) | simp [Act.eval, Act.put]) (HN1.out _ HBB.out).1 (HN1.out _ HBB.out).2.1 (HN1.out _ HBB.out).2.2 (by unfold maxLen; omega) (by omega) HBB.out.size ?_; intro g3 c3 w2 hown3q hgrow3; have hown3 : w2.ownsRow wq.heap.size 3 1 (.slice (some ⟨g3, 0, none⟩) k c3) k (V.take k) := (by simpa using hown3q); clear hown3q; rw [Nat.zero_add]; have hb3 : Below wq.heap.size wq w2 := HBB.out.grown hgrow3 HBB.out.size (fun q hq => (HEB.out.lt q hq).1); have hgq : World.grownBy _ w2 (some wq.heap.size) := hgrow3; have hlit : w2.cell? ⟨wq.heap.size + 1, 0, none⟩ = some (Value.int .i64 (i : Int)) := hgq.cell HLB.out (fun e => by simp at e))
                | (refine step_own rfl (.tmp 53) (.tmp 56) 35 rfl wq.heap.size 3 i0 (.int .i64 0) 1 8 Try.underlying35 hi hz0 hz1 hz2 rfl (by decide) (.slice (some ⟨wq.heap.size + 1, 0, none⟩) 0 0) 0 [] (by first | (simp [Act.eval]; done) | simp [Act.eval, Act.put]) HEC.out (by simp) ⟨go, 0, none⟩ k c' (V.take k) (by first | (simp [Act.eval]; done) | simp [Act.eval, Act.put]) (HN1.out _ HBC.out).1 (HN1.out _ HBC.out).2.1 (HN1.out _ HBC.out).2.2 (by unfold maxLen; omega) (by omega) HBC.out.size ?_; intro g3 c3 w2 hown3q hgrow3; have hown3 : w2.ownsRow wq.heap.size 3 1 (.slice (some ⟨g3, 0, none⟩) k c3) k (V.take k) := (by simpa using hown3q); clear hown3q; rw [Nat.zero_add]; have hb3 : Below wq.heap.size wq w2 := HBC.out.grown hgrow3 HBC.out.size (fun q hq => (HEC.out.lt q hq).1); have hgq : World.grownBy _ w2 (some (wq.heap.size + 1)) := hgrow3; have hlit : w2.cell? ⟨wq.heap.size, 0, none⟩ = some (Value.int .i64 (i : Int)) := hgq.cell HLC.out (fun e => by simp at e))
                | fail)
              all_goals
                have HFL : Hid ((l.take k ++ i :: l.drop k).length = m + 1) := Lib.hid (by have h2 := HM.out; simp; omega)
                have HF5 : Hid (w4.ownsRow w.heap.size 3 1 (.slice (some ⟨g5, 0, none⟩) (l.take k ++ i :: l.drop k).length c5) (l.take k ++ i :: l.drop k).length (I (ints (l.take k ++ i :: l.drop k)))) := Lib.hid (by rw [← HPV.out, HFL.out]; exact own_mono hown5 HBQ.out.size)
                have HB5 := Lib.hid (below_then HBQ.out hb5)
                clear hown5 hgrow5 hb5
                go_wp2_with fail
                go_roundw
                case rel => exact ⟨i + 1, l.take k ++ i :: l.drop k, g5, c5, by go_num, by omega, by rw [HFL.out], HPUT, HF5, HB5⟩
                case measure => simp [intOf]; omega
            · obtain ⟨j, hj⟩ : ∃ j, k = j + 1 := ⟨k - 1, by omega⟩
              have hjm : j < l.length := by have h2 := HM.out; omega
              obtain ⟨y, hy⟩ : ∃ y, l[j]? = some y := ⟨_, List.getElem?_eq_getElem hjm⟩
              have hy8 : y < 8 := by have h1 := (HI.out.mem.1 (List.mem_of_getElem? hy)).1; omega
              have hyz : (y : Int) < 8 := by omega
              have e0 : wr.cell? ⟨go, j, none⟩ = some (.int .i64 (y : Int)) := (HOUT.out.cellAt j (by omega)).trans (by rw [← HV.out]; exact I_at (ints_at hy))
              obtain ⟨b9, o9, z, e9, _, hz, _, _, _, d3, _⟩ := irq_at (HR.out.below (below_then HB3.out HBW.out)) hy8
              simp only [Option.some.injEq, Addr.mk.injEq, and_true] at e9
              obtain ⟨rfl, rfl⟩ := e9
              have HPY : Hid (prio xs y = z.pr) := Lib.hid (by unfold prio; rw [getD_at hz])
              obtain ⟨z0, z1, z2, z3, z4⟩ := z
              simp only at d3
              have HY := Lib.hid hy
              have hgd : decide ((0 : Nat) < k) = true := decide_eq_true (by omega)
              have ew : IntKind.i64.wrap ((k : Int) - 1) = (j : Int) := by rw [IntWalk.i64_in _ (by omega)]; omega
              have hjz : (j : Int) < m := by omega
              clear hy hz hjm
              by_cases hp : x3 < z3
              · have hpd : decide (x3 < z3) = true := decide_eq_true hp
                have HBE2 : Hid (∀ a, j ≤ a → ∀ q, l[a]? = some q → prio xs i < prio xs q) := Lib.hid (fun a ha q hq => by
                  by_cases e : a = j
                  · subst e
                    rw [HY.out] at hq
                    injection hq with hq
                    subst hq
                    rw [HPI.out, HPY.out]
                    exact hp
                  · exact HBE.out a (by omega) q hq)
                have HJ := Lib.hid hj
                clear hj
                go_wp2_with fail
                go_quiet (fail)
                clear hgd hpd e0 d3 c3 c4
                go_wp2_with fail
                have hj := HJ.out
                go_roundw
                case rel => exact ⟨j, by first | rfl | rw [ew] | go_num, by omega, HBE2, Lib.hid (below_then HBW.out ⟨rfl, rfl, rfl, Nat.le_refl _, fun _ _ => rfl⟩)⟩
                case measure => simp [intOf]; omega
              · have hpd : decide (x3 < z3) = false := decide_eq_false hp
                have HAH : Hid (∀ a, k = a + 1 → ∀ q, l[a]? = some q → prio xs q ≤ prio xs i) := Lib.hid (fun a ha q hq => by
                  have e : a = j := by omega
                  subst e
                  rw [HY.out] at hq
                  injection hq with hq
                  subst hq
                  rw [HPI.out, HPY.out]
                  simp only
                  omega)
                clear hj hk0
                go_wp2_with fail
                go_quiet (fail)
                clear hgd hpd e0 d3 ew hjz
                go_upto_region 9 with fail
                obtain ⟨wq, hwq⟩ : ∃ wq, wr.drewN nq = wq := ⟨_, rfl⟩
                rw [hwq]
                have HOQ : Hid (wq.ownsRow w.heap.size 3 1 (.slice (some ⟨go, 0, none⟩) m c') m V) := Lib.hid (by rw [← hwq]; exact HOUT.out)
                have HBQ : Hid (Below w.heap.size w wq) := Lib.hid (by rw [← hwq]; exact below_then HB3.out (below_then HBW.out ⟨rfl, rfl, rfl, Nat.le_refl _, fun _ _ => rfl⟩))
                clear hwq HOUT HBW HB3 HO3
                have HPUT : Hid (IsRd xs cpu (i + 1) (l.take k ++ i :: l.drop k)) := Lib.hid (HI.out.put HRDY.out (by have h2 := HM.out; omega) HAH.out HBE.out)
                have hput2 : V.take k ++ [(Value.int .i64 (i : Int))] ++ V.drop k = I (ints (l.take k ++ i :: l.drop k)) := by rw [← HV.out]; simp [I, ints, List.map_take, List.map_drop]
                have HPV := Lib.hid hput2
                have hkm1 : k + 1 + (m - k) = m + 1 := by omega
                have hkc : (k : Int) ≤ c' := by omega
                have hkmz : (k : Int) ≤ m := by omega
                obtain ⟨o2, hite, hoe⟩ : ∃ o2, (if c' = k then (some ⟨go, 0, none⟩ : Option Addr) else some ⟨go, k, none⟩) = some ⟨go, o2, none⟩ ∧ (c' = k ∨ o2 = k) := by
                  by_cases h : c' = k
                  · exact ⟨0, by rw [if_pos h], .inl h⟩
                  · exact ⟨k, by rw [if_neg h], .inr rfl⟩
                have HOE := Lib.hid hoe
                clear hput2 hoe c3 c4
                have HEA : Hid ((wq.drew.alloc (.cells #[] 3)).ownsRow wq.heap.size 3 1 (.slice (some ⟨wq.heap.size, 0, none⟩) 0 0) 0 []) := Lib.hid (World.ownsRow_made wq.drew #[] 0 (Nat.le_refl _) (Nat.zero_le _) rfl)
                have HEB : Hid (((wq.drew.alloc (.cells #[] 3)).alloc (.cells #[(Value.int .i64 (i : Int))] 3)).ownsRow wq.heap.size 3 1 (.slice (some ⟨wq.heap.size, 0, none⟩) 0 0) 0 []) := Lib.hid (HEA.out.alloc _)
                have HEC : Hid (((wq.drew.alloc (.cells #[(Value.int .i64 (i : Int))] 3)).alloc (.cells #[] 3)).ownsRow wq.heap.size 3 1 (.slice (some ⟨wq.heap.size + 1, 0, none⟩) 0 0) 0 []) := Lib.hid (by have h := World.ownsRow_made (wq.drew.alloc (.cells #[(Value.int .i64 (i : Int))] 3)) (e := 3) (size := 1) #[] 0 (base := wq.heap.size) (alloc_le _ _) (Nat.zero_le _) rfl; rw [size1] at h; exact h)
                have HBA : Hid (Below wq.heap.size wq (wq.drew.alloc (.cells #[] 3))) := Lib.hid (below_more (below_drew1 wq) _)
                have HBB : Hid (Below wq.heap.size wq ((wq.drew.alloc (.cells #[] 3)).alloc (.cells #[(Value.int .i64 (i : Int))] 3))) := Lib.hid (below_more HBA.out _)
                have HBC : Hid (Below wq.heap.size wq ((wq.drew.alloc (.cells #[(Value.int .i64 (i : Int))] 3)).alloc (.cells #[] 3))) := Lib.hid (below_more (below_more (below_drew1 wq) _) _)
                have HLB : Hid (((wq.drew.alloc (.cells #[] 3)).alloc (.cells #[(Value.int .i64 (i : Int))] 3)).cell? ⟨wq.heap.size + 1, 0, none⟩ = some (Value.int .i64 (i : Int))) := Lib.hid (by have h := (Blk.new (wq.drew.alloc (.cells #[] 3)) #[(Value.int .i64 (i : Int))] 3).cell 0 _ rfl; rw [size1] at h; exact h)
                have HLC : Hid (((wq.drew.alloc (.cells #[(Value.int .i64 (i : Int))] 3)).alloc (.cells #[] 3)).cell? ⟨wq.heap.size, 0, none⟩ = some (Value.int .i64 (i : Int))) := Lib.hid (((Blk.new wq.drew #[(Value.int .i64 (i : Int))] 3).alloc (.cells #[] 3)).cell 0 _ rfl)
                have HCE : Hid (∀ w2, Below wq.heap.size wq w2 → ∀ j u, V[j]? = some u → w2.cell? ⟨go, j, none⟩ = some u) := Lib.hid fun w2 hb j u hu => by
                  have hjm : j < m := by have h1 := HOQ.out.1; have h2 := (List.getElem?_eq_some_iff.1 hu).1; omega
                  rw [hb.cell (p := ⟨go, j, none⟩) (HOQ.out.lt go rfl).2]
                  exact (HOQ.out.cellAt j (by omega)).trans hu
                have HVL : Hid (V.length = m) := Lib.hid (by have h1 := HOQ.out.1; omega)
                have HN1 : Hid (∀ w2, Below wq.heap.size wq w2 → (V.take k).length = k * 1 ∧ (∀ j u, (V.take k)[j]? = some u → w2.cell? ((⟨go, 0, none⟩ : Addr).add j) = some u) ∧ (∀ u ∈ V.take k, u.oneCell' = true)) := Lib.hid (by
                  intro w2 hb
                  refine ⟨by rw [List.length_take, HVL.out]; omega, ?_, fun u hu => HV1.out u (List.mem_of_mem_take hu)⟩
                  intro j u hu
                  rw [Go.WideShapes.add_plain, Nat.zero_add]
                  rw [List.getElem?_take] at hu
                  split at hu
                  · exact HCE.out _ hb j u hu
                  · cases hu)
                have HN2 : Hid (∀ w2, Below wq.heap.size wq w2 → (V.drop k).length = (m - k) * 1 ∧ (∀ j u, (V.drop k)[j]? = some u → w2.cell? ((⟨go, o2, none⟩ : Addr).add j) = some u) ∧ (∀ u ∈ V.drop k, u.oneCell' = true)) := Lib.hid (by
                  intro w2 hb
                  refine ⟨by rw [List.length_drop, HVL.out]; omega, ?_, fun u hu => HV1.out u (List.mem_of_mem_drop hu)⟩
                  intro j u hu
                  rw [Go.WideShapes.add_plain]
                  rw [List.getElem?_drop] at hu
                  have hjl := (List.getElem?_eq_some_iff.1 hu).1
                  rw [HVL.out] at hjl
                  rcases HOE.out with h | h
                  · omega
                  · rw [h]; exact HCE.out _ hb _ u hu)
                go_region_law (first
                  | (refine step_own rfl (.tmp 60) (.tmp 63) 35 rfl wq.heap.size 3 i0 (.int .i64 0) 1 8 Try.underlying35 hi hz0 hz1 hz2 rfl (by decide) (.slice (some ⟨g4, 0, none⟩) (k + 1) c4) (k + 1) (V.take k ++ [(Value.int .i64 (i : Int))]) (by first | (simp [Act.eval]; done) | simp [Act.eval, Act.put]) hown4 (by simp) ⟨go, o2, none⟩ (m - k) (c' - k) (V.drop k) (by first | (simp [Act.eval]; done) | simp [Act.eval, Act.put]) (HN2.out _ hb4).1 (HN2.out _ hb4).2.1 (HN2.out _ hb4).2.2 (by unfold maxLen; omega) (by omega) hb4.size ?_; intro g5 c5 w4 hown5 hgrow5; have hb5 : Below wq.heap.size wq w4 := hb4.grown hgrow5 hb4.size (fun q hq => (hown4.lt q hq).1); rw [hkm1] at hown5 ⊢)
                  | (refine step_own rfl (.tmp 57) (.tmp 59) 35 rfl wq.heap.size 3 i0 (.int .i64 0) 1 8 Try.underlying35 hi hz0 hz1 hz2 rfl (by decide) (.slice (some ⟨g3, 0, none⟩) k c3) k (V.take k) (by first | (simp [Act.eval]; done) | simp [Act.eval, Act.put]) (hown3.alloc (.cells #[(Value.int .i64 (i : Int))] 3)) (by simp) ⟨w2.heap.size, 0, none⟩ 1 1 [(Value.int .i64 (i : Int))] (by simp [Act.eval]) rfl (cell_one_new _ _ _) (fun u hu => by rw [List.mem_singleton.1 hu]; exact HIV1.out) (by unfold maxLen; omega) (by omega) (below_more hb3 (.cells #[(Value.int .i64 (i : Int))] 3)).size ?_; intro g4 c4 w3 hown4 hgrow4; have hb4 : Below wq.heap.size wq w3 := (below_more hb3 (.cells #[(Value.int .i64 (i : Int))] 3)).grown hgrow4 (below_more hb3 (.cells #[(Value.int .i64 (i : Int))] 3)).size (fun q hq => (hown3.lt q hq).1))
                  | (refine step_own rfl (.tmp 57) (.tmp 59) 35 rfl wq.heap.size 3 i0 (.int .i64 0) 1 8 Try.underlying35 hi hz0 hz1 hz2 rfl (by decide) (.slice (some ⟨g3, 0, none⟩) k c3) k (V.take k) (by first | (simp [Act.eval]; done) | simp [Act.eval, Act.put]) hown3 (by simp) ⟨wq.heap.size + 1, 0, none⟩ 1 1 [(Value.int .i64 (i : Int))] (by simp [Act.eval]) rfl (fun j u hu => by have hj : j = 0 := (by have h1 := (List.getElem?_eq_some_iff.1 hu).1; simp at h1; exact h1); subst hj; simp at hu; subst hu; exact hlit) (fun u hu => by rw [List.mem_singleton.1 hu]; exact HIV1.out) (by unfold maxLen; omega) (by omega) hb3.size ?_; intro g4 c4 w3 hown4 hgrow4; have hb4 : Below wq.heap.size wq w3 := hb3.grown hgrow4 hb3.size (fun q hq => (hown3.lt q hq).1))
                  | (refine step_own rfl (.tmp 57) (.tmp 59) 35 rfl wq.heap.size 3 i0 (.int .i64 0) 1 8 Try.underlying35 hi hz0 hz1 hz2 rfl (by decide) (.slice (some ⟨g3, 0, none⟩) k c3) k (V.take k) (by first | (simp [Act.eval]; done) | simp [Act.eval, Act.put]) hown3 (by simp) ⟨wq.heap.size, 0, none⟩ 1 1 [(Value.int .i64 (i : Int))] (by simp [Act.eval]) rfl (fun j u hu => by have hj : j = 0 := (by have h1 := (List.getElem?_eq_some_iff.1 hu).1; simp at h1; exact h1); subst hj; simp at hu; subst hu; exact hlit) (fun u hu => by rw [List.mem_singleton.1 hu]; exact HIV1.out) (by unfold maxLen; omega) (by omega) hb3.size ?_; intro g4 c4 w3 hown4 hgrow4; have hb4 : Below wq.heap.size wq w3 := hb3.grown hgrow4 hb3.size (fun q hq => (hown3.lt q hq).1))
                  | (refine step_own rfl (.tmp 53) (.tmp 56) 35 rfl wq.heap.size 3 i0 (.int .i64 0) 1 8 Try.underlying35 hi hz0 hz1 hz2 rfl (by decide) (.slice (some ⟨wq.heap.size, 0, none⟩) 0 0) 0 [] (by first | (simp [Act.eval]; done) | simp [Act.eval, Act.put]) HEA.out (by simp) ⟨go, 0, none⟩ k c' (V.take k) (by first | (simp [Act.eval]; done) | simp [Act.eval, Act.put]) (HN1.out _ HBA.out).1 (HN1.out _ HBA.out).2.1 (HN1.out _ HBA.out).2.2 (by unfold maxLen; omega) (by omega) HBA.out.size ?_; intro g3 c3 w2 hown3q hgrow3; have hown3 : w2.ownsRow wq.heap.size 3 1 (.slice (some ⟨g3, 0, none⟩) k c3) k (V.take k) := (by simpa using hown3q); clear hown3q; rw [Nat.zero_add]; have hb3 : Below wq.heap.size wq w2 := HBA.out.grown hgrow3 HBA.out.size (fun q hq => (HEA.out.lt q hq).1))
                  | (refine step_own rfl (.tmp 53) (.tmp 56) 35 rfl wq.heap.size 3 i0 (.int .i64 0) 1 8 Try.underlying35 hi hz0 hz1 hz2 rfl (by decide) (.slice (some ⟨wq.heap.size, 0, none⟩) 0 0) 0 [] (by first | (simp [Act.eval]; done) | simp [Act.eval, Act.put]) HEB.out (by simp) ⟨go, 0, none⟩ k c' (V.take k) (by first | (simp [Act.eval]; done) | simp [Act.eval, Act.put]) (HN1.out _ HBB.out).1 (HN1.out _ HBB.out).2.1 (HN1.out _ HBB.out).2.2 (by unfold maxLen; omega) (by omega) HBB.out.size ?_; intro g3 c3 w2 hown3q hgrow3; have hown3 : w2.ownsRow wq.heap.size 3 1 (.slice (some ⟨g3, 0, none⟩) k c3) k (V.take k) := (by simpa using hown3q); clear hown3q; rw [Nat.zero_add]; have hb3 : Below wq.heap.size wq w2 := HBB.out.grown hgrow3 HBB.out.size (fun q hq => (HEB.out.lt q hq).1); have hgq : World.grownBy _ w2 (some wq.heap.size) := hgrow3; have hlit : w2.cell? ⟨wq.heap.size + 1, 0, none⟩ = some (Value.int .i64 (i : Int)) := hgq.cell HLB.out (fun e => by simp at e))
                  | (refine step_own rfl (.tmp 53) (.tmp 56) 35 rfl wq.heap.size 3 i0 (.int .i64 0) 1 8 Try.underlying35 hi hz0 hz1 hz2 rfl (by decide) (.slice (some ⟨wq.heap.size + 1, 0, none⟩) 0 0) 0 [] (by first | (simp [Act.eval]; done) | simp [Act.eval, Act.put]) HEC.out (by simp) ⟨go, 0, none⟩ k c' (V.take k) (by first | (simp [Act.eval]; done) | simp [Act.eval, Act.put]) (HN1.out _ HBC.out).1 (HN1.out _ HBC.out).2.1 (HN1.out _ HBC.out).2.2 (by unfold maxLen; omega) (by omega) HBC.out.size ?_; intro g3 c3 w2 hown3q hgrow3; have hown3 : w2.ownsRow wq.heap.size 3 1 (.slice (some ⟨g3, 0, none⟩) k c3) k (V.take k) := (by simpa using hown3q); clear hown3q; rw [Nat.zero_add]; have hb3 : Below wq.heap.size wq w2 := HBC.out.grown hgrow3 HBC.out.size (fun q hq => (HEC.out.lt q hq).1); have hgq : World.grownBy _ w2 (some (wq.heap.size + 1)) := hgrow3; have hlit : w2.cell? ⟨wq.heap.size, 0, none⟩ = some (Value.int .i64 (i : Int)) := hgq.cell HLC.out (fun e => by simp at e))
                  | fail)
                all_goals
                  have HFL : Hid ((l.take k ++ i :: l.drop k).length = m + 1) := Lib.hid (by have h2 := HM.out; simp; omega)
                  have HF5 : Hid (w4.ownsRow w.heap.size 3 1 (.slice (some ⟨g5, 0, none⟩) (l.take k ++ i :: l.drop k).length c5) (l.take k ++ i :: l.drop k).length (I (ints (l.take k ++ i :: l.drop k)))) := Lib.hid (by rw [← HPV.out, HFL.out]; exact own_mono hown5 HBQ.out.size)
                  have HB5 := Lib.hid (below_then HBQ.out hb5)
                  clear hown5 hgrow5 hb5
                  go_wp2_with fail
                  go_roundw
                  case rel => exact ⟨i + 1, l.take k ++ i :: l.drop k, g5, c5, by go_num, by omega, by rw [HFL.out], HPUT, HF5, HB5⟩
                  case measure => simp [intOf]; omega
        · have HS : Hid (IsRd xs cpu (i + 1) l) := Lib.hid (HI.out.skip (by rw [HRQ.out]; simp [htg]))
          have hnn : (x4 != cpu) = true := by simpa using htg
          go_wp2_with fail
          clear c3 c4
          go_roundw
          case rel => exact ⟨i + 1, l, go, c', by go_num, by omega, rfl, HS, HO3, HB3⟩
          case measure => simp [intOf]; omega
    · have hi9 : i = 8 := by omega
      subst hi9
      have heq := HI.out.eq
      subst heq
      go_wp2_with fail
      go_ret
      exact ⟨go, c', rfl, HO.out, HB.out⟩
end Go.Proofs.Ytclnhdjnmfkeaaa.L6
