/- What spec.ProtectPage answers. -/
import Derived.Test.YtaamjnpknmimmabProt
import Derived.Deep.RegionLaw
namespace Go.Proofs.Ytaamjnpknmimmab.L4
open Go Go.RowKit Go.Proofs.Ytaamjnpknmimmab.Mem Go.Proofs.Ytaamjnpknmimmab.Own Go.Proofs.Ytaamjnpknmimmab.L1
theorem frame_of_fault {t : Tab} {p : Nat} (h : faultOf t p = 0) : (get t p).f ≠ -1 := by
  unfold faultOf at h
  intro hk
  rw [if_pos hk] at h
  split at h <;> omega
theorem frame_of_nofault {t : Tab} {p : Nat} (h : faultOf t p ≠ 0) : (get t p).f = -1 := by
  unfold faultOf at h
  by_cases hd : dirOf t p = -1
  · unfold get; rw [if_pos hd]; rfl
  · rw [if_neg hd] at h
    by_cases hk : (get t p).f = -1
    · exact hk
    · rw [if_neg hk] at h; exact absurd rfl h
set_option maxRecDepth 100000 in
set_option maxHeartbeats 4000000 in
theorem specProt_any (A : Option Addr) (n c : Nat) (D : Option Addr) (m d : Nat) (page : Int) (write : Bool) (t : Tab) (w : World) (hr : ReadsT w w.heap.size A n D m t) (hn : n ≤ 1048576) (hm : m ≤ 1048576) (hl : ∀ xs ∈ t.leaves, xs.length ≤ 1048576) (hnc : n ≤ c) (T : Tab) (b : Bool) (hT : protOf t page write = (T, b)) :
    Calls Try.prog 36 #[.agg #[.slice A n c, .slice D m d], .int .i64 page, .bool write] w fun e w' => ∃ A' c' D' d', e = .returned (.tuple #[.agg #[.slice A' T.dirs.length c', .slice D' T.leaves.length d'], .bool b]) ∧ OwnT w' w.heap.size w'.heap.size A' T.dirs.length c' D' T.leaves.length d' T ∧ Below w.heap.size w w' := by
  obtain ⟨wb, hwb⟩ : ∃ wb, (w.alloc (.cells #[.slice A n c, .slice D m d] 29)).alloc (.cells #[.slice none 0 0, .slice none 0 0] 29) = wb := ⟨_, rfl⟩
  have hb0 : Below w.heap.size w wb := by rw [← hwb]; exact below_more (below_more (Below.refl _ _) _) _
  have h0 : Blk wb w.heap.size 29 #[.slice A n c, .slice D m d] := by rw [← hwb]; exact Blk.alloc (Blk.new _ _ _) _
  have h1 : Blk wb (w.heap.size + 1) 29 #[.slice none 0 0, .slice none 0 0] := by
    rw [← hwb]
    have h := Blk.new (w.alloc (.cells #[.slice A n c, .slice D m d] 29)) #[.slice none 0 0, .slice none 0 0] 29
    rwa [size1] at h
  have hsz : wb.heap.size = w.heap.size + 1 + 1 := by rw [← hwb, size1, size1]
  have hml := hr.leaves.len
  have HR := Lib.hid (hr.grow hb0)
  have H0 := Lib.hid h0
  have H1 := Lib.hid h1
  have HB0 := Lib.hid hb0
  have HWB := Lib.hid hwb
  have HSZ := Lib.hid hsz
  have k0 := h0.cell 0 _ rfl
  have k1 := h0.cell 1 _ rfl
  clear hr h0 h1 hb0 hwb hsz
  by_cases ok : OkT t ∧ 0 ≤ page ∧ page < 16
  · obtain ⟨p, rfl⟩ : ∃ p : Nat, page = p := ⟨page.toNat, by omega⟩
    have hp16 : p < 16 := by omega
    obtain ⟨f, hf⟩ : ∃ f, (get t p).f = f := ⟨_, rfl⟩
    obtain ⟨wr0, hwr⟩ : ∃ f, (get t p).wr = f := ⟨_, rfl⟩
    have HFD : Hid (∀ wx : World, (Instr.field 70 (.agg #[.int .i64 f, .bool wr0]) 0).run Try.prog wx = .ok (.int .i64 f) wx) := Lib.hid (fun _ => by kernel_rfl)
    have HF := Lib.hid hf
    have HWR := Lib.hid hwr
    clear hf hwr
    by_cases hz : faultOf t p = 0
    · have hTT : T = setE t p ⟨f, write⟩ ∧ b = true := by
        unfold protOf at hT
        rw [if_pos ⟨ok.1, ok.2.1, ok.2.2, hz⟩] at hT
        rw [Int.toNat_natCast, HF.out] at hT
        exact ⟨(congrArg Prod.fst hT).symm, (congrArg Prod.snd hT).symm⟩
      obtain ⟨rfl, rfl⟩ := hTT
      clear hT
      have hff : ¬ (f = -1) := by rw [← HF.out]; exact frame_of_fault hz
      have hfb : (f == -1) = false := by simpa using hff
      obtain ⟨q, hq, hqm, hl4⟩ := mapped_at ok.1 hml hp16 hz
      rw [setE_dirs, setE_leaves, hml, ok.1.1]
      have HQ := Lib.hid hq
      clear hq hl4 hz
      go_enter Try.func36, Try.ntmps36
      go_upto_region 1 with fail
      rw [HWB.out]
      clear HWB
      go_wp2_with fail
      refine (l4Page_any A n c D m d p t _ HR.out hn hm hl hnc true (decide_eq_true ok)).mono ?_
      rintro e w1 ⟨rfl, hb⟩
      clear k0 k1
      have HB1 := Lib.hid (below_then HB0.out hb)
      replace HR := Lib.hid (HR.out.grow hb)
      replace H0 := Lib.hid (Blk.kept hb H0.out)
      replace H1 := Lib.hid (Blk.kept hb H1.out)
      have HS1 := Lib.hid hb.size
      have k0 := H0.out.cell 0 _ rfl
      have k1 := H0.out.cell 1 _ rfl
      clear hb HB0
      go_wp2_with fail
      refine (l4Get_any A n c D m d p t _ HR.out ok.1 hp16).mono ?_
      rintro e w2 ⟨rfl, hb⟩
      rw [HF.out, HWR.out]
      clear k0 k1
      have hfd := HFD.out
      have HB2 := Lib.hid (below_then HB1.out hb)
      replace HR := Lib.hid (HR.out.grow hb)
      replace H0 := Lib.hid (Blk.kept hb H0.out)
      replace H1 := Lib.hid (Blk.kept hb H1.out)
      have HS2 := Lib.hid hb.size
      have k0 := H0.out.cell 0 _ rfl
      have k1 := H0.out.cell 1 _ rfl
      clear hb HB1
      go_upto_region 3 with fail
      have HRD := Lib.hid (HR.out.grow (below_drew1 w2))
      have k0d : w2.drew.cell? ⟨w.heap.size, 0, none⟩ = some (.slice A n c) := k0
      have k1d : w2.drew.cell? ⟨w.heap.size, 1, none⟩ = some (.slice D m d) := k1
      go_region_law (first
        | (go_simp; go_at_call 52; (with_reducible refine (l4Map_yes A n c D m d p q t f write w4 HR4.out ok.1 hm HQ.out hqm hp16).mono ?_); rintro e w5 ⟨A', c', D', d', rfl, hown, hb5⟩; have H15 := Lib.hid (Blk.kept hb5 H14.out); have r0 := H15.out.cell 0 _ rfl; have r1 := H15.out.cell 1 _ rfl; have r2 := H15.out.free 0; have r3 := H15.out.free 1)
        | (go_simp; go_at_call 51; (with_reducible refine (l4Get_any A n c D m d p t w2.drew HRD.out ok.1 hp16).mono ?_); rintro e w4 ⟨rfl, hb4⟩; rw [HF.out, HWR.out]; replace hb4 : Below w2.heap.size w2 w4 := (below_drew1 w2).trans hb4; have HR4 := Lib.hid (HR.out.grow hb4); have H04 := Lib.hid (Blk.kept hb4 H0.out); have H14 := Lib.hid (Blk.kept hb4 H1.out); have j0 := H04.out.cell 0 _ rfl; have j1 := H04.out.cell 1 _ rfl))
      all_goals
        have hs2 := HB2.out.size
        have hs4 := hb4.size
        have hs5 := hb5.size
        have hlow : w.heap.size + 1 + 1 ≤ w4.heap.size := by have := HSZ.out; have := HS1.out; have := HS2.out; omega
        have hbb := below_then (below_then HB2.out hb4) hb5
        have hZ := (Blk.set (Blk.set H15.out 0 (.slice A' 4 c')) 1 (.slice D' m d'))
        have hX := below_set (below_set hbb (g := w.heap.size + 1) (j := 0) (by omega) (.slice A' 4 c')) (g := w.heap.size + 1) (j := 1) (by omega) (.slice D' m d')
        have ho := ((Only.set w5 (w.heap.size + 1) 0 (.slice A' 4 c')).trans (Only.set _ (w.heap.size + 1) 1 (.slice D' m d')))
        have hT := hown.only ho (.inr (by omega))
        have HZ := Lib.hid hZ
        have HX := Lib.hid hX
        have HTT := Lib.hid hT
        have HS : Hid (((w5.setCell ⟨w.heap.size + 1, 0, none⟩ (.slice A' 4 c')).setCell ⟨w.heap.size + 1, 1, none⟩ (.slice D' m d')).heap.size = w5.heap.size) := Lib.hid (by simp)
        clear hZ hX ho hT hbb hown hb4 hb5 r0 r1 r2 r3 j0 j1 H15 H14 H04 HR4 HRD k0d k1d k0 k1 hfd HR H0 H1 HFD
        go_wp2_with fail
        revert HZ HX HTT HS
        generalize ((w5.setCell _ _).setCell _ _) = wy
        intro HZ HX HTT HS
        have z0 := HZ.out.cell 0 _ rfl
        have z1 := HZ.out.cell 1 _ rfl
        exact bodyPost_ret (v := .tuple #[.agg #[.slice A' 4 c', .slice D' m d'], .bool true]) (by simp [results, Try.results36, go_sem, z0, z1]) rfl ⟨_, _, _, _, rfl, HTT.out.mono (by omega) (by rw [HS.out]; exact Nat.le_refl _), HX.out⟩
    · have hTT : T = noTab ∧ b = false := by
        unfold protOf at hT
        rw [if_neg (fun h => hz h.2.2.2)] at hT
        exact ⟨(congrArg Prod.fst hT).symm, (congrArg Prod.snd hT).symm⟩
      obtain ⟨rfl, rfl⟩ := hTT
      clear hT
      have hff : f = -1 := by rw [← HF.out]; exact frame_of_nofault hz
      subst hff
      go_enter Try.func36, Try.ntmps36
      go_upto_region 1 with fail
      rw [HWB.out]
      clear HWB
      go_wp2_with fail
      refine (l4Page_any A n c D m d p t _ HR.out hn hm hl hnc true (decide_eq_true ok)).mono ?_
      rintro e w1 ⟨rfl, hb⟩
      clear k0 k1
      have HB1 := Lib.hid (below_then HB0.out hb)
      replace HR := Lib.hid (HR.out.grow hb)
      replace H0 := Lib.hid (Blk.kept hb H0.out)
      replace H1 := Lib.hid (Blk.kept hb H1.out)
      have HS1 := Lib.hid hb.size
      have k0 := H0.out.cell 0 _ rfl
      have k1 := H0.out.cell 1 _ rfl
      clear hb HB0
      go_wp2_with fail
      refine (l4Get_any A n c D m d p t _ HR.out ok.1 hp16).mono ?_
      rintro e w2 ⟨rfl, hb⟩
      rw [HF.out, HWR.out]
      clear k0 k1
      have hfd := HFD.out
      have HB2 := Lib.hid (below_then HB1.out hb)
      replace HR := Lib.hid (HR.out.grow hb)
      replace H0 := Lib.hid (Blk.kept hb H0.out)
      replace H1 := Lib.hid (Blk.kept hb H1.out)
      have HS2 := Lib.hid hb.size
      have k0 := H0.out.cell 0 _ rfl
      have k1 := H0.out.cell 1 _ rfl
      clear hb HB1
      have r0 := H1.out.cell 0 _ rfl
      have r1 := H1.out.cell 1 _ rfl
      have r2 := H1.out.free 0
      have r3 := H1.out.free 1
      have hZ := (Blk.set (Blk.set H1.out 0 (.slice none 0 0)) 1 (.slice none 0 0))
      have hX := below_set (below_set HB2.out (g := w.heap.size + 1) (j := 0) (by omega) (.slice none 0 0)) (g := w.heap.size + 1) (j := 1) (by omega) (.slice none 0 0)
      have HZ := Lib.hid hZ
      have HX := Lib.hid hX
      clear hZ hX
      go_wp2_with fail
      clear r0 r1 r2 r3 k0 k1
      revert HZ HX
      generalize ((World.setCell _ _ _).setCell _ _) = wz
      intro HZ HX
      have z0 := HZ.out.cell 0 _ rfl
      have z1 := HZ.out.cell 1 _ rfl
      exact bodyPost_ret (v := .tuple #[.agg #[.slice none 0 0, .slice none 0 0], .bool false]) (by simp [results, Try.results36, go_sem, z0, z1]) rfl ⟨none, 0, none, 0, rfl, own_none _ _ _, HX.out⟩
  · have hTT : T = noTab ∧ b = false := by
      unfold protOf at hT
      rw [if_neg (fun h => ok ⟨h.1, h.2.1, h.2.2.1⟩)] at hT
      exact ⟨(congrArg Prod.fst hT).symm, (congrArg Prod.snd hT).symm⟩
    obtain ⟨rfl, rfl⟩ := hTT
    clear hT
    go_enter Try.func36, Try.ntmps36
    go_upto_region 1 with fail
    rw [HWB.out]
    clear HWB
    go_wp2_with fail
    refine (l4Page_any A n c D m d page t _ HR.out hn hm hl hnc false (decide_eq_false ok)).mono ?_
    rintro e w1 ⟨rfl, hb⟩
    clear k0 k1
    have HB1 := Lib.hid (below_then HB0.out hb)
    replace HR := Lib.hid (HR.out.grow hb)
    replace H0 := Lib.hid (Blk.kept hb H0.out)
    replace H1 := Lib.hid (Blk.kept hb H1.out)
    have HS1 := Lib.hid hb.size
    have k0 := H0.out.cell 0 _ rfl
    have k1 := H0.out.cell 1 _ rfl
    clear hb HB0
    have r0 := H1.out.cell 0 _ rfl
    have r1 := H1.out.cell 1 _ rfl
    have r2 := H1.out.free 0
    have r3 := H1.out.free 1
    have hZ := (Blk.set (Blk.set H1.out 0 (.slice none 0 0)) 1 (.slice none 0 0))
    have hX := below_set (below_set HB1.out (g := w.heap.size + 1) (j := 0) (by omega) (.slice none 0 0)) (g := w.heap.size + 1) (j := 1) (by omega) (.slice none 0 0)
    have HZ := Lib.hid hZ
    have HX := Lib.hid hX
    clear hZ hX
    go_wp2_with fail
    clear r0 r1 r2 r3 k0 k1
    revert HZ HX
    generalize ((World.setCell _ _ _).setCell _ _) = wz
    intro HZ HX
    have z0 := HZ.out.cell 0 _ rfl
    have z1 := HZ.out.cell 1 _ rfl
    exact bodyPost_ret (v := .tuple #[.agg #[.slice none 0 0, .slice none 0 0], .bool false]) (by simp [results, Try.results36, go_sem, z0, z1]) rfl ⟨none, 0, none, 0, rfl, own_none _ _ _, HX.out⟩
end Go.Proofs.Ytaamjnpknmimmab.L4
