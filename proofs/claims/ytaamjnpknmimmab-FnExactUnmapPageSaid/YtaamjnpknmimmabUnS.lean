/- What spec.UnmapPage answers where no leaf goes. -/
import Derived.Test.YtaamjnpknmimmabProtS
import Derived.Test.YtaamjnpknmimmabUnI
namespace Go.Proofs.Ytaamjnpknmimmab.L4
open Go Go.RowKit Go.Proofs.Ytaamjnpknmimmab.Mem Go.Proofs.Ytaamjnpknmimmab.Own Go.Proofs.Ytaamjnpknmimmab.L1
theorem left_ok {t : Tab} {p q : Nat} (ok : OkT t) (hq : q < t.leaves.length) (hqt : (dirOf t p).toNat = q) (h : isE ((setE t p noEnt).leaves.getD q ([] : List Ent)) = false) : OkL ((setE t p noEnt).leaves.getD q ([] : List Ent)) := by
  have hl := (ok.2.2 q hq).2
  have hg : (setE t p noEnt).leaves.getD q ([] : List Ent) = (t.leaves.getD q ([] : List Ent)).set (p % 4) noEnt := by
    simp only [setE]
    rw [hqt, List.getD, List.getElem?_set_self hq]; rfl
  rw [hg] at h ⊢
  refine ⟨by rw [List.length_set]; exact hl.1, ?_, fun x hx => ?_⟩
  · unfold isE at h
    rw [Bool.not_eq_false'] at h
    obtain ⟨x, hx, hf⟩ := List.any_eq_true.1 h
    exact ⟨x, hx, by simpa using hf⟩
  · rcases List.mem_or_eq_of_mem_set hx with h1 | h1
    · exact hl.2.2 x h1
    · subst h1; decide
set_option maxRecDepth 100000 in
set_option maxHeartbeats 4000000 in
theorem specUnm_keep (A : Option Addr) (n c : Nat) (D : Option Addr) (m d : Nat) (page : Int) (t : Tab) (w : World) (hr : ReadsT w w.heap.size A n D m t) (hn : n ≤ 1048576) (hm : m ≤ 1048576) (hl : ∀ xs ∈ t.leaves, xs.length ≤ 1048576) (hnc : n ≤ c) (T : Tab) (b : Bool) (hT : unmapOf t page = (T, b)) (hkeep : ∀ p : Nat, page = p → CanP t page → isE ((setE t p noEnt).leaves.getD (dirOf t p).toNat ([] : List Ent)) = false) :
    Calls Try.prog 9 #[.agg #[.slice A n c, .slice D m d], .int .i64 page] w fun e w' => ∃ A' c' D' d', e = .returned (.tuple #[.agg #[.slice A' T.dirs.length c', .slice D' T.leaves.length d'], .bool b]) ∧ OwnT w' w.heap.size w'.heap.size A' T.dirs.length c' D' T.leaves.length d' T ∧ Below w.heap.size w w' := by
  obtain ⟨wb, hwb⟩ : ∃ wb, (w.alloc (.cells #[.slice A n c, .slice D m d] 29)).alloc (.cells #[.slice none 0 0, .slice none 0 0] 29) = wb := ⟨_, rfl⟩
  have hb0 : Below w.heap.size w wb := by rw [← hwb]; exact below_more (below_more (Below.refl _ _) _) _
  have h0 : Blk wb w.heap.size 29 #[.slice A n c, .slice D m d] := by rw [← hwb]; exact Blk.alloc (Blk.new _ _ _) _
  have h1 : Blk wb (w.heap.size + 1) 29 #[.slice none 0 0, .slice none 0 0] := by
    rw [← hwb]
    have h := Blk.new (w.alloc (.cells #[.slice A n c, .slice D m d] 29)) #[.slice none 0 0, .slice none 0 0] 29
    rwa [size1] at h
  have hsz : wb.heap.size = w.heap.size + 1 + 1 := by rw [← hwb, size1, size1]
  have hml := hr.leaves.len
  have HR := Lib.hid (hr.grow hb0)
  have H0 := Lib.hid h0
  have H1 := Lib.hid h1
  have HB0 := Lib.hid hb0
  have HWB := Lib.hid hwb
  have HSZ := Lib.hid hsz
  have k0 := h0.cell 0 _ rfl
  have k1 := h0.cell 1 _ rfl
  clear hr h0 h1 hb0 hwb hsz
  by_cases ok : OkT t ∧ 0 ≤ page ∧ page < 16
  · obtain ⟨p, rfl⟩ : ∃ p : Nat, page = p := ⟨page.toNat, by omega⟩
    have hp16 : p < 16 := by omega
    obtain ⟨f, hf⟩ : ∃ f, (get t p).f = f := ⟨_, rfl⟩
    obtain ⟨wr0, hwr⟩ : ∃ f, (get t p).wr = f := ⟨_, rfl⟩
    have HFD : Hid (∀ wx : World, (Instr.field 70 (.agg #[.int .i64 f, .bool wr0]) 0).run Try.prog wx = .ok (.int .i64 f) wx) := Lib.hid (fun _ => by kernel_rfl)
    have HF := Lib.hid hf
    have HWR := Lib.hid hwr
    clear hf hwr
    by_cases hz : faultOf t p = 0
    · have hke := hkeep p rfl ⟨ok.1, ok.2.1, ok.2.2, hz⟩
      have hTT : T = setE t p noEnt ∧ b = true := by
        unfold unmapOf at hT
        rw [if_pos ⟨ok.1, ok.2.1, ok.2.2, hz⟩, Int.toNat_natCast] at hT
        unfold unmT at hT
        rw [hke, if_neg (by decide)] at hT
        exact ⟨(congrArg Prod.fst hT).symm, (congrArg Prod.snd hT).symm⟩
      obtain ⟨rfl, rfl⟩ := hTT
      clear hT hkeep
      have hff : ¬ (f = -1) := by rw [← HF.out]; exact frame_of_fault hz
      have hfb : (f == -1) = false := by simpa using hff
      obtain ⟨q, hq, hqm, hl4⟩ := mapped_at ok.1 hml hp16 hz
      rw [setE_dirs, setE_leaves, hml, ok.1.1]
      have hqd : (setE t p noEnt).dirs[p / 4]? = some (q : Int) := by
        have hlt : p / 4 < t.dirs.length := by rw [ok.1.1]; omega
        have : dirOf t p = t.dirs[p / 4] := by unfold dirOf; rw [List.getD, List.getElem?_eq_getElem hlt]; rfl
        rw [setE_dirs, List.getElem?_eq_getElem hlt, ← this, hq]
      have hqt : (dirOf t p).toNat = q := by rw [hq]; rfl
      rw [hqt] at hke
      have hokl := left_ok ok.1 (hml.symm ▸ hqm) hqt hke
      have hm0 : 0 < m := by omega
      have HQ := Lib.hid hq
      have HQD := Lib.hid hqd
      have HOKL := Lib.hid hokl
      clear hq hl4 hz hqd hqt hokl hke
      go_enter Try.func9, Try.ntmps9
      go_upto_region 1 with fail
      rw [HWB.out]
      clear HWB
      go_wp2_with fail
      refine (l4Page_any A n c D m d p t _ HR.out hn hm hl hnc true (decide_eq_true ok)).mono ?_
      rintro e w1 ⟨rfl, hb⟩
      clear k0 k1
      have HB1 := Lib.hid (below_then HB0.out hb)
      replace HR := Lib.hid (HR.out.grow hb)
      replace H0 := Lib.hid (Blk.kept hb H0.out)
      replace H1 := Lib.hid (Blk.kept hb H1.out)
      have HS1 := Lib.hid hb.size
      have k0 := H0.out.cell 0 _ rfl
      have k1 := H0.out.cell 1 _ rfl
      clear hb HB0
      go_wp2_with fail
      refine (l4Get_any A n c D m d p t _ HR.out ok.1 hp16).mono ?_
      rintro e w2 ⟨rfl, hb⟩
      rw [HF.out, HWR.out]
      clear k0 k1
      have hfd := HFD.out
      have HB2 := Lib.hid (below_then HB1.out hb)
      replace HR := Lib.hid (HR.out.grow hb)
      replace H0 := Lib.hid (Blk.kept hb H0.out)
      replace H1 := Lib.hid (Blk.kept hb H1.out)
      have HS2 := Lib.hid hb.size
      have k0 := H0.out.cell 0 _ rfl
      have k1 := H0.out.cell 1 _ rfl
      clear hb HB1
      go_upto_region 3 with fail
      go_wp2_with fail
      refine (l4Map_yes A n c D m d p q t (-1) false _ HR.out ok.1 hm HQ.out hqm hp16).mono ?_
      rintro e w3 ⟨A', c', D', d', rfl, hown, hb⟩
      have hs2 := hb.size
      have hlow : w.heap.size + 1 + 1 ≤ w2.heap.size := by have := HSZ.out; have := HS1.out; have := HS2.out; omega
      obtain ⟨wc, hwc⟩ : ∃ wc, w3.alloc (.cells #[.slice A' 4 c', .slice D' m d'] 29) = wc := ⟨_, rfl⟩
      obtain ⟨cp, hcp⟩ : ∃ cp, w3.heap.size = cp := ⟨_, rfl⟩
      have hb3 : Below w3.heap.size w3 wc := by rw [← hwc]; exact below_more (Below.refl _ _) _
      have hcc : Blk wc cp 29 #[.slice A' 4 c', .slice D' m d'] := by rw [← hwc, ← hcp]; exact Blk.new _ _ _
      have HB3 := Lib.hid (below_then (below_then HB2.out hb) hb3)
      have hown := (hown.below hb3).mono (lo' := w.heap.size + 1 + 1) (hi' := cp) hlow (by omega)
      replace H1 := Lib.hid (Blk.kept hb3 (Blk.kept hb H1.out))
      have HC := Lib.hid hcc
      have HORD : Hid (w.heap.size + 1 + 1 ≤ cp) := Lib.hid (by omega)
      have HWC := Lib.hid hwc
      have HCP := Lib.hid hcp
      have hdo := hown.dirs.own
      obtain ⟨gA, rfl⟩ := own_head hdo (by omega)
      obtain ⟨gD, rfl⟩ : ∃ g, D' = some ⟨g, 0, none⟩ := by
        obtain ⟨vs, hv, _⟩ := hown.leaves
        exact own_head hv.own hm0
      have c0 := (hdo.cellAt (p / 4) (by omega)).trans (I_at HQD.out)
      obtain ⟨bl, ol, A5, n5, c5, xs, hDe, _, hxs, hcl, hrl, hn5, _, _⟩ := hown.reads.leaves.at_ hqm
      simp only [Option.some.injEq, Addr.mk.injEq, and_true] at hDe
      obtain ⟨rfl, rfl⟩ := hDe
      simp only [Nat.zero_add] at hcl
      have HXS : Hid ((setE t p noEnt).leaves[q]? = some xs) := Lib.hid hxs
      have hokx : OkL xs := by
        have h := HOKL.out
        rw [List.getD, HXS.out] at h
        exact h
      have hxl : xs.length = 4 := hokx.1
      have HOX := Lib.hid hokx
      have HRL := Lib.hid hrl
      have HO5 : Hid (OwnT wc (w.heap.size + 1 + 1) cp (some ⟨gA, 0, none⟩) 4 c' (some ⟨gD, 0, none⟩) m d' (setE t p noEnt)) := Lib.hid hown
      have hcp5 := hcc.lt
      have x0 := hcc.cell 0 _ rfl
      have x1 := hcc.cell 1 _ rfl
      clear hown hb hs2 hlow hb3 hcc hwc hcp k0 k1 H0 HB2 HR hfd hdo hxs hokx hrl
      go_upto_region 4 with fail
      rw [HWC.out, HCP.out]
      clear HWC HCP HSZ HS1 HS2
      rw [hxl] at hn5
      subst hn5
      have ew : IntKind.i64.wrap ((p : Int) / 4) = ((p / 4 : Nat) : Int) := by rw [IntWalk.i64_in _ (by omega)]; omega
      obtain ⟨k4, hk4⟩ : ∃ k, p / 4 = k := ⟨_, rfl⟩
      rw [hk4] at c0 ew
      have hk44 : (k4 : Int) < 4 := by omega
      go_wp2_with fail
      refine (l4Leaf_any A5 4 c5 _ xs _ HRL.out (by omega) true (decide_eq_true HOX.out)).mono ?_
      rintro e w6 ⟨rfl, hw⟩
      subst hw
      clear c0 hcl ew HRL
      have r0 := H1.out.cell 0 _ rfl
      have r1 := H1.out.cell 1 _ rfl
      have r2 := H1.out.free 0
      have r3 := H1.out.free 1
      have HZ := Lib.hid (Blk.set (Blk.set H1.out 0 (.slice (some ⟨gA, 0, none⟩) 4 c')) 1 (.slice (some ⟨gD, 0, none⟩) m d'))
      have HX := Lib.hid (below_set (below_set HB3.out (g := w.heap.size + 1) (j := 0) (by omega) (.slice (some ⟨gA, 0, none⟩) 4 c')) (g := w.heap.size + 1) (j := 1) (by omega) (.slice (some ⟨gD, 0, none⟩) m d'))
      have HTT := Lib.hid (HO5.out.only ((Only.set wc (w.heap.size + 1) 0 (.slice (some ⟨gA, 0, none⟩) 4 c')).trans (Only.set _ (w.heap.size + 1) 1 (.slice (some ⟨gD, 0, none⟩) m d'))) (.inr (by omega)))
      have HS : Hid (cp ≤ ((wc.setCell ⟨w.heap.size + 1, 0, none⟩ (.slice (some ⟨gA, 0, none⟩) 4 c')).setCell ⟨w.heap.size + 1, 1, none⟩ (.slice (some ⟨gD, 0, none⟩) m d')).heap.size) := Lib.hid (by simp; omega)
      clear H1 HB3 HO5
      go_wp2_with fail
      clear r0 r1 r2 r3 x0 x1
      revert HZ HX HTT HS
      generalize ((World.setCell _ _ _).setCell _ _) = wy
      intro HZ HX HTT HS
      have z0 := HZ.out.cell 0 _ rfl
      have z1 := HZ.out.cell 1 _ rfl
      exact bodyPost_ret (v := .tuple #[.agg #[(.slice (some ⟨gA, 0, none⟩) 4 c'), (.slice (some ⟨gD, 0, none⟩) m d')], .bool true]) (by simp [results, Try.results9, go_sem, z0, z1]) rfl ⟨_, _, _, _, rfl, HTT.out.mono (by omega) HS.out, HX.out⟩
    · have hTT : T = noTab ∧ b = false := by
        unfold unmapOf at hT
        rw [if_neg (fun h => hz h.2.2.2)] at hT
        exact ⟨(congrArg Prod.fst hT).symm, (congrArg Prod.snd hT).symm⟩
      obtain ⟨rfl, rfl⟩ := hTT
      clear hT
      have hff : f = -1 := by rw [← HF.out]; exact frame_of_nofault hz
      subst hff
      go_enter Try.func9, Try.ntmps9
      go_upto_region 1 with fail
      rw [HWB.out]
      clear HWB
      go_wp2_with fail
      refine (l4Page_any A n c D m d p t _ HR.out hn hm hl hnc true (decide_eq_true ok)).mono ?_
      rintro e w1 ⟨rfl, hb⟩
      clear k0 k1
      have HB1 := Lib.hid (below_then HB0.out hb)
      replace HR := Lib.hid (HR.out.grow hb)
      replace H0 := Lib.hid (Blk.kept hb H0.out)
      replace H1 := Lib.hid (Blk.kept hb H1.out)
      have HS1 := Lib.hid hb.size
      have k0 := H0.out.cell 0 _ rfl
      have k1 := H0.out.cell 1 _ rfl
      clear hb HB0
      go_wp2_with fail
      refine (l4Get_any A n c D m d p t _ HR.out ok.1 hp16).mono ?_
      rintro e w2 ⟨rfl, hb⟩
      rw [HF.out, HWR.out]
      clear k0 k1
      have hfd := HFD.out
      have HB2 := Lib.hid (below_then HB1.out hb)
      replace HR := Lib.hid (HR.out.grow hb)
      replace H0 := Lib.hid (Blk.kept hb H0.out)
      replace H1 := Lib.hid (Blk.kept hb H1.out)
      have HS2 := Lib.hid hb.size
      have k0 := H0.out.cell 0 _ rfl
      have k1 := H0.out.cell 1 _ rfl
      clear hb HB1
      have r0 := H1.out.cell 0 _ rfl
      have r1 := H1.out.cell 1 _ rfl
      have r2 := H1.out.free 0
      have r3 := H1.out.free 1
      have hZ := (Blk.set (Blk.set H1.out 0 (.slice none 0 0)) 1 (.slice none 0 0))
      have hX := below_set (below_set HB2.out (g := w.heap.size + 1) (j := 0) (by omega) (.slice none 0 0)) (g := w.heap.size + 1) (j := 1) (by omega) (.slice none 0 0)
      have HZ := Lib.hid hZ
      have HX := Lib.hid hX
      clear hZ hX
      go_wp2_with fail
      clear r0 r1 r2 r3 k0 k1
      revert HZ HX
      generalize ((World.setCell _ _ _).setCell _ _) = wz
      intro HZ HX
      have z0 := HZ.out.cell 0 _ rfl
      have z1 := HZ.out.cell 1 _ rfl
      exact bodyPost_ret (v := .tuple #[.agg #[.slice none 0 0, .slice none 0 0], .bool false]) (by simp [results, Try.results9, go_sem, z0, z1]) rfl ⟨none, 0, none, 0, rfl, own_none _ _ _, HX.out⟩
  · have hTT : T = noTab ∧ b = false := by
      unfold unmapOf at hT
      rw [if_neg (fun h => ok ⟨h.1, h.2.1, h.2.2.1⟩)] at hT
      exact ⟨(congrArg Prod.fst hT).symm, (congrArg Prod.snd hT).symm⟩
    obtain ⟨rfl, rfl⟩ := hTT
    clear hT
    go_enter Try.func9, Try.ntmps9
    go_upto_region 1 with fail
    rw [HWB.out]
    clear HWB
    go_wp2_with fail
    refine (l4Page_any A n c D m d page t _ HR.out hn hm hl hnc false (decide_eq_false ok)).mono ?_
    rintro e w1 ⟨rfl, hb⟩
    clear k0 k1
    have HB1 := Lib.hid (below_then HB0.out hb)
    replace HR := Lib.hid (HR.out.grow hb)
    replace H0 := Lib.hid (Blk.kept hb H0.out)
    replace H1 := Lib.hid (Blk.kept hb H1.out)
    have HS1 := Lib.hid hb.size
    have k0 := H0.out.cell 0 _ rfl
    have k1 := H0.out.cell 1 _ rfl
    clear hb HB0
    have r0 := H1.out.cell 0 _ rfl
    have r1 := H1.out.cell 1 _ rfl
    have r2 := H1.out.free 0
    have r3 := H1.out.free 1
    have hZ := (Blk.set (Blk.set H1.out 0 (.slice none 0 0)) 1 (.slice none 0 0))
    have hX := below_set (below_set HB1.out (g := w.heap.size + 1) (j := 0) (by omega) (.slice none 0 0)) (g := w.heap.size + 1) (j := 1) (by omega) (.slice none 0 0)
    have HZ := Lib.hid hZ
    have HX := Lib.hid hX
    clear hZ hX
    go_wp2_with fail
    clear r0 r1 r2 r3 k0 k1
    revert HZ HX
    generalize ((World.setCell _ _ _).setCell _ _) = wz
    intro HZ HX
    have z0 := HZ.out.cell 0 _ rfl
    have z1 := HZ.out.cell 1 _ rfl
    exact bodyPost_ret (v := .tuple #[.agg #[.slice none 0 0, .slice none 0 0], .bool false]) (by simp [results, Try.results9, go_sem, z0, z1]) rfl ⟨none, 0, none, 0, rfl, own_none _ _ _, HX.out⟩
end Go.Proofs.Ytaamjnpknmimmab.L4
