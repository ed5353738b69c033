/- What ProtectPage answers, of impl and spec. -/
import Derived.Test.YtaamjnpknmimmabL4Map
namespace Go.Proofs.Ytaamjnpknmimmab.L4
open Go Go.RowKit Go.Proofs.Ytaamjnpknmimmab.Mem Go.Proofs.Ytaamjnpknmimmab.Own Go.Proofs.Ytaamjnpknmimmab.L1
def CanP (t : Tab) (page : Int) : Prop := OkT t ∧ 0 ≤ page ∧ page < 16 ∧ faultOf t page.toNat = 0
instance (t : Tab) (page : Int) : Decidable (CanP t page) := by unfold CanP; infer_instance
def noTab : Tab := ⟨[], []⟩
def protOf (t : Tab) (page : Int) (wr : Bool) : Tab × Bool := if CanP t page then (setE t page.toNat ⟨(get t page.toNat).f, wr⟩, true) else (noTab, false)
theorem own_none (w : World) (lo hi : Nat) : OwnT w lo hi none 0 0 none 0 0 noTab :=
  ⟨⟨World.ownsRow_nil _ _ _ _, fun _ h => by cases h⟩, [], ⟨World.ownsRow_nil _ _ _ _, fun _ h => by cases h⟩, Inn.nil⟩
theorem mapped_at {t : Tab} {p m : Nat} (ok : OkT t) (hm : t.leaves.length = m) (hp : p < 16) (h : faultOf t p = 0) : ∃ q : Nat, dirOf t p = q ∧ q < m ∧ (t.leaves.getD q ([] : List Ent)).length = 4 := by
  unfold faultOf at h
  by_cases hd : dirOf t p = -1
  · rw [if_pos hd] at h; omega
  · have hmem : dirOf t p ∈ t.dirs := by
      unfold dirOf
      rw [List.getD, List.getElem?_eq_getElem (by rw [ok.1]; omega)]
      exact List.getElem_mem _
    rcases ok.2.1 _ hmem with h1 | h1
    · exact absurd h1 hd
    · refine ⟨(dirOf t p).toNat, by omega, by omega, (ok.2.2 _ (by omega)).2.1⟩
theorem setE_dirs (t : Tab) (p : Nat) (x : Ent) : (setE t p x).dirs = t.dirs := rfl
theorem setE_leaves (t : Tab) (p : Nat) (x : Ent) : (setE t p x).leaves.length = t.leaves.length := by simp [setE]
set_option maxRecDepth 100000 in
set_option maxHeartbeats 4000000 in
theorem implProt_any (A : Option Addr) (n c : Nat) (D : Option Addr) (m d : Nat) (page : Int) (write : Bool) (t : Tab) (w : World) (hr : ReadsT w w.heap.size A n D m t) (hn : n ≤ 1048576) (hm : m ≤ 1048576) (hl : ∀ xs ∈ t.leaves, xs.length ≤ 1048576) (T : Tab) (b : Bool) (hT : protOf t page write = (T, b)) :
    Calls Try.prog 35 #[.agg #[.slice A n c, .slice D m d], .int .i64 page, .bool write] w fun e w' => ∃ A' c' D' d', e = .returned (.tuple #[.agg #[.slice A' T.dirs.length c', .slice D' T.leaves.length d'], .bool b]) ∧ OwnT w' w.heap.size w'.heap.size A' T.dirs.length c' D' T.leaves.length d' T ∧ Below w.heap.size w w' := by
  obtain ⟨wb, hwb⟩ : ∃ wb, (w.alloc (.cells #[.slice A n c, .slice D m d] 29)).alloc (.cells #[.slice none 0 0, .slice none 0 0] 29) = wb := ⟨_, rfl⟩
  have hb0 : Below w.heap.size w wb := by rw [← hwb]; exact below_more (below_more (Below.refl _ _) _) _
  have h0 : Blk wb w.heap.size 29 #[.slice A n c, .slice D m d] := by rw [← hwb]; exact Blk.alloc (Blk.new _ _ _) _
  have h1 : Blk wb (w.heap.size + 1) 29 #[.slice none 0 0, .slice none 0 0] := by
    rw [← hwb]
    have h := Blk.new (w.alloc (.cells #[.slice A n c, .slice D m d] 29)) #[.slice none 0 0, .slice none 0 0] 29
    rwa [size1] at h
  have hsz : wb.heap.size = w.heap.size + 1 + 1 := by rw [← hwb, size1, size1]
  have hml := hr.leaves.len
  have HR := Lib.hid (hr.grow hb0)
  have H0 := Lib.hid h0
  have H1 := Lib.hid h1
  have HB0 := Lib.hid hb0
  have HWB := Lib.hid hwb
  have HSZ := Lib.hid hsz
  have k0 := h0.cell 0 _ rfl
  have k1 := h0.cell 1 _ rfl
  clear hr h0 h1 hb0 hwb hsz
  by_cases ok : OkT t
  · by_cases hp : 0 ≤ page ∧ page < 16
    · obtain ⟨p, rfl⟩ : ∃ p : Nat, page = p := ⟨page.toNat, by omega⟩
      have hp16 : p < 16 := by omega
      by_cases hz : faultOf t p = 0
      · have hTT : T = setE t p ⟨(get t p).f, write⟩ ∧ b = true := by
          unfold protOf at hT
          rw [if_pos ⟨ok, hp.1, hp.2, hz⟩] at hT
          exact ⟨(congrArg Prod.fst hT).symm, (congrArg Prod.snd hT).symm⟩
        obtain ⟨rfl, rfl⟩ := hTT
        clear hT
        obtain ⟨q, hq, hqm, hl4⟩ := mapped_at ok hml hp16 hz
        obtain ⟨f, hf⟩ : ∃ f, (get t p).f = f := ⟨_, rfl⟩
        obtain ⟨wr0, hwr⟩ : ∃ f, (get t p).wr = f := ⟨_, rfl⟩
        rw [setE_dirs, setE_leaves, hml, ok.1, hf]
        have HF := Lib.hid hf
        have HWR := Lib.hid hwr
        have HQ := Lib.hid hq
        have HL4 := Lib.hid hl4
        have HZF := Lib.hid hz
        clear hf hwr hq hl4 hz
        go_enter Try.func35, Try.ntmps35
        go_upto_region 1 with fail
        rw [HWB.out]
        clear HWB
        go_wp2_with fail
        refine (implIsTable_any A n c D m d t _ HR.out hn hm hl true (decide_eq_true ok)).mono ?_
        rintro e w1 ⟨rfl, hb⟩
        clear k0 k1
        have HB1 := Lib.hid (below_then HB0.out hb)
        replace HR := Lib.hid (HR.out.grow hb)
        replace H0 := Lib.hid (Blk.kept hb H0.out)
        replace H1 := Lib.hid (Blk.kept hb H1.out)
        have HS1 := Lib.hid hb.size
        have k0 := H0.out.cell 0 _ rfl
        have k1 := H0.out.cell 1 _ rfl
        clear hb HB0
        go_wp2_with fail
        refine (isPage_any p true (decide_eq_true hp) _).mono ?_
        rintro e w2 ⟨rfl, hw⟩
        subst hw
        go_wp2_with fail
        refine (isMapped_any A n c D m d p t _ HR.out ok hp16 true (decide_eq_true HZF.out)).mono ?_
        rintro e w2 ⟨rfl, hb⟩
        clear k0 k1
        have HB2 := Lib.hid (below_then HB1.out hb)
        replace HR := Lib.hid (HR.out.grow hb)
        replace H0 := Lib.hid (Blk.kept hb H0.out)
        replace H1 := Lib.hid (Blk.kept hb H1.out)
        have HS2 := Lib.hid hb.size
        have k0 := H0.out.cell 0 _ rfl
        have k1 := H0.out.cell 1 _ rfl
        clear hb HB1
        go_wp2_with fail
        refine (copyTable_any A n c D m d t _ HR.out ok hm).mono ?_
        rintro e w3 ⟨A', c', D', d', rfl, hown, hb⟩
        have hs2 := hb.size
        have hlow : w.heap.size + 1 + 1 ≤ w2.heap.size := by have := HSZ.out; have := HS1.out; have := HS2.out; omega
        obtain ⟨wc, hwc⟩ : ∃ wc, w3.alloc (.cells #[.slice A' 4 c', .slice D' m d'] 29) = wc := ⟨_, rfl⟩
        obtain ⟨cp, hcp⟩ : ∃ cp, w3.heap.size = cp := ⟨_, rfl⟩
        have hb3 : Below w3.heap.size w3 wc := by rw [← hwc]; exact below_more (Below.refl _ _) _
        have hcc : Blk wc cp 29 #[.slice A' 4 c', .slice D' m d'] := by rw [← hwc, ← hcp]; exact Blk.new _ _ _
        have HB3 := Lib.hid (below_then (below_then HB2.out hb) hb3)
        have HO := Lib.hid ((hown.below hb3).mono (lo' := w.heap.size + 1 + 1) (hi' := cp) hlow (by omega))
        have HCW := Lib.hid hcc.lt
        replace H1 := Lib.hid (Blk.kept hb3 (Blk.kept hb H1.out))
        have HC := Lib.hid hcc
        have HORD : Hid (w.heap.size + 1 + 1 ≤ cp) := Lib.hid (by omega)
        have HWC := Lib.hid hwc
        have HCP := Lib.hid hcp
        have x0 := hcc.cell 0 _ rfl
        have x1 := hcc.cell 1 _ rfl
        clear hown hb hs2 hlow hb3 hcc hwc hcp k0 k1 H0 HB2 HR
        go_upto_region 4 with fail
        rw [HWC.out, HCP.out]
        clear HWC HCP HSZ HS1 HS2
        go_wp2_with fail
        refine (entryOf_any A' 4 c' D' m d' p t _ HO.out.reads ok hp16).mono ?_
        rintro e w4 ⟨rfl, hb⟩
        obtain ⟨wd, hwd⟩ : ∃ wd, w4.alloc (.cells #[.int .i64 f, .bool wr0] 70) = wd := ⟨_, rfl⟩
        obtain ⟨ep, hep⟩ : ∃ ep, w4.heap.size = ep := ⟨_, rfl⟩
        have hb4 : Below w4.heap.size w4 wd := by rw [← hwd]; exact below_more (Below.refl _ _) _
        have hb5 := below_then hb hb4
        have hee : Blk wd ep 70 #[.int .i64 f, .bool wr0] := by rw [← hwd, ← hep]; exact Blk.new _ _ _
        have HEP : Hid (cp < ep) := Lib.hid (by rw [← hep]; exact Nat.lt_of_lt_of_le HCW.out hb.size)
        have HB4 := Lib.hid (below_then HB3.out hb5)
        replace HO := Lib.hid (HO.out.below hb5)
        replace H1 := Lib.hid (Blk.kept hb5 H1.out)
        have hcc := Blk.kept hb5 HC.out
        have HE := Lib.hid hee
        have HC := Lib.hid hcc
        have HWD := Lib.hid hwd
        have HEQ := Lib.hid hep
        have y0 := hee.cell 0 _ rfl
        have y1 := hee.cell 1 _ rfl
        have y3 := hee.free 1
        rw [HF.out, HWR.out, show faultOf t p = 0 from HZF.out]
        clear hb hb4 hb5 hee hcc hwd hep x0 x1 HB3
        go_upto_region 5 with fail
        rw [HWD.out, HEQ.out]
        clear HWD HEQ HCW
        have hset := Blk.set HE.out 1 (.bool write)
        have hso := Only.set wd ep 1 (.bool write)
        have hcp := HC.out.only hso (.inl HEP.out)
        have h1p := H1.out.only hso (.inl (by have := HEP.out; have := HORD.out; omega))
        have hop := HO.out.only hso (.inl (Nat.le_of_lt HEP.out))
        have hbp := below_set HB4.out (g := ep) (j := 1) (by have := HEP.out; have := HORD.out; omega) (.bool write)
        obtain ⟨we, hwe⟩ : ∃ we, wd.setCell ⟨ep, 1, none⟩ (.bool write) = we := ⟨_, rfl⟩
        rw [hwe] at hset hso hcp h1p hop hbp
        have HWE := Lib.hid hwe
        have HE2 : Hid (Blk we ep 70 #[.int .i64 f, .bool write]) := Lib.hid hset
        have e0 := HE2.out.cell 0 _ rfl
        have e1 := HE2.out.cell 1 _ rfl
        have q0 := hcp.cell 0 _ rfl
        have q1 := hcp.cell 1 _ rfl
        have HC2 := Lib.hid hcp
        have H12 := Lib.hid h1p
        have HO2 := Lib.hid hop
        have HB5 := Lib.hid hbp
        clear hset hso hcp h1p hop hbp hwe HE HC H1 HO HB4
        go_upto_region 6 with fail
        clear y0 y1 y3
        rw [HWE.out]
        clear HWE
        go_wp2_with fail
        refine (setEntry_any _ _ c' m d' _ _ p q t f write _ HO2.out HQ.out hqm hp16 HL4.out).mono ?_
        rintro e w5 ⟨rfl, hown, honly⟩
        have hcp := HC2.out.only honly (.inr (Nat.le_refl _))
        have h1p := H12.out.only honly (.inl (by omega))
        have hbp := honly.below HB5.out (by omega)
        have q0 := hcp.cell 0 _ rfl
        have q1 := hcp.cell 1 _ rfl
        have r0 := h1p.cell 0 _ rfl
        have r1 := h1p.cell 1 _ rfl
        have r2 := h1p.free 0
        have r3 := h1p.free 1
        have hZ := (Blk.set (Blk.set h1p 0 (.slice A' 4 c')) 1 (.slice D' m d'))
        have hX := below_set (below_set hbp (g := w.heap.size + 1) (j := 0) (by omega) (.slice A' 4 c')) (g := w.heap.size + 1) (j := 1) (by omega) (.slice D' m d')
        have ho := ((Only.set w5 (w.heap.size + 1) 0 (.slice A' 4 c')).trans (Only.set _ (w.heap.size + 1) 1 (.slice D' m d')))
        have hT := hown.only ho (.inr (by omega))
        have HZ := Lib.hid hZ
        have HX := Lib.hid hX
        have HTT := Lib.hid hT
        have hlt := hcp.lt
        have HS : Hid (cp ≤ ((w5.setCell ⟨w.heap.size + 1, 0, none⟩ (.slice A' 4 c')).setCell ⟨w.heap.size + 1, 1, none⟩ (.slice D' m d')).heap.size) := Lib.hid (by simp; omega)
        clear hZ hX ho hT hcp h1p hbp hown honly hlt e0 e1 HC2 H12 HO2 HB5 HE2
        go_wp2_with fail
        clear q0 q1 r0 r1 r2 r3
        revert HZ HX HTT HS
        generalize ((w5.setCell _ _).setCell _ _) = wy
        intro HZ HX HTT HS
        have z0 := HZ.out.cell 0 _ rfl
        have z1 := HZ.out.cell 1 _ rfl
        exact bodyPost_ret (v := .tuple #[.agg #[.slice A' 4 c', .slice D' m d'], .bool true]) (by simp [results, Try.results35, go_sem, z0, z1]) rfl ⟨_, _, _, _, rfl, HTT.out.mono (by omega) HS.out, HX.out⟩
      · have hTT : T = noTab ∧ b = false := by
          unfold protOf at hT
          rw [if_neg (fun h => hz h.2.2.2)] at hT
          exact ⟨(congrArg Prod.fst hT).symm, (congrArg Prod.snd hT).symm⟩
        obtain ⟨rfl, rfl⟩ := hTT
        clear hT
        go_enter Try.func35, Try.ntmps35
        go_upto_region 1 with fail
        rw [HWB.out]
        clear HWB
        go_wp2_with fail
        refine (implIsTable_any A n c D m d t _ HR.out hn hm hl true (decide_eq_true ok)).mono ?_
        rintro e w1 ⟨rfl, hb⟩
        clear k0 k1
        have HB1 := Lib.hid (below_then HB0.out hb)
        replace HR := Lib.hid (HR.out.grow hb)
        replace H0 := Lib.hid (Blk.kept hb H0.out)
        replace H1 := Lib.hid (Blk.kept hb H1.out)
        have HS1 := Lib.hid hb.size
        have k0 := H0.out.cell 0 _ rfl
        have k1 := H0.out.cell 1 _ rfl
        clear hb HB0
        go_wp2_with fail
        refine (isPage_any p true (decide_eq_true hp) _).mono ?_
        rintro e w2 ⟨rfl, hw⟩
        subst hw
        go_wp2_with fail
        refine (isMapped_any A n c D m d p t _ HR.out ok hp16 false (decide_eq_false hz)).mono ?_
        rintro e w2 ⟨rfl, hb⟩
        clear k0 k1
        have HB2 := Lib.hid (below_then HB1.out hb)
        replace HR := Lib.hid (HR.out.grow hb)
        replace H0 := Lib.hid (Blk.kept hb H0.out)
        replace H1 := Lib.hid (Blk.kept hb H1.out)
        have HS2 := Lib.hid hb.size
        have k0 := H0.out.cell 0 _ rfl
        have k1 := H0.out.cell 1 _ rfl
        clear hb HB1
        have r0 := H1.out.cell 0 _ rfl
        have r1 := H1.out.cell 1 _ rfl
        have r2 := H1.out.free 0
        have r3 := H1.out.free 1
        have hZ := (Blk.set (Blk.set H1.out 0 (.slice none 0 0)) 1 (.slice none 0 0))
        have hX := below_set (below_set HB2.out (g := w.heap.size + 1) (j := 0) (by omega) (.slice none 0 0)) (g := w.heap.size + 1) (j := 1) (by omega) (.slice none 0 0)
        have HZ := Lib.hid hZ
        have HX := Lib.hid hX
        clear hZ hX
        go_wp2_with fail
        clear r0 r1 r2 r3 k0 k1
        revert HZ HX
        generalize ((World.setCell _ _ _).setCell _ _) = wz
        intro HZ HX
        have z0 := HZ.out.cell 0 _ rfl
        have z1 := HZ.out.cell 1 _ rfl
        exact bodyPost_ret (v := .tuple #[.agg #[.slice none 0 0, .slice none 0 0], .bool false]) (by simp [results, Try.results35, go_sem, z0, z1]) rfl ⟨none, 0, none, 0, rfl, own_none _ _ _, HX.out⟩
    · have hTT : T = noTab ∧ b = false := by
        unfold protOf at hT
        rw [if_neg (fun h => hp ⟨h.2.1, h.2.2.1⟩)] at hT
        exact ⟨(congrArg Prod.fst hT).symm, (congrArg Prod.snd hT).symm⟩
      obtain ⟨rfl, rfl⟩ := hTT
      clear hT
      go_enter Try.func35, Try.ntmps35
      go_upto_region 1 with fail
      rw [HWB.out]
      clear HWB
      go_wp2_with fail
      refine (implIsTable_any A n c D m d t _ HR.out hn hm hl true (decide_eq_true ok)).mono ?_
      rintro e w1 ⟨rfl, hb⟩
      clear k0 k1
      have HB1 := Lib.hid (below_then HB0.out hb)
      replace HR := Lib.hid (HR.out.grow hb)
      replace H0 := Lib.hid (Blk.kept hb H0.out)
      replace H1 := Lib.hid (Blk.kept hb H1.out)
      have HS1 := Lib.hid hb.size
      have k0 := H0.out.cell 0 _ rfl
      have k1 := H0.out.cell 1 _ rfl
      clear hb HB0
      go_wp2_with fail
      refine (isPage_any page false (decide_eq_false hp) _).mono ?_
      rintro e w2 ⟨rfl, hw⟩
      subst hw
      have r0 := H1.out.cell 0 _ rfl
      have r1 := H1.out.cell 1 _ rfl
      have r2 := H1.out.free 0
      have r3 := H1.out.free 1
      have hZ := (Blk.set (Blk.set H1.out 0 (.slice none 0 0)) 1 (.slice none 0 0))
      have hX := below_set (below_set HB1.out (g := w.heap.size + 1) (j := 0) (by omega) (.slice none 0 0)) (g := w.heap.size + 1) (j := 1) (by omega) (.slice none 0 0)
      have HZ := Lib.hid hZ
      have HX := Lib.hid hX
      clear hZ hX
      go_wp2_with fail
      clear r0 r1 r2 r3 k0 k1
      revert HZ HX
      generalize ((World.setCell _ _ _).setCell _ _) = wz
      intro HZ HX
      have z0 := HZ.out.cell 0 _ rfl
      have z1 := HZ.out.cell 1 _ rfl
      exact bodyPost_ret (v := .tuple #[.agg #[.slice none 0 0, .slice none 0 0], .bool false]) (by simp [results, Try.results35, go_sem, z0, z1]) rfl ⟨none, 0, none, 0, rfl, own_none _ _ _, HX.out⟩
  · have hTT : T = noTab ∧ b = false := by
      unfold protOf at hT
      rw [if_neg (fun h => ok h.1)] at hT
      exact ⟨(congrArg Prod.fst hT).symm, (congrArg Prod.snd hT).symm⟩
    obtain ⟨rfl, rfl⟩ := hTT
    clear hT
    go_enter Try.func35, Try.ntmps35
    go_upto_region 1 with fail
    rw [HWB.out]
    clear HWB
    go_wp2_with fail
    refine (implIsTable_any A n c D m d t _ HR.out hn hm hl false (decide_eq_false ok)).mono ?_
    rintro e w1 ⟨rfl, hb⟩
    clear k0 k1
    have HB1 := Lib.hid (below_then HB0.out hb)
    replace HR := Lib.hid (HR.out.grow hb)
    replace H0 := Lib.hid (Blk.kept hb H0.out)
    replace H1 := Lib.hid (Blk.kept hb H1.out)
    have HS1 := Lib.hid hb.size
    have k0 := H0.out.cell 0 _ rfl
    have k1 := H0.out.cell 1 _ rfl
    clear hb HB0
    have r0 := H1.out.cell 0 _ rfl
    have r1 := H1.out.cell 1 _ rfl
    have r2 := H1.out.free 0
    have r3 := H1.out.free 1
    have hZ := (Blk.set (Blk.set H1.out 0 (.slice none 0 0)) 1 (.slice none 0 0))
    have hX := below_set (below_set HB1.out (g := w.heap.size + 1) (j := 0) (by omega) (.slice none 0 0)) (g := w.heap.size + 1) (j := 1) (by omega) (.slice none 0 0)
    have HZ := Lib.hid hZ
    have HX := Lib.hid hX
    clear hZ hX
    go_wp2_with fail
    clear r0 r1 r2 r3 k0 k1
    revert HZ HX
    generalize ((World.setCell _ _ _).setCell _ _) = wz
    intro HZ HX
    have z0 := HZ.out.cell 0 _ rfl
    have z1 := HZ.out.cell 1 _ rfl
    exact bodyPost_ret (v := .tuple #[.agg #[.slice none 0 0, .slice none 0 0], .bool false]) (by simp [results, Try.results35, go_sem, z0, z1]) rfl ⟨none, 0, none, 0, rfl, own_none _ _ _, HX.out⟩
end Go.Proofs.Ytaamjnpknmimmab.L4
