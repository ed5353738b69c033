/- What impl.UnmapPage answers. -/
import Derived.Test.YtaamjnpknmimmabProt
import Derived.Test.YtaamjnpknmimmabUnL
namespace Go.Proofs.Ytaamjnpknmimmab.L4
open Go Go.RowKit Go.Proofs.Ytaamjnpknmimmab.Mem Go.Proofs.Ytaamjnpknmimmab.Own Go.Proofs.Ytaamjnpknmimmab.L1
def isE (xs : List Ent) : Bool := !xs.any fun x => decide (x.f ≠ -1)
/-- a table whose page has been taken out -/
def unmT (t : Tab) (p : Nat) : Tab := if isE ((setE t p noEnt).leaves.getD (dirOf t p).toNat ([] : List Ent)) = true then withoutT (setE t p noEnt) (dirOf t p).toNat else setE t p noEnt
def unmapOf (t : Tab) (page : Int) : Tab × Bool := if CanP t page then (unmT t page.toNat, true) else (noTab, false)
set_option maxRecDepth 100000 in
set_option maxHeartbeats 4000000 in
theorem implUnm_any (A : Option Addr) (n c : Nat) (D : Option Addr) (m d : Nat) (page : Int) (t : Tab) (w : World) (hr : ReadsT w w.heap.size A n D m t) (hn : n ≤ 1048576) (hm : m ≤ 1048576) (hl : ∀ xs ∈ t.leaves, xs.length ≤ 1048576) (T : Tab) (b : Bool) (hT : unmapOf t page = (T, b)) :
    Calls Try.prog 11 #[.agg #[.slice A n c, .slice D m d], .int .i64 page] w fun e w' => ∃ A' c' D' d', e = .returned (.tuple #[.agg #[.slice A' T.dirs.length c', .slice D' T.leaves.length d'], .bool b]) ∧ OwnT w' w.heap.size w'.heap.size A' T.dirs.length c' D' T.leaves.length d' T ∧ Below w.heap.size w w' := by
  obtain ⟨wb, hwb⟩ : ∃ wb, (w.alloc (.cells #[.slice A n c, .slice D m d] 29)).alloc (.cells #[.slice none 0 0, .slice none 0 0] 29) = wb := ⟨_, rfl⟩
  have hb0 : Below w.heap.size w wb := by rw [← hwb]; exact below_more (below_more (Below.refl _ _) _) _
  have h0 : Blk wb w.heap.size 29 #[.slice A n c, .slice D m d] := by rw [← hwb]; exact Blk.alloc (Blk.new _ _ _) _
  have h1 : Blk wb (w.heap.size + 1) 29 #[.slice none 0 0, .slice none 0 0] := by
    rw [← hwb]
    have h := Blk.new (w.alloc (.cells #[.slice A n c, .slice D m d] 29)) #[.slice none 0 0, .slice none 0 0] 29
    rwa [size1] at h
  have hsz : wb.heap.size = w.heap.size + 1 + 1 := by rw [← hwb, size1, size1]
  have hml := hr.leaves.len
  have HR := Lib.hid (hr.grow hb0)
  have H0 := Lib.hid h0
  have H1 := Lib.hid h1
  have HB0 := Lib.hid hb0
  have HWB := Lib.hid hwb
  have HSZ := Lib.hid hsz
  have k0 := h0.cell 0 _ rfl
  have k1 := h0.cell 1 _ rfl
  clear hr h0 h1 hb0 hwb hsz
  by_cases ok : OkT t
  · by_cases hp : 0 ≤ page ∧ page < 16
    · obtain ⟨p, rfl⟩ : ∃ p : Nat, page = p := ⟨page.toNat, by omega⟩
      have hp16 : p < 16 := by omega
      by_cases hz : faultOf t p = 0
      · have hTT : T = unmT t p ∧ b = true := by
          unfold unmapOf at hT
          rw [if_pos ⟨ok, hp.1, hp.2, hz⟩] at hT
          exact ⟨(congrArg Prod.fst hT).symm, (congrArg Prod.snd hT).symm⟩
        obtain ⟨rfl, rfl⟩ := hTT
        clear hT
        obtain ⟨q, hq, hqm, hl4⟩ := mapped_at ok hml hp16 hz
        have hdb : ∀ z ∈ (setE t p noEnt).dirs, -1 ≤ z ∧ z ≤ 1048576 := fun z hz => by rcases ok.2.1 z hz with h | h <;> omega
        have hqd : (setE t p noEnt).dirs[p / 4]? = some (q : Int) := by
          have hlt : p / 4 < t.dirs.length := by rw [ok.1]; omega
          have : dirOf t p = t.dirs[p / 4] := by unfold dirOf; rw [List.getD, List.getElem?_eq_getElem hlt]; rfl
          rw [setE_dirs, List.getElem?_eq_getElem hlt, ← this, hq]
        have hqt : (dirOf t p).toNat = q := by rw [hq]; rfl
        have HQ := Lib.hid hq
        have HL4 := Lib.hid hl4
        have HZF := Lib.hid hz
        have HDB := Lib.hid hdb
        have HQD := Lib.hid hqd
        have HQT := Lib.hid hqt
        have hm0 : 0 < m := by omega
        have hd4 : (unmT t p).dirs.length = 4 := by unfold unmT; split <;> simp [withoutT, setE_dirs, ok.1]
        obtain ⟨U, hU⟩ : ∃ U, unmT t p = U := ⟨_, rfl⟩
        obtain ⟨mm, hmm⟩ : ∃ k, (unmT t p).leaves.length = k := ⟨_, rfl⟩
        rw [hd4, hmm, hU]
        have HU := Lib.hid hU
        have HMM := Lib.hid hmm
        clear hd4 hU hmm
        clear hq hl4 hz hdb hqd hqt
        go_enter Try.func11, Try.ntmps11
        go_upto_region 1 with fail
        rw [HWB.out]
        clear HWB
        go_wp2_with fail
        refine (implIsTable_any A n c D m d t _ HR.out hn hm hl true (decide_eq_true ok)).mono ?_
        rintro e w1 ⟨rfl, hb⟩
        clear k0 k1
        have HB1 := Lib.hid (below_then HB0.out hb)
        replace HR := Lib.hid (HR.out.grow hb)
        replace H0 := Lib.hid (Blk.kept hb H0.out)
        replace H1 := Lib.hid (Blk.kept hb H1.out)
        have HS1 := Lib.hid hb.size
        have k0 := H0.out.cell 0 _ rfl
        have k1 := H0.out.cell 1 _ rfl
        clear hb HB0
        go_wp2_with fail
        refine (isPage_any p true (decide_eq_true hp) _).mono ?_
        rintro e w2 ⟨rfl, hw⟩
        subst hw
        go_wp2_with fail
        refine (isMapped_any A n c D m d p t _ HR.out ok hp16 true (decide_eq_true HZF.out)).mono ?_
        rintro e w2 ⟨rfl, hb⟩
        clear k0 k1
        have HB2 := Lib.hid (below_then HB1.out hb)
        replace HR := Lib.hid (HR.out.grow hb)
        replace H0 := Lib.hid (Blk.kept hb H0.out)
        replace H1 := Lib.hid (Blk.kept hb H1.out)
        have HS2 := Lib.hid hb.size
        have k0 := H0.out.cell 0 _ rfl
        have k1 := H0.out.cell 1 _ rfl
        clear hb HB1
        go_wp2_with fail
        refine (copyTable_any A n c D m d t _ HR.out ok hm).mono ?_
        rintro e w3 ⟨A', c', D', d', rfl, hown, hb⟩
        have hs2 := hb.size
        have hlow : w.heap.size + 1 + 1 ≤ w2.heap.size := by have := HSZ.out; have := HS1.out; have := HS2.out; omega
        obtain ⟨wc, hwc⟩ : ∃ wc, w3.alloc (.cells #[.slice A' 4 c', .slice D' m d'] 29) = wc := ⟨_, rfl⟩
        obtain ⟨cp, hcp⟩ : ∃ cp, w3.heap.size = cp := ⟨_, rfl⟩
        have hb3 : Below w3.heap.size w3 wc := by rw [← hwc]; exact below_more (Below.refl _ _) _
        have hcc : Blk wc cp 29 #[.slice A' 4 c', .slice D' m d'] := by rw [← hwc, ← hcp]; exact Blk.new _ _ _
        have HB3 := Lib.hid (below_then (below_then HB2.out hb) hb3)
        have HO := Lib.hid ((hown.below hb3).mono (lo' := w.heap.size + 1 + 1) (hi' := cp) hlow (by omega))
        have HCW := Lib.hid hcc.lt
        replace H1 := Lib.hid (Blk.kept hb3 (Blk.kept hb H1.out))
        have HC := Lib.hid hcc
        have HORD : Hid (w.heap.size + 1 + 1 ≤ cp) := Lib.hid (by omega)
        have HWC := Lib.hid hwc
        have HCP := Lib.hid hcp
        have x0 := hcc.cell 0 _ rfl
        have x1 := hcc.cell 1 _ rfl
        clear hown hb hs2 hlow hb3 hcc hwc hcp k0 k1 H0 HB2 HR
        go_upto_region 4 with fail
        rw [HWC.out, HCP.out]
        clear HWC HCP HSZ HS1 HS2
        go_wp2_with fail
        refine (setEntry_any _ _ c' m d' _ _ p q t (-1) false _ HO.out HQ.out hqm hp16 HL4.out).mono ?_
        rintro e w5 ⟨rfl, hown, honly⟩
        have hcp := HC.out.only honly (.inr (Nat.le_refl _))
        have h1p := H1.out.only honly (.inl (by have := HORD.out; omega))
        have hbp := honly.below HB3.out (by omega)
        have hdo := hown.dirs.own
        obtain ⟨gA, rfl⟩ := own_head hdo (by omega)
        obtain ⟨gD, rfl⟩ : ∃ g, D' = some ⟨g, 0, none⟩ := by
          obtain ⟨vs, hv, _⟩ := hown.leaves
          exact own_head hv.own hm0
        have c0 := (hdo.cellAt (p / 4) (by omega)).trans (I_at HQD.out)
        obtain ⟨bl, ol, A5, n5, c5, xs, hDe, _, hxs, hcl, hrl, hn5, _, _⟩ := hown.reads.leaves.at_ hqm
        simp only [Option.some.injEq, Addr.mk.injEq, and_true] at hDe
        obtain ⟨rfl, rfl⟩ := hDe
        simp only [Nat.zero_add] at hcl
        have q0 := hcp.cell 0 _ rfl
        have q1 := hcp.cell 1 _ rfl
        have HC5 := Lib.hid hcp
        have H15 := Lib.hid h1p
        have HB5 := Lib.hid hbp
        have HO5 : Hid (OwnT w5 (w.heap.size + 1 + 1) cp (some ⟨gA, 0, none⟩) 4 c' (some ⟨gD, 0, none⟩) m d' (setE t p noEnt)) := Lib.hid hown
        have HRL := Lib.hid hrl
        have HXS : Hid ((setE t p noEnt).leaves[q]? = some xs) := Lib.hid hxs
        have hxl : xs.length = 4 := by
          have h := hxs
          have hql : q < t.leaves.length := by omega
          simp only [setE] at h
          rw [HQT.out, List.getElem?_set_self hql] at h
          have h2 := Option.some.inj h
          rw [← h2, List.length_set]; exact HL4.out
        have ew : IntKind.i64.wrap ((p : Int) / 4) = ((p / 4 : Nat) : Int) := by rw [IntWalk.i64_in _ (by omega)]; omega
        clear hcp h1p hbp hown honly hdo x0 x1 HC H1 HO HB3 hrl hxs
        rw [hxl] at hn5
        subst hn5
        obtain ⟨k4, hk4⟩ : ∃ k, p / 4 = k := ⟨_, rfl⟩
        rw [hk4] at c0 ew
        have hk44 : (k4 : Int) < 4 := by omega
        go_wp2_with fail
        refine (isEmpty_any A5 4 c5 xs _ HRL.out (by omega) (isE xs) rfl).mono ?_
        rintro e w6 ⟨rfl, hb⟩
        clear c0 hcl q0 q1 HRL ew
        have HC6 := Lib.hid (Blk.kept hb HC5.out)
        have H16 := Lib.hid (Blk.kept hb H15.out)
        have HB6 := Lib.hid (below_then HB5.out hb)
        have HO6 := Lib.hid (HO5.out.below hb)
        have hcp6 := HC6.out.lt
        clear hb HC5 H15 HB5 HO5
        have q0 := HC6.out.cell 0 _ rfl
        have q1 := HC6.out.cell 1 _ rfl
        have hgd : (setE t p noEnt).leaves.getD q ([] : List Ent) = xs := by rw [List.getD, HXS.out]; rfl
        cases he : isE xs
        · have hTT : unmT t p = setE t p noEnt := by unfold unmT; rw [HQT.out, hgd, he]; rfl
          have hU2 := HU.out
          have hM2 := HMM.out
          rw [hTT] at hU2 hM2
          rw [setE_leaves, hml] at hM2
          clear hTT hgd he HU HMM
          subst hU2 hM2
          have r0 := H16.out.cell 0 _ rfl
          have r1 := H16.out.cell 1 _ rfl
          have r2 := H16.out.free 0
          have r3 := H16.out.free 1
          have HZ := Lib.hid (Blk.set (Blk.set H16.out 0 (.slice (some ⟨gA, 0, none⟩) 4 c')) 1 (.slice (some ⟨gD, 0, none⟩) m d'))
          have HX := Lib.hid (below_set (below_set HB6.out (g := w.heap.size + 1) (j := 0) (by omega) (.slice (some ⟨gA, 0, none⟩) 4 c')) (g := w.heap.size + 1) (j := 1) (by omega) (.slice (some ⟨gD, 0, none⟩) m d'))
          have HTT := Lib.hid (HO6.out.only ((Only.set w6 (w.heap.size + 1) 0 (.slice (some ⟨gA, 0, none⟩) 4 c')).trans (Only.set _ (w.heap.size + 1) 1 (.slice (some ⟨gD, 0, none⟩) m d'))) (.inr (by omega)))
          have HS : Hid (cp ≤ ((w6.setCell ⟨w.heap.size + 1, 0, none⟩ (.slice (some ⟨gA, 0, none⟩) 4 c')).setCell ⟨w.heap.size + 1, 1, none⟩ (.slice (some ⟨gD, 0, none⟩) m d')).heap.size) := Lib.hid (by simp; omega)
          clear H16 HB6 HO6
          go_wp2_with fail
          clear r0 r1 r2 r3 q0 q1
          revert HZ HX HTT HS
          generalize ((World.setCell _ _ _).setCell _ _) = wy
          intro HZ HX HTT HS
          have z0 := HZ.out.cell 0 _ rfl
          have z1 := HZ.out.cell 1 _ rfl
          exact bodyPost_ret (v := .tuple #[.agg #[(.slice (some ⟨gA, 0, none⟩) 4 c'), (.slice (some ⟨gD, 0, none⟩) m d')], .bool true]) (by simp [results, Try.results11, go_sem, z0, z1]) rfl ⟨_, _, _, _, rfl, HTT.out.mono (by omega) HS.out, HX.out⟩
        · have hTT : unmT t p = withoutT (setE t p noEnt) q := by unfold unmT; rw [HQT.out, hgd, he]; rfl
          have hlm : (withoutT (setE t p noEnt) q).leaves.length = m - 1 := by
            simp only [withoutT, List.length_eraseIdx, setE_leaves, hml]
            rw [if_pos hqm]
          have hU2 := HU.out
          have hM2 := HMM.out
          rw [hTT] at hU2 hM2
          rw [hlm] at hM2
          clear hTT hgd he hlm HU HMM
          subst hU2 hM2
          go_wp2_with fail
          refine (withoutLeaf_any gA gD c' m d' (w.heap.size + 1 + 1) cp q (setE t p noEnt) _ HO6.out (Nat.le_of_lt hcp6) hqm HDB.out hm).mono ?_
          rintro e w7 ⟨rfl, hown, honly⟩
          have HO7 := Lib.hid hown
          have H17 := Lib.hid (H16.out.only honly (.inl (by omega)))
          have HB7 := Lib.hid (honly.below HB6.out (by omega))
          have hcp7 : cp < w7.heap.size := Nat.lt_of_lt_of_le hcp6 honly.size
          clear hown honly H16 HB6 HO6 q0 q1 HC6
          have r0 := H17.out.cell 0 _ rfl
          have r1 := H17.out.cell 1 _ rfl
          have r2 := H17.out.free 0
          have r3 := H17.out.free 1
          have HZ := Lib.hid (Blk.set (Blk.set H17.out 0 (.slice (some ⟨gA, 0, none⟩) 4 c')) 1 (.slice (some ⟨gD, 0, none⟩) (m - 1) d'))
          have HX := Lib.hid (below_set (below_set HB7.out (g := w.heap.size + 1) (j := 0) (by omega) (.slice (some ⟨gA, 0, none⟩) 4 c')) (g := w.heap.size + 1) (j := 1) (by omega) (.slice (some ⟨gD, 0, none⟩) (m - 1) d'))
          have HTT := Lib.hid (HO7.out.only ((Only.set w7 (w.heap.size + 1) 0 (.slice (some ⟨gA, 0, none⟩) 4 c')).trans (Only.set _ (w.heap.size + 1) 1 (.slice (some ⟨gD, 0, none⟩) (m - 1) d'))) (.inr (by omega)))
          have HS : Hid (cp ≤ ((w7.setCell ⟨w.heap.size + 1, 0, none⟩ (.slice (some ⟨gA, 0, none⟩) 4 c')).setCell ⟨w.heap.size + 1, 1, none⟩ (.slice (some ⟨gD, 0, none⟩) (m - 1) d')).heap.size) := Lib.hid (by simp; omega)
          clear H17 HB7 HO7
          go_wp2_with fail
          clear r0 r1 r2 r3
          revert HZ HX HTT HS
          generalize ((World.setCell _ _ _).setCell _ _) = wy
          intro HZ HX HTT HS
          have z0 := HZ.out.cell 0 _ rfl
          have z1 := HZ.out.cell 1 _ rfl
          exact bodyPost_ret (v := .tuple #[.agg #[(.slice (some ⟨gA, 0, none⟩) 4 c'), (.slice (some ⟨gD, 0, none⟩) (m - 1) d')], .bool true]) (by simp [results, Try.results11, go_sem, z0, z1]) rfl ⟨_, _, _, _, rfl, HTT.out.mono (by omega) HS.out, HX.out⟩
      · have hTT : T = noTab ∧ b = false := by
          unfold unmapOf at hT
          rw [if_neg (fun h => hz h.2.2.2)] at hT
          exact ⟨(congrArg Prod.fst hT).symm, (congrArg Prod.snd hT).symm⟩
        obtain ⟨rfl, rfl⟩ := hTT
        clear hT
        go_enter Try.func11, Try.ntmps11
        go_upto_region 1 with fail
        rw [HWB.out]
        clear HWB
        go_wp2_with fail
        refine (implIsTable_any A n c D m d t _ HR.out hn hm hl true (decide_eq_true ok)).mono ?_
        rintro e w1 ⟨rfl, hb⟩
        clear k0 k1
        have HB1 := Lib.hid (below_then HB0.out hb)
        replace HR := Lib.hid (HR.out.grow hb)
        replace H0 := Lib.hid (Blk.kept hb H0.out)
        replace H1 := Lib.hid (Blk.kept hb H1.out)
        have HS1 := Lib.hid hb.size
        have k0 := H0.out.cell 0 _ rfl
        have k1 := H0.out.cell 1 _ rfl
        clear hb HB0
        go_wp2_with fail
        refine (isPage_any p true (decide_eq_true hp) _).mono ?_
        rintro e w2 ⟨rfl, hw⟩
        subst hw
        go_wp2_with fail
        refine (isMapped_any A n c D m d p t _ HR.out ok hp16 false (decide_eq_false hz)).mono ?_
        rintro e w2 ⟨rfl, hb⟩
        clear k0 k1
        have HB2 := Lib.hid (below_then HB1.out hb)
        replace HR := Lib.hid (HR.out.grow hb)
        replace H0 := Lib.hid (Blk.kept hb H0.out)
        replace H1 := Lib.hid (Blk.kept hb H1.out)
        have HS2 := Lib.hid hb.size
        have k0 := H0.out.cell 0 _ rfl
        have k1 := H0.out.cell 1 _ rfl
        clear hb HB1
        have r0 := H1.out.cell 0 _ rfl
        have r1 := H1.out.cell 1 _ rfl
        have r2 := H1.out.free 0
        have r3 := H1.out.free 1
        have hZ := (Blk.set (Blk.set H1.out 0 (.slice none 0 0)) 1 (.slice none 0 0))
        have hX := below_set (below_set HB2.out (g := w.heap.size + 1) (j := 0) (by omega) (.slice none 0 0)) (g := w.heap.size + 1) (j := 1) (by omega) (.slice none 0 0)
        have HZ := Lib.hid hZ
        have HX := Lib.hid hX
        clear hZ hX
        go_wp2_with fail
        clear r0 r1 r2 r3 k0 k1
        revert HZ HX
        generalize ((World.setCell _ _ _).setCell _ _) = wz
        intro HZ HX
        have z0 := HZ.out.cell 0 _ rfl
        have z1 := HZ.out.cell 1 _ rfl
        exact bodyPost_ret (v := .tuple #[.agg #[.slice none 0 0, .slice none 0 0], .bool false]) (by simp [results, Try.results11, go_sem, z0, z1]) rfl ⟨none, 0, none, 0, rfl, own_none _ _ _, HX.out⟩
    · have hTT : T = noTab ∧ b = false := by
        unfold unmapOf at hT
        rw [if_neg (fun h => hp ⟨h.2.1, h.2.2.1⟩)] at hT
        exact ⟨(congrArg Prod.fst hT).symm, (congrArg Prod.snd hT).symm⟩
      obtain ⟨rfl, rfl⟩ := hTT
      clear hT
      go_enter Try.func11, Try.ntmps11
      go_upto_region 1 with fail
      rw [HWB.out]
      clear HWB
      go_wp2_with fail
      refine (implIsTable_any A n c D m d t _ HR.out hn hm hl true (decide_eq_true ok)).mono ?_
      rintro e w1 ⟨rfl, hb⟩
      clear k0 k1
      have HB1 := Lib.hid (below_then HB0.out hb)
      replace HR := Lib.hid (HR.out.grow hb)
      replace H0 := Lib.hid (Blk.kept hb H0.out)
      replace H1 := Lib.hid (Blk.kept hb H1.out)
      have HS1 := Lib.hid hb.size
      have k0 := H0.out.cell 0 _ rfl
      have k1 := H0.out.cell 1 _ rfl
      clear hb HB0
      go_wp2_with fail
      refine (isPage_any page false (decide_eq_false hp) _).mono ?_
      rintro e w2 ⟨rfl, hw⟩
      subst hw
      have r0 := H1.out.cell 0 _ rfl
      have r1 := H1.out.cell 1 _ rfl
      have r2 := H1.out.free 0
      have r3 := H1.out.free 1
      have hZ := (Blk.set (Blk.set H1.out 0 (.slice none 0 0)) 1 (.slice none 0 0))
      have hX := below_set (below_set HB1.out (g := w.heap.size + 1) (j := 0) (by omega) (.slice none 0 0)) (g := w.heap.size + 1) (j := 1) (by omega) (.slice none 0 0)
      have HZ := Lib.hid hZ
      have HX := Lib.hid hX
      clear hZ hX
      go_wp2_with fail
      clear r0 r1 r2 r3 k0 k1
      revert HZ HX
      generalize ((World.setCell _ _ _).setCell _ _) = wz
      intro HZ HX
      have z0 := HZ.out.cell 0 _ rfl
      have z1 := HZ.out.cell 1 _ rfl
      exact bodyPost_ret (v := .tuple #[.agg #[.slice none 0 0, .slice none 0 0], .bool false]) (by simp [results, Try.results11, go_sem, z0, z1]) rfl ⟨none, 0, none, 0, rfl, own_none _ _ _, HX.out⟩
  · have hTT : T = noTab ∧ b = false := by
      unfold unmapOf at hT
      rw [if_neg (fun h => ok h.1)] at hT
      exact ⟨(congrArg Prod.fst hT).symm, (congrArg Prod.snd hT).symm⟩
    obtain ⟨rfl, rfl⟩ := hTT
    clear hT
    go_enter Try.func11, Try.ntmps11
    go_upto_region 1 with fail
    rw [HWB.out]
    clear HWB
    go_wp2_with fail
    refine (implIsTable_any A n c D m d t _ HR.out hn hm hl false (decide_eq_false ok)).mono ?_
    rintro e w1 ⟨rfl, hb⟩
    clear k0 k1
    have HB1 := Lib.hid (below_then HB0.out hb)
    replace HR := Lib.hid (HR.out.grow hb)
    replace H0 := Lib.hid (Blk.kept hb H0.out)
    replace H1 := Lib.hid (Blk.kept hb H1.out)
    have HS1 := Lib.hid hb.size
    have k0 := H0.out.cell 0 _ rfl
    have k1 := H0.out.cell 1 _ rfl
    clear hb HB0
    have r0 := H1.out.cell 0 _ rfl
    have r1 := H1.out.cell 1 _ rfl
    have r2 := H1.out.free 0
    have r3 := H1.out.free 1
    have hZ := (Blk.set (Blk.set H1.out 0 (.slice none 0 0)) 1 (.slice none 0 0))
    have hX := below_set (below_set HB1.out (g := w.heap.size + 1) (j := 0) (by omega) (.slice none 0 0)) (g := w.heap.size + 1) (j := 1) (by omega) (.slice none 0 0)
    have HZ := Lib.hid hZ
    have HX := Lib.hid hX
    clear hZ hX
    go_wp2_with fail
    clear r0 r1 r2 r3 k0 k1
    revert HZ HX
    generalize ((World.setCell _ _ _).setCell _ _) = wz
    intro HZ HX
    have z0 := HZ.out.cell 0 _ rfl
    have z1 := HZ.out.cell 1 _ rfl
    exact bodyPost_ret (v := .tuple #[.agg #[.slice none 0 0, .slice none 0 0], .bool false]) (by simp [results, Try.results11, go_sem, z0, z1]) rfl ⟨none, 0, none, 0, rfl, own_none _ _ _, HX.out⟩
end Go.Proofs.Ytaamjnpknmimmab.L4
