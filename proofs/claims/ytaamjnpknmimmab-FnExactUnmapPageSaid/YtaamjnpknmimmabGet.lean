/- What entryOf, isMapped of impl and l4Page, l4Get of spec answer. -/
import Derived.Test.YtaamjnpknmimmabIsTS
import Derived.Test.YtaamjnpknmimmabOnly
import Derived.Deep.Cut
namespace Go.Proofs.Ytaamjnpknmimmab.L4
open Go Go.RowKit Go.Proofs.Ytaamjnpknmimmab.Mem Go.Proofs.Ytaamjnpknmimmab.Own Go.Proofs.Ytaamjnpknmimmab.L1
/-- what a page's directory and entry are in memory -/
theorem page_at {w : World} {B n m p : Nat} {A D : Option Addr} {t : Tab} (h : ReadsT w B A n D m t) (ok : OkT t) (hp : p < 16) :
    n = 4 ∧ ∃ b o, A = some ⟨b, o, none⟩ ∧ w.cell? ⟨b, o + p / 4, none⟩ = some (.int .i64 (dirOf t p)) ∧ (dirOf t p = -1 ∨ ∃ (q b2 o2 b3 o3 c3 : Nat), dirOf t p = q ∧ D = some ⟨b2, o2, none⟩ ∧ q < m ∧ w.cell? ⟨b2, o2 + q, none⟩ = some (.slice (some ⟨b3, o3, none⟩) 4 c3) ∧
      w.cell? ⟨b3, o3 + p % 4 * 2, none⟩ = some (.int .i64 (get t p).f) ∧ w.cell? ⟨b3, o3 + p % 4 * 2 + 1, none⟩ = some (.bool (get t p).wr)) := by
  have hn : n = 4 := by rw [← h.dlen]; exact ok.1
  subst hn
  obtain ⟨b, o, z, rfl, _, hz, hc⟩ := h.dirs.int_at (k := p / 4) (by omega)
  have hd : dirOf t p = z := by unfold dirOf; rw [List.getD, hz]; rfl
  refine ⟨rfl, b, o, rfl, by rw [hd]; exact hc, ?_⟩
  rw [hd]
  rcases ok.2.1 z (List.mem_of_getElem? hz) with h1 | h1
  · exact .inl h1
  · right
    have hm := h.leaves.len
    rw [hm] at h1
    have hlt : z.toNat < m := by omega
    obtain ⟨b2, o2, A3, n3, c3, xs, rfl, _, hu, hc2, hx, hn3, hnc, _⟩ := h.leaves.at_ hlt
    have hg : t.leaves.getD z.toNat ([] : List Ent) = xs := by rw [List.getD, hu]; rfl
    have hl := (ok.2.2 z.toNat (by rw [hm]; exact hlt)).2
    rw [hg] at hl
    have h4 : n3 = 4 := by rw [hn3]; exact hl.1
    subst h4
    obtain ⟨b3, o3, x, rfl, _, hx2, c0, c1⟩ := ent_at hx (k := p % 4) (by omega)
    have hget : get t p = x := by
      unfold get
      rw [hd, if_neg (by omega), hg, List.getD, hx2]
      rfl
    refine ⟨z.toNat, b2, o2, b3, o3, c3, by omega, rfl, hlt, hc2, ?_, ?_⟩
    · rw [hget]; exact c0
    · rw [hget]; exact c1
set_option maxRecDepth 100000 in
set_option maxHeartbeats 2000000 in
theorem entryOf_any (A : Option Addr) (n c : Nat) (D : Option Addr) (m d p : Nat) (t : Tab) (w : World) (hr : ReadsT w w.heap.size A n D m t) (ok : OkT t) (hp : p < 16) :
    Calls Try.prog 85 #[.agg #[.slice A n c, .slice D m d], .int .i64 p] w fun e w' => e = .returned (.tuple #[.agg #[.int .i64 (get t p).f, .bool (get t p).wr], .int .i64 (faultOf t p)]) ∧ Below w.heap.size w w' := by
  obtain ⟨wb, hwb⟩ : ∃ wb, (w.alloc (.cells #[.slice A n c, .slice D m d] 29)).alloc (.cells #[.int .i64 0, .bool false] 70) = wb := ⟨_, rfl⟩
  have hb0 : Below w.heap.size w wb := by rw [← hwb]; exact below_more (below_more (Below.refl _ _) _) _
  have h0 : Blk wb w.heap.size 29 #[.slice A n c, .slice D m d] := by rw [← hwb]; exact Blk.alloc (Blk.new _ _ _) _
  have h1 : Blk wb (w.heap.size + 1) 70 #[.int .i64 0, .bool false] := by
    rw [← hwb]
    have h := Blk.new (w.alloc (.cells #[.slice A n c, .slice D m d] 29)) #[.int .i64 0, .bool false] 70
    rwa [size1] at h
  have hs0 : wb.heap.size = w.heap.size + 1 + 1 := by rw [← hwb, size1, size1]
  obtain ⟨hn, b, o, rfl, hc, hcase⟩ := page_at (hr.grow hb0) ok hp
  subst hn
  have H0 := Lib.hid h0
  have H1 := Lib.hid h1
  have HB0 := Lib.hid hb0
  have HWB := Lib.hid hwb
  have HS := Lib.hid hs0
  have k0 := h0.cell 0 _ rfl
  have k1 := h0.cell 1 _ rfl
  have l0 := h1.cell 0 _ rfl
  have l1 := h1.cell 1 _ rfl
  have l2 := h1.free 0
  have l3 := h1.free 1
  clear h0 h1 hb0 hwb hs0 hr
  have hq4 : ((p : Int) / 4).toNat = p / 4 := by omega
  obtain ⟨f, hf⟩ : ∃ f, (get t p).f = f := ⟨_, rfl⟩
  obtain ⟨wr_, hwr⟩ : ∃ f, (get t p).wr = f := ⟨_, rfl⟩
  rcases hcase with hk | ⟨q, b2, o2, b3, o3, c3, hk, rfl, hqm, e0, e1, e2⟩
  · have HF : Hid (faultOf t p = 1 ∧ f = -1 ∧ wr_ = false) := Lib.hid (by unfold faultOf; rw [if_pos hk, ← hf, ← hwr]; unfold get; rw [if_pos hk]; exact ⟨rfl, rfl, rfl⟩)
    rw [hk] at hc
    rw [hf, hwr]
    clear hk hf hwr
    go_enter Try.func85, Try.ntmps85
    go_upto_region 1 with fail
    rw [HWB.out]
    clear HWB
    go_wp2_with fail
    have h1s := HS.out
    have HZ := Lib.hid (Blk.set (Blk.set H1.out 0 (.int .i64 (-1))) 1 (.bool false))
    have HX := Lib.hid (below_set (below_set HB0.out (g := w.heap.size + 1) (j := 0) (by omega) (.int .i64 (-1))) (g := w.heap.size + 1) (j := 1) (by omega) (.bool false))
    clear k0 k1 l0 l1 l2 l3 hc h1s
    revert HZ HX
    generalize ((wb.setCell _ _).setCell _ _) = wz
    intro HZ HX
    have z0 := HZ.out.cell 0 _ rfl
    have z1 := HZ.out.cell 1 _ rfl
    refine bodyPost_ret (v := .tuple #[.agg #[.int .i64 (-1), .bool false], .int .i64 1]) (by simp [results, Try.results85, go_sem, z0, z1]) rfl ⟨by rw [HF.out.1, HF.out.2.1, HF.out.2.2], HX.out⟩
  · have HK := Lib.hid hk
    rw [hk] at hc
    rw [hf, hwr]
    rw [hf] at e1
    rw [hwr] at e2
    have HF1 : Hid (faultOf t p = if f = -1 then 2 else 0) := Lib.hid (by unfold faultOf; rw [if_neg (by rw [HK.out]; omega), hf])
    clear hk hf hwr
    have hkb : ((q : Int) == -1) = false := by simp
    have hw2 : (wb.alloc (.cells #[.int .i64 f, .bool wr_] 70)).heap.size = wb.heap.size + 1 := size1 _ _
    have p0 := Blk.new wb #[.int .i64 f, .bool wr_] 70
    have hba := below_more HB0.out (.cells #[.int .i64 f, .bool wr_] 70)
    have HP := Lib.hid p0
    have HA := Lib.hid hba
    have HJ := Lib.hid (Blk.alloc H1.out (.cells #[.int .i64 f, .bool wr_] 70))
    clear hba hw2 p0
    go_enter Try.func85, Try.ntmps85
    go_upto_region 1 with fail
    rw [HWB.out]
    clear HWB
    go_wp2_with fail
    by_cases hf1 : f = -1
    · subst hf1
      refine (hasFrame_any (-1) wr_ false (by decide) _).mono ?_
      rintro e w2 ⟨rfl, hb⟩
      have J1 := Lib.hid (Blk.kept hb HJ.out)
      have j0 := (Blk.kept hb HP.out).cell 0 _ rfl
      have j1 := (Blk.kept hb HP.out).cell 1 _ rfl
      have HW := Lib.hid (below_then HA.out hb)
      replace l0 := J1.out.cell 0 _ rfl
      replace l1 := J1.out.cell 1 _ rfl
      replace l2 := J1.out.free 0
      replace l3 := J1.out.free 1
      clear hb HP HA HJ H0 H1 HB0
      go_wp2_with fail
      have h1s := HS.out
      have HZ := Lib.hid (Blk.set (Blk.set J1.out 0 (.int .i64 (-1))) 1 (.bool wr_))
      have HX := Lib.hid (below_set (below_set HW.out (g := w.heap.size + 1) (j := 0) (by omega) (.int .i64 (-1))) (g := w.heap.size + 1) (j := 1) (by omega) (.bool wr_))
      clear k0 k1 l0 l1 l2 l3 hc h1s j0 j1
      revert HZ HX
      generalize ((w2.setCell _ _).setCell _ _) = wz
      intro HZ HX
      have z0 := HZ.out.cell 0 _ rfl
      have z1 := HZ.out.cell 1 _ rfl
      refine bodyPost_ret (v := .tuple #[.agg #[.int .i64 (-1), .bool wr_], .int .i64 2]) (by simp [results, Try.results85, go_sem, z0, z1]) rfl ⟨by rw [HF1.out]; rfl, HX.out⟩
    · refine (hasFrame_any f wr_ true (by simpa using hf1) _).mono ?_
      rintro e w2 ⟨rfl, hb⟩
      have J1 := Lib.hid (Blk.kept hb HJ.out)
      have j0 := (Blk.kept hb HP.out).cell 0 _ rfl
      have j1 := (Blk.kept hb HP.out).cell 1 _ rfl
      have HW := Lib.hid (below_then HA.out hb)
      replace l0 := J1.out.cell 0 _ rfl
      replace l1 := J1.out.cell 1 _ rfl
      replace l2 := J1.out.free 0
      replace l3 := J1.out.free 1
      clear hb HP HA HJ H0 H1 HB0
      go_wp2_with fail
      have h1s := HS.out
      have HZ := Lib.hid (Blk.set (Blk.set J1.out 0 (.int .i64 f)) 1 (.bool wr_))
      have HX := Lib.hid (below_set (below_set HW.out (g := w.heap.size + 1) (j := 0) (by omega) (.int .i64 f)) (g := w.heap.size + 1) (j := 1) (by omega) (.bool wr_))
      clear k0 k1 l0 l1 l2 l3 hc h1s j0 j1
      revert HZ HX
      generalize ((w2.setCell _ _).setCell _ _) = wz
      intro HZ HX
      have z0 := HZ.out.cell 0 _ rfl
      have z1 := HZ.out.cell 1 _ rfl
      refine bodyPost_ret (v := .tuple #[.agg #[.int .i64 f, .bool wr_], .int .i64 0]) (by simp [results, Try.results85, go_sem, z0, z1]) rfl ⟨by rw [HF1.out]; rw [if_neg hf1], HX.out⟩
set_option maxHeartbeats 1000000 in
theorem isMapped_any (A : Option Addr) (n c : Nat) (D : Option Addr) (m d p : Nat) (t : Tab) (w : World) (hr : ReadsT w w.heap.size A n D m t) (ok : OkT t) (hp : p < 16) (b : Bool) (hb : decide (faultOf t p = 0) = b) :
    Calls Try.prog 56 #[.agg #[.slice A n c, .slice D m d], .int .i64 p] w fun e w' => e = .returned (.bool b) ∧ Below w.heap.size w w' := by
  have hb0 := below_more (Below.refl w.heap.size w) (.cells #[.slice A n c, .slice D m d] 29)
  have HR := Lib.hid (hr.grow hb0)
  have HB0 := Lib.hid hb0
  have HB := Lib.hid hb
  clear hr hb0 hb
  go_enter Try.func56, Try.ntmps56
  go_wp2_with fail
  refine (entryOf_any A n c D m d p t _ HR.out ok hp).mono ?_
  rintro e w1 ⟨rfl, hb⟩
  have HB1 := Lib.hid (below_then HB0.out hb)
  clear hb
  obtain ⟨z, hz⟩ : ∃ z, faultOf t p = z := ⟨_, rfl⟩
  rw [hz] at HB ⊢
  clear hz
  by_cases h0 : z = 0
  · subst h0
    go_wp2_with fail
    go_ret
    exact ⟨by rw [← HB.out]; rfl, below_more HB1.out _⟩
  · have hzb : (z == 0) = false := by simpa using h0
    have HF : Hid (b = false) := Lib.hid (by rw [← HB.out]; exact decide_eq_false h0)
    go_wp2_with fail
    go_ret
    exact ⟨by rw [HF.out]; rfl, below_more HB1.out _⟩
theorem l4Page_any (A : Option Addr) (n c : Nat) (D : Option Addr) (m d : Nat) (p : Int) (t : Tab) (w : World) (hr : ReadsT w w.heap.size A n D m t) (hn : n ≤ 1048576) (hm : m ≤ 1048576) (hl : ∀ xs ∈ t.leaves, xs.length ≤ 1048576) (hnc : n ≤ c) (b : Bool) (hb : decide (OkT t ∧ 0 ≤ p ∧ p < 16) = b) :
    Calls Try.prog 50 #[.agg #[.slice A n c, .slice D m d], .int .i64 p] w fun e w' => e = .returned (.bool b) ∧ Below w.heap.size w w' := by
  have hb0 := below_more (Below.refl w.heap.size w) (.cells #[.slice A n c, .slice D m d] 29)
  have HR := Lib.hid (hr.grow hb0)
  have HB0 := Lib.hid hb0
  have HB := Lib.hid hb
  clear hr hb0 hb
  by_cases ok : OkT t
  · by_cases hp : 0 ≤ p ∧ p < 16
    · have HF : Hid (b = true) := Lib.hid (by rw [← HB.out]; exact decide_eq_true ⟨ok, hp⟩)
      go_enter Try.func50, Try.ntmps50
      go_wp2_with fail
      refine (l4Good_any A n c D m d t _ HR.out hn hm hl hnc true (decide_eq_true ok)).mono ?_
      rintro e w1 ⟨rfl, hb⟩
      have HB1 := Lib.hid (below_then HB0.out hb)
      clear hb
      go_wp2_with fail
      refine (l1In_yes p 0 15 hp.1 (by omega) _).mono ?_
      rintro e w2 ⟨rfl, hw⟩
      subst hw
      go_wp2_with fail
      go_ret
      exact ⟨by rw [HF.out]; rfl, HB1.out⟩
    · have HF : Hid (b = false) := Lib.hid (by rw [← HB.out]; exact decide_eq_false fun h => hp h.2)
      go_enter Try.func50, Try.ntmps50
      go_wp2_with fail
      refine (l4Good_any A n c D m d t _ HR.out hn hm hl hnc true (decide_eq_true ok)).mono ?_
      rintro e w1 ⟨rfl, hb⟩
      have HB1 := Lib.hid (below_then HB0.out hb)
      clear hb
      go_wp2_with fail
      refine (l1In_no p 0 15 (by omega) _).mono ?_
      rintro e w2 ⟨rfl, hw⟩
      subst hw
      go_wp2_with fail
      go_ret
      exact ⟨by rw [HF.out]; rfl, HB1.out⟩
  · have HF : Hid (b = false) := Lib.hid (by rw [← HB.out]; exact decide_eq_false fun h => ok h.1)
    go_enter Try.func50, Try.ntmps50
    go_wp2_with fail
    refine (l4Good_any A n c D m d t _ HR.out hn hm hl hnc false (decide_eq_false ok)).mono ?_
    rintro e w1 ⟨rfl, hb⟩
    have HB1 := Lib.hid (below_then HB0.out hb)
    clear hb
    go_wp2_with fail
    go_ret
    exact ⟨by rw [HF.out]; rfl, HB1.out⟩
set_option maxRecDepth 100000 in
set_option maxHeartbeats 2000000 in
theorem l4Get_any (A : Option Addr) (n c : Nat) (D : Option Addr) (m d p : Nat) (t : Tab) (w : World) (hr : ReadsT w w.heap.size A n D m t) (ok : OkT t) (hp : p < 16) :
    Calls Try.prog 51 #[.agg #[.slice A n c, .slice D m d], .int .i64 p] w fun e w' => e = .returned (.agg #[.int .i64 (get t p).f, .bool (get t p).wr]) ∧ Below w.heap.size w w' := by
  obtain ⟨wb, hwb⟩ : ∃ wb, (w.alloc (.cells #[.slice A n c, .slice D m d] 29)).alloc (.cells #[.int .i64 0, .bool false] 70) = wb := ⟨_, rfl⟩
  have hb0 : Below w.heap.size w wb := by rw [← hwb]; exact below_more (below_more (Below.refl _ _) _) _
  have h0 : Blk wb w.heap.size 29 #[.slice A n c, .slice D m d] := by rw [← hwb]; exact Blk.alloc (Blk.new _ _ _) _
  have h1 : Blk wb (w.heap.size + 1) 70 #[.int .i64 0, .bool false] := by
    rw [← hwb]
    have h := Blk.new (w.alloc (.cells #[.slice A n c, .slice D m d] 29)) #[.int .i64 0, .bool false] 70
    rwa [size1] at h
  have hs0 : wb.heap.size = w.heap.size + 1 + 1 := by rw [← hwb, size1, size1]
  obtain ⟨hn, b, o, rfl, hc, hcase⟩ := page_at (hr.grow hb0) ok hp
  subst hn
  have H1 := Lib.hid h1
  have HB0 := Lib.hid hb0
  have HWB := Lib.hid hwb
  have HS := Lib.hid hs0
  have k0 := h0.cell 0 _ rfl
  have k1 := h0.cell 1 _ rfl
  have l0 := h1.cell 0 _ rfl
  have l1 := h1.cell 1 _ rfl
  have l2 := h1.free 0
  have l3 := h1.free 1
  clear h0 h1 hb0 hwb hs0 hr
  obtain ⟨f, hf⟩ : ∃ f, (get t p).f = f := ⟨_, rfl⟩
  obtain ⟨wr_, hwr⟩ : ∃ f, (get t p).wr = f := ⟨_, rfl⟩
  rcases hcase with hk | ⟨q, b2, o2, b3, o3, c3, hk, rfl, hqm, e0, e1, e2⟩
  · have HF : Hid (f = -1 ∧ wr_ = false) := Lib.hid (by rw [← hf, ← hwr]; unfold get; rw [if_pos hk]; exact ⟨rfl, rfl⟩)
    rw [hk] at hc
    rw [hf, hwr]
    clear hk hf hwr
    go_enter Try.func51, Try.ntmps51
    go_upto_region 1 with fail
    rw [HWB.out]
    clear HWB
    go_wp2_with fail
    have h1s := HS.out
    have HZ := Lib.hid (Blk.set (Blk.set H1.out 0 (.int .i64 (-1))) 1 (.bool false))
    have HX := Lib.hid (below_set (below_set HB0.out (g := w.heap.size + 1) (j := 0) (by omega) (.int .i64 (-1))) (g := w.heap.size + 1) (j := 1) (by omega) (.bool false))
    clear k0 k1 l0 l1 l2 l3 hc h1s
    revert HZ HX
    generalize ((wb.setCell _ _).setCell _ _) = wz
    intro HZ HX
    have z0 := HZ.out.cell 0 _ rfl
    have z1 := HZ.out.cell 1 _ rfl
    refine bodyPost_ret (v := .agg #[.int .i64 (-1), .bool false]) (by simp [results, Try.results51, go_sem, z0, z1]) rfl ⟨by rw [HF.out.1, HF.out.2], HX.out⟩
  · rw [hk] at hc
    rw [hf, hwr]
    rw [hf] at e1
    rw [hwr] at e2
    clear hk hf hwr
    have hkb : ((q : Int) != -1) = true := by simp
    go_enter Try.func51, Try.ntmps51
    go_upto_region 1 with fail
    rw [HWB.out]
    clear HWB
    go_wp2_with fail
    have h1s := HS.out
    have HZ := Lib.hid (Blk.set (Blk.set H1.out 0 (.int .i64 f)) 1 (.bool wr_))
    have HX := Lib.hid (below_set (below_set HB0.out (g := w.heap.size + 1) (j := 0) (by omega) (.int .i64 f)) (g := w.heap.size + 1) (j := 1) (by omega) (.bool wr_))
    clear k0 k1 l0 l1 l2 l3 hc h1s e0 e1 e2
    revert HZ HX
    generalize ((wb.setCell _ _).setCell _ _) = wz
    intro HZ HX
    have z0 := HZ.out.cell 0 _ rfl
    have z1 := HZ.out.cell 1 _ rfl
    refine bodyPost_ret (v := .agg #[.int .i64 f, .bool wr_]) (by simp [results, Try.results51, go_sem, z0, z1]) rfl ⟨rfl, HX.out⟩
end Go.Proofs.Ytaamjnpknmimmab.L4
