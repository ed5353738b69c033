/- What impl.withoutLeaf does. -/
import Derived.Test.YtaamjnpknmimmabDel
import Derived.Test.YtaamjnpknmimmabCopyT
import Derived.Test.YtaamjnpknmimmabOnly
import Derived.Deep.Cut
import Derived.Deep.CutRange
namespace Go.Proofs.Ytaamjnpknmimmab.L4
open Go Go.RowKit Go.Proofs.Ytaamjnpknmimmab.Mem Go.Proofs.Ytaamjnpknmimmab.Own Go.Proofs.Ytaamjnpknmimmab.L1
/-- a directory's entry where leaf k has gone -/
def dropDir (k : Nat) (d : Int) : Int := if d = (k : Int) then -1 else if (k : Int) < d then d - 1 else d
/-- a table without its leaf k -/
def withoutT (t : Tab) (k : Nat) : Tab := ⟨t.dirs.map (dropDir k), t.leaves.eraseIdx k⟩
/-- the directories, the first j of them changed -/
def partD (k : Nat) (ds : List Int) (j : Nat) : List Int := (ds.take j).map (dropDir k) ++ ds.drop j
theorem partD_len (k : Nat) (ds : List Int) (j : Nat) : (partD k ds j).length = ds.length := by simp [partD]; omega
theorem partD_zero (k : Nat) (ds : List Int) : partD k ds 0 = ds := by simp [partD]
theorem partD_all (k : Nat) (ds : List Int) (j : Nat) (h : ds.length ≤ j) : partD k ds j = ds.map (dropDir k) := by simp [partD, List.take_of_length_le h, List.drop_eq_nil_of_le h]
theorem partD_at (k : Nat) (ds : List Int) (j : Nat) (h : j < ds.length) : (partD k ds j)[j]? = ds[j]? := by
  unfold partD
  rw [List.getElem?_append_right (by simp; omega)]
  simp only [List.length_map, List.length_take, List.getElem?_drop]
  congr 1
  omega
theorem partD_next (k : Nat) (ds : List Int) (j : Nat) (x : Int) (h : ds[j]? = some x) : partD k ds (j + 1) = (partD k ds j).set j (dropDir k x) := by
  have hj : j < ds.length := (List.getElem?_eq_some_iff.1 h).1
  have hx : ds[j] = x := (List.getElem?_eq_some_iff.1 h).2
  apply List.ext_getElem?
  intro i
  by_cases hij : i = j
  · subst hij
    rw [List.getElem?_set_self (by rw [partD_len]; exact hj)]
    unfold partD
    rw [List.getElem?_append_left (by simp; omega)]
    simp [List.getElem?_map, h]
  · rw [List.getElem?_set_ne (fun e => hij e.symm)]
    unfold partD
    by_cases hlt : i < j
    · rw [List.getElem?_append_left (by simp; omega), List.getElem?_append_left (by simp; omega)]
      simp only [List.getElem?_map, List.getElem?_take]
      rw [if_pos (by omega), if_pos hlt]
    · rw [List.getElem?_append_right (by simp; omega), List.getElem?_append_right (by simp; omega)]
      simp only [List.length_map, List.length_take, List.getElem?_drop]
      congr 1
      omega
theorem partD_same (k : Nat) (ds : List Int) (j : Nat) (x : Int) (h : ds[j]? = some x) (hx : dropDir k x = x) : partD k ds (j + 1) = partD k ds j := by
  rw [partD_next k ds j x h, hx]
  apply List.ext_getElem?
  intro i
  by_cases hij : i = j
  · subst hij
    rw [List.getElem?_set_self (by rw [partD_len]; exact (List.getElem?_eq_some_iff.1 h).1), partD_at k ds i (List.getElem?_eq_some_iff.1 h).1, h]
  · rw [List.getElem?_set_ne (fun e => hij e.symm)]
/-- a directory's cell is set -/
theorem OwnT.setD {w : World} {lo hi g1 c m d : Nat} {D : Option Addr} {ds : List Int} {ls : List (List Ent)} (h : OwnT w lo hi (some ⟨g1, 0, none⟩) 4 c D m d ⟨ds, ls⟩) (j : Nat) (z : Int) :
    OwnT (w.setCell ⟨g1, j, none⟩ (.int .i64 z)) lo hi (some ⟨g1, 0, none⟩) 4 c D m d ⟨ds.set j z, ls⟩ ∧ Only lo hi w (w.setCell ⟨g1, j, none⟩ (.int .i64 z)) := by
  have s := h.dirs.own.stored j (.int .i64 z)
  obtain ⟨vs, hv, hinn⟩ := h.leaves
  exact ⟨⟨⟨by rw [← I_set]; exact s.1, h.dirs.lt⟩, vs, hv.away (u := .slice (some ⟨g1, 0, none⟩) 4 c) s.2 (apart_types h.dirs.own hv.own (by decide)), hinn.away (u := .slice (some ⟨g1, 0, none⟩) 4 c) h.dirs.own (by decide) s.2⟩, Only.of_Row h.dirs s.2⟩
theorem only_hi {w w1 : World} {lo hi g : Nat} (h : Only lo hi w w1) (hg : w.heap.size ≤ g) (j : Nat) (v : Value) : Only lo hi w (w1.setCell ⟨g, j, none⟩ v) :=
  ⟨h.os, h.tape, h.output, by simpa using h.size, fun k hk he => (heap_setCell_other w1 ⟨g, j, none⟩ k v (by show k ≠ g; omega)).trans (h.block k hk he)⟩
theorem Inn.one {w : World} {lo hi : Nat} {vs : List Value} {xss : List (List Ent)} (h : Inn w lo hi vs xss) : ∀ v ∈ vs, v.oneCell' = true := by
  intro v hv
  obtain ⟨i, hi⟩ := List.mem_iff_getElem?.1 hv
  have hl : i < vs.length := (List.getElem?_eq_some_iff.1 hi).1
  have hr := h.row i v _ hi (List.getElem?_eq_getElem (show i < xss.length by have := h.len; omega))
  obtain ⟨A, c, rfl, _, _⟩ := own_form hr.own
  rfl
theorem Inn.erase {w : World} {lo hi : Nat} {vs : List Value} {xss : List (List Ent)} (h : Inn w lo hi vs xss) (k : Nat) : Inn w lo hi (vs.eraseIdx k) (xss.eraseIdx k) := by
  have hl := h.len
  refine ⟨by rw [List.length_eraseIdx, List.length_eraseIdx, hl], fun i v xs h1 h2 => ?_, fun i j u v hij h1 h2 => ?_⟩
  · rw [List.getElem?_eraseIdx] at h1 h2
    split at h1
    · rename_i hlt
      rw [if_pos hlt] at h2
      exact h.row _ _ _ h1 h2
    · rename_i hlt
      rw [if_neg hlt] at h2
      exact h.row _ _ _ h1 h2
  · rw [List.getElem?_eraseIdx] at h1 h2
    split at h1 <;> split at h2
    · exact h.apart _ _ _ _ hij h1 h2
    · exact h.apart _ _ _ _ (by omega) h1 h2
    · omega
    · exact h.apart _ _ _ _ (by omega) h1 h2
/-- the slice of leaves has lost its k-th -/
theorem OwnT.gone {w w' : World} {lo hi g2 c m d k : Nat} {A : Option Addr} {ds : List Int} {ls : List (List Ent)} {vs : List Value} (hd : Row w lo hi 3 1 (.slice A 4 c) 4 (I ds)) (hv : Row w lo hi 74 1 (.slice (some ⟨g2, 0, none⟩) m d) m vs) (hinn : Inn w lo hi vs ls)
    (hr : Row w' lo hi 74 1 (.slice (some ⟨g2, 0, none⟩) (m - 1) d) (m - 1) (vs.eraseIdx k)) (hg : w.grownBy w' (some g2)) : OwnT w' lo hi A 4 c (some ⟨g2, 0, none⟩) (m - 1) d ⟨ds, ls.eraseIdx k⟩ ∧ Only lo hi w w' :=
  ⟨⟨hd.away (u := .slice (some ⟨g2, 0, none⟩) m d) hg (apart_types hv.own hd.own (by decide)), vs.eraseIdx k, hr, (hinn.away (u := .slice (some ⟨g2, 0, none⟩) m d) hv.own (by decide) hg).erase k⟩, Only.of_Row hv hg⟩
set_option maxRecDepth 100000 in
set_option maxHeartbeats 1500000 in
theorem withoutLeaf_any (g1 g2 : Nat) (c m d lo hi k : Nat) (t : Tab) (w : World) (h : OwnT w lo hi (some ⟨g1, 0, none⟩) 4 c (some ⟨g2, 0, none⟩) m d t) (hh : hi ≤ w.heap.size) (hk : k < m) (hd : ∀ z ∈ t.dirs, -1 ≤ z ∧ z ≤ 1048576) (hm : m ≤ 1048576) :
    Calls Try.prog 60 #[.agg #[.slice (some ⟨g1, 0, none⟩) 4 c, .slice (some ⟨g2, 0, none⟩) m d], .int .i64 k] w fun e w' => e = .returned (.agg #[.slice (some ⟨g1, 0, none⟩) 4 c, .slice (some ⟨g2, 0, none⟩) (m - 1) d]) ∧ OwnT w' lo hi (some ⟨g1, 0, none⟩) 4 c (some ⟨g2, 0, none⟩) (m - 1) d (withoutT t k) ∧ Only lo hi w w' := by
  obtain ⟨wb, hwb⟩ : ∃ wb, (w.alloc (.cells #[.slice (some ⟨g1, 0, none⟩) 4 c, .slice (some ⟨g2, 0, none⟩) m d] 29)).alloc (.cells #[.slice none 0 0, .slice none 0 0] 29) = wb := ⟨_, rfl⟩
  have hb0 : Below w.heap.size w wb := by rw [← hwb]; exact below_more (below_more (Below.refl _ _) _) _
  have h0 : Blk wb w.heap.size 29 #[.slice (some ⟨g1, 0, none⟩) 4 c, .slice (some ⟨g2, 0, none⟩) m d] := by rw [← hwb]; exact Blk.alloc (Blk.new _ _ _) _
  have h1 : Blk wb (w.heap.size + 1) 29 #[.slice none 0 0, .slice none 0 0] := by
    rw [← hwb]
    have h := Blk.new (w.alloc (.cells #[.slice (some ⟨g1, 0, none⟩) 4 c, .slice (some ⟨g2, 0, none⟩) m d] 29)) #[.slice none 0 0, .slice none 0 0] 29
    rwa [size1] at h
  have hl4 : t.dirs.length = 4 := by have := h.dirs.own.1; rw [I_len] at this; omega
  have HT := Lib.hid (h.below hb0)
  have H0 := Lib.hid h0
  have H1 := Lib.hid h1
  have HO := Lib.hid (Only.of_below (lo := lo) (hi := hi) hb0)
  have HWB := Lib.hid hwb
  have HD := Lib.hid hd
  have k0 := h0.cell 0 _ rfl
  clear h h0 h1 hb0 hwb hd
  go_enter Try.func60, Try.ntmps60
  go_upto_region 1 with fail
  rw [HWB.out]
  clear HWB
  go_wp2_with fail
  clear k0
  go_loopw [10] (fun i wr => ∃ (j : Nat), i = .int .i64 j ∧ j ≤ 4 ∧ Hid (OwnT wr lo hi (some ⟨g1, 0, none⟩) 4 c (some ⟨g2, 0, none⟩) m d ⟨partD k t.dirs j, t.leaves⟩) ∧ Hid (Blk wr w.heap.size 29 #[.slice (some ⟨g1, 0, none⟩) 4 c, .slice (some ⟨g2, 0, none⟩) m d]) ∧ Hid (Blk wr (w.heap.size + 1) 29 #[.slice none 0 0, .slice none 0 0]) ∧ Hid (Only lo hi w wr)) (fun i _ => 4 - (intOf i).toNat)
  case atStart => exact ⟨0, by go_num, by omega, by rw [partD_zero]; exact HT, H0, H1, HO⟩
  case round =>
    clear HT H0 H1 HO
    obtain ⟨j, rfl, hj, HT, H0, H1, HO⟩ := hrel
    by_cases hj4 : (j : Int) < 4
    · obtain ⟨x, hx⟩ : ∃ x, t.dirs[j]? = some x := ⟨_, List.getElem?_eq_getElem (by omega)⟩
      have hxb := HD.out x (List.mem_of_getElem? hx)
      have c0 := (HT.out.dirs.own.cellAt j (by omega)).trans (I_at ((partD_at k t.dirs j (by omega)).trans hx))
      have f0 := HT.out.dirs.own.frozenAt j
      have k0 := H0.out.cell 0 _ rfl
      by_cases ek : x = (k : Int)
      · have hdr : dropDir k x = -1 := by unfold dropDir; rw [if_pos ek]
        subst ek
        have HT2 := Lib.hid (HT.out.setD j (-1)).1
        have HO2 := Lib.hid (HO.out.trans (HT.out.setD j (-1)).2)
        have H02 := Lib.hid (H0.out.only (HT.out.setD j (-1)).2 (.inr hh))
        have H12 := Lib.hid (H1.out.only (HT.out.setD j (-1)).2 (.inr (by omega)))
        have hpn := partD_next k t.dirs j _ hx
        rw [hdr] at hpn
        rw [← hpn] at HT2
        clear hpn hx HT H0 H1 HO
        go_wp2_with fail
        go_roundw
        case rel => exact ⟨j + 1, by go_num, by omega, HT2, H02, H12, HO2⟩
        case measure => simp [intOf]; omega
      · have ek2 : (x == (k : Int)) = false := by simpa using ek
        by_cases egt : (k : Int) < x
        · have hdr : dropDir k x = x - 1 := by unfold dropDir; rw [if_neg ek, if_pos egt]
          have HT2 := Lib.hid (HT.out.setD j (x - 1)).1
          have HO2 := Lib.hid (HO.out.trans (HT.out.setD j (x - 1)).2)
          have H02 := Lib.hid (H0.out.only (HT.out.setD j (x - 1)).2 (.inr hh))
          have H12 := Lib.hid (H1.out.only (HT.out.setD j (x - 1)).2 (.inr (by omega)))
          have hpn := partD_next k t.dirs j _ hx
          rw [hdr] at hpn
          rw [← hpn] at HT2
          clear hpn hx HT H0 H1 HO
          go_wp2_with fail
          go_roundw
          case rel => exact ⟨j + 1, by go_num, by omega, HT2, H02, H12, HO2⟩
          case measure => simp [intOf]; omega
        · have hdr : dropDir k x = x := by unfold dropDir; rw [if_neg ek, if_neg egt]
          have hpn := partD_same k t.dirs j _ hx hdr
          rw [← hpn] at HT
          clear hpn hx
          go_wp2_with fail
          go_roundw
          case rel => exact ⟨j + 1, by go_num, by omega, HT, H0, H1, HO⟩
          case measure => simp [intOf]; omega
    · have hj : j = 4 := by omega
      subst hj
      rw [partD_all k t.dirs 4 (by omega)] at HT
      obtain ⟨vs, hv, hinn⟩ := HT.out.leaves
      have HDEL := Lib.hid (delete_any wr lo hi g2 m d k vs hv hinn.one hk)
      have HG := Lib.hid fun (w' : World) (hr : Row w' lo hi 74 1 (.slice (some ⟨g2, 0, none⟩) (m - 1) d) (m - 1) (vs.eraseIdx k)) (hg : wr.grownBy w' (some g2)) => OwnT.gone HT.out.dirs hv hinn hr hg
      clear hv hinn
      have k1 := H0.out.cell 1 _ rfl
      go_wp2_with fail
      refine HDEL.out.mono ?_
      rintro e w2 ⟨rfl, hr, hg⟩
      obtain ⟨hT2, hO2⟩ := HG.out w2 hr hg
      have HT2 := Lib.hid hT2
      replace HO := Lib.hid (HO.out.trans hO2)
      replace H0 := Lib.hid (H0.out.only hO2 (.inr hh))
      replace H1 := Lib.hid (H1.out.only hO2 (.inr (by omega)))
      clear hr hg hT2 hO2 k1 HDEL HG HT
      have k0 := H0.out.cell 0 _ rfl
      have k1 := H0.out.cell 1 _ rfl
      have f1 := H0.out.free 1
      have q0 := H1.out.cell 0 _ rfl
      have q1 := H1.out.cell 1 _ rfl
      have s0 := H1.out.free 0
      have s1 := H1.out.free 1
      have hne : w.heap.size + 1 ≠ w.heap.size := by omega
      have HT3 := Lib.hid (((HT2.out.only (Only.set w2 w.heap.size 1 (.slice (some ⟨g2, 0, none⟩) (m - 1) d)) (.inl hh)).only (Only.set _ (w.heap.size + 1) 0 (.slice (some ⟨g1, 0, none⟩) 4 c)) (.inl (by omega))).only (Only.set _ (w.heap.size + 1) 1 (.slice (some ⟨g2, 0, none⟩) (m - 1) d)) (.inl (by omega)))
      have HO3 := Lib.hid (only_hi (only_hi (only_hi HO.out (Nat.le_refl _) 1 (.slice (some ⟨g2, 0, none⟩) (m - 1) d)) (Nat.le_succ _) 0 (.slice (some ⟨g1, 0, none⟩) 4 c)) (Nat.le_succ _) 1 (.slice (some ⟨g2, 0, none⟩) (m - 1) d))
      have HZ := Lib.hid (((H1.out.other (j := 1) (.slice (some ⟨g2, 0, none⟩) (m - 1) d) hne).set 0 (.slice (some ⟨g1, 0, none⟩) 4 c)).set 1 (.slice (some ⟨g2, 0, none⟩) (m - 1) d))
      clear HT2 HO
      go_wp2_with fail
      clear k0 k1 f1 q0 q1 s0 s1
      revert HT3 HO3 HZ
      generalize (World.setCell (World.setCell (World.setCell _ _ _) _ _) _ _) = wz
      intro HT3 HO3 HZ
      have z0 := HZ.out.cell 0 _ rfl
      have z1 := HZ.out.cell 1 _ rfl
      exact bodyPost_ret (v := .agg #[.slice (some ⟨g1, 0, none⟩) 4 c, .slice (some ⟨g2, 0, none⟩) (m - 1) d]) (by simp [results, Try.results60, go_sem, z0, z1]) rfl ⟨rfl, HT3.out, HO3.out⟩
end Go.Proofs.Ytaamjnpknmimmab.L4
