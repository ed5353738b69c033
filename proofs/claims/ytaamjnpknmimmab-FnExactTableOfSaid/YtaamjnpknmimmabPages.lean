/- What impl.pagesWith, spec.l4Mapped and MappedPages of both answer. -/
import Derived.Test.YtaamjnpknmimmabGet
import Derived.Laws.CopyOwn
import Derived.Laws.AppendOwnNone
namespace Go.Proofs.Ytaamjnpknmimmab.L4
open Go Go.RowKit Go.Proofs.Ytaamjnpknmimmab.Mem Go.Proofs.Ytaamjnpknmimmab.Own Go.Proofs.Ytaamjnpknmimmab.L1
/-- the pages below k whose entries fit -/
def pagesBy (p : Ent → Bool) (t : Tab) : Nat → List Int
  | 0 => []
  | k + 1 => if p (get t k) = true then pagesBy p t k ++ [(k : Int)] else pagesBy p t k
theorem pagesBy_hit {p : Ent → Bool} {t : Tab} {k : Nat} (h : p (get t k) = true) : pagesBy p t (k + 1) = pagesBy p t k ++ [(k : Int)] := by rw [pagesBy, if_pos h]
theorem pagesBy_miss {p : Ent → Bool} {t : Tab} {k : Nat} (h : p (get t k) = false) : pagesBy p t (k + 1) = pagesBy p t k := by rw [pagesBy, if_neg (by rw [h]; decide)]
theorem pagesBy_len (p : Ent → Bool) (t : Tab) (k : Nat) : (pagesBy p t k).length ≤ k := by
  induction k with
  | zero => simp [pagesBy]
  | succ k ih =>
    rw [pagesBy]
    split
    · simp; omega
    · omega
theorem intInfo : (Try.prog.info? 3).map (fun i => (i.zero, i.size, i.bytes)) = some (some (.int .i64 0), 1, 8) := by kernel_rfl
set_option maxRecDepth 100000 in
set_option maxHeartbeats 2000000 in
theorem pagesWith_any (A : Option Addr) (n c : Nat) (D : Option Addr) (m d g : Nat) (lb : Array Value) (p : Ent → Bool) (eg : ∀ args w, (callFunc g args).run Try.prog w = .ok (.enter g args) w) (t : Tab) (w : World) (hr : ReadsT w w.heap.size A n D m t) (ok : OkT t) (hp : Tells g lb p w) :
    Calls Try.prog 70 #[.agg #[.slice A n c, .slice D m d], .func (.func g) #[] lb] w fun e w' => ∃ v, e = .returned v ∧ w'.ownsRow w.heap.size 3 1 v (pagesBy p t 16).length (I (pagesBy p t 16)) ∧ Below w.heap.size w w' := by
  obtain ⟨i0, hi, hz0, hz1, hz2⟩ := info_parts intInfo
  obtain ⟨wb, hwb⟩ : ∃ wb, w.alloc (.cells #[.slice A n c, .slice D m d] 29) = wb := ⟨_, rfl⟩
  have hb0 : Below w.heap.size w wb := by rw [← hwb]; exact below_more (Below.refl _ _) _
  have hB0 : Blk wb w.heap.size 29 #[.slice A n c, .slice D m d] := by rw [← hwb]; exact Blk.new _ _ _
  have HK := Lib.hid hB0
  have HR := Lib.hid (hr.grow hb0)
  have HB0 := Lib.hid hb0
  have HWB := Lib.hid hwb
  have HP := Lib.hid (hp.grow hb0)
  clear hr hb0 hB0 hwb hp
  go_enter Try.func70, Try.ntmps70
  go_wp2_with fail
  rw [HWB.out]
  clear HWB
  have hown0 : wb.ownsRow wb.heap.size 3 1 (.slice none 0 0) 0 [] := World.ownsRow_nil _ _ _ _
  go_loopw [5, 9] (fun v i wr => ∃ (k : Nat) (l : List Int), i = .int .i64 k ∧ k ≤ 16 ∧ l.length ≤ k ∧ Hid (l = pagesBy p t k) ∧ Hid (wr.ownsRow wb.heap.size 3 1 v l.length (I l)) ∧ Hid (Below wb.heap.size wb wr)) (fun _ i _ => 16 - (intOf i).toNat)
  case atStart => exact ⟨0, [], rfl, Nat.zero_le _, Nat.le_refl _, Lib.hid rfl, Lib.hid hown0, Lib.hid (Below.refl _ _)⟩
  case round =>
    clear hown0
    obtain ⟨k, l, rfl, hk, hl, HD, HOWN, HBL⟩ := hrel
    by_cases hlt : k < 16
    · have HR1 := Lib.hid (HR.out.grow HBL.out)
      have hKr := Blk.kept HBL.out HK.out
      have k0 := hKr.cell 0 _ rfl
      have k1 := hKr.cell 1 _ rfl
      obtain ⟨f, hf⟩ : ∃ f, (get t k).f = f := ⟨_, rfl⟩
      obtain ⟨wr_, hwr⟩ : ∃ f, (get t k).wr = f := ⟨_, rfl⟩
      have hg : get t k = ⟨f, wr_⟩ := by rw [← hf, ← hwr]
      have HG := Lib.hid hg
      have HF := Lib.hid hf
      have HWR := Lib.hid hwr
      clear hf hwr hg hKr
      go_wp2_with fail
      refine (entryOf_any A n c D m d k t _ HR1.out ok hlt).mono ?_
      rintro e w2 ⟨rfl, hb⟩
      rw [HF.out, HWR.out]
      have hba := below_more hb (.cells #[.int .i64 f, .bool wr_] 70)
      have HB2 := Lib.hid (below_then HBL.out hba)
      have HO2 := Lib.hid (own_below HOWN.out hba)
      have hw2 := Blk.new w2 #[.int .i64 f, .bool wr_] 70
      obtain ⟨wa, hwa⟩ : ∃ wa, w2.alloc (.cells #[.int .i64 f, .bool wr_] 70) = wa := ⟨_, rfl⟩
      rw [hwa] at HB2 HO2 hw2
      have e0 := hw2.cell 0 _ rfl
      have e1 := hw2.cell 1 _ rfl
      have HWA := Lib.hid hwa
      clear hb hba hw2 hwa k0 k1 HR1 HBL HOWN
      go_upto_region 6 with fail
      rw [HWA.out]
      clear HWA
      go_wp2_with fail
      refine (HP.out f wr_ wa HB2.out).mono ?_
      rintro e w3 ⟨rfl, hb⟩
      have HB3 := Lib.hid (below_then HB2.out hb)
      have HO3 := Lib.hid (own_below HO2.out hb)
      clear hb HB2 HO2 e0 e1
      cases hq : p ⟨f, wr_⟩ with
      | true =>
        have HN : Hid (l ++ [(k : Int)] = pagesBy p t (k + 1)) := Lib.hid (by rw [pagesBy_hit (by rw [HG.out]; exact hq), HD.out])
        have hown := HO3.out
        have hbel := HB3.out
        have hsz := hbel.size
        clear hq
        go_wp2_with (at_builtin; refine wpList_append_own _ rfl _ _ 22 rfl wb.heap.size 3 i0 (.int .i64 0) 1 8 Try.underlying22 hi hz0 hz1 hz2 rfl (by decide) _ _ _ rfl (hown.alloc _) ⟨w3.heap.size, 0, none⟩ 1 1 [.int .i64 k] rfl rfl (cell_one_new _ _ _) (fun x hx => by simp at hx; subst hx; rfl) (by unfold maxLen; omega) (by omega) (by simp; omega) ?_; intro v' w4 hown1 hgrow1 _)
        have HB4 := Lib.hid ((hbel.alloc hsz (.cells #[.int .i64 (k : Int)] 3)).grown hgrow1 (by simp; omega) (fun q hq => (hown.lt q hq).1))
        have HO4 : Hid (w4.ownsRow wb.heap.size 3 1 v' (l ++ [(k : Int)]).length (I (l ++ [(k : Int)]))) := Lib.hid (by simpa [I] using hown1)
        clear hown hbel hsz hown1 hgrow1
        go_roundw
        case rel => exact ⟨k + 1, l ++ [(k : Int)], by go_num, by omega, by simp; omega, HN, HO4, HB4⟩
        case measure => simp [intOf]; omega
      | false =>
        have HN : Hid (l = pagesBy p t (k + 1)) := Lib.hid (by rw [pagesBy_miss (by rw [HG.out]; exact hq), HD.out])
        clear hq
        go_wp2_with fail
        go_roundw
        case rel => exact ⟨k + 1, l, by go_num, by omega, by omega, HN, HO3, HB3⟩
        case measure => simp [intOf]; omega
    · have hkn : k = 16 := by omega
      subst hkn
      have HO : Hid (wr.ownsRow wb.heap.size 3 1 u5 (pagesBy p t 16).length (I (pagesBy p t 16))) := Lib.hid (by rw [← HD.out]; exact HOWN.out)
      clear HP eg
      go_wp2_with fail
      go_ret
      exact ⟨_, rfl, own_mono HO.out HB0.out.size, below_then HB0.out HBL.out⟩
/-- the pages with a frame -/
def mapped (t : Tab) : List Int := pagesBy (fun x => decide (x.f ≠ -1)) t 16
set_option maxRecDepth 100000 in
set_option maxHeartbeats 2000000 in
theorem l4Mapped_any (A : Option Addr) (n c : Nat) (D : Option Addr) (m d : Nat) (t : Tab) (w : World) (hr : ReadsT w w.heap.size A n D m t) (ok : OkT t) :
    Calls Try.prog 72 #[.agg #[.slice A n c, .slice D m d]] w fun e w' => ∃ v, e = .returned v ∧ w'.ownsRow w.heap.size 3 1 v (mapped t).length (I (mapped t)) ∧ Below w.heap.size w w' := by
  obtain ⟨i0, hi, hz0, hz1, hz2⟩ := info_parts intInfo
  obtain ⟨wb, hwb⟩ : ∃ wb, (w.alloc (.cells #[.slice A n c, .slice D m d] 29)).alloc (.cells #[] 3) = wb := ⟨_, rfl⟩
  have hb0 : Below w.heap.size w wb := by rw [← hwb]; exact below_more (below_more (Below.refl _ _) _) _
  have hB0 : Blk wb w.heap.size 29 #[.slice A n c, .slice D m d] := by rw [← hwb]; exact Blk.alloc (Blk.new _ _ _) _
  have hown0 : wb.ownsRow (w.heap.size + 1) 3 1 (.slice (some ⟨w.heap.size + 1, 0, none⟩) 0 0) 0 [] := by
    rw [← hwb]
    have h := World.ownsRow_made (w.alloc (.cells #[.slice A n c, .slice D m d] 29)) (base := w.heap.size + 1) (size := 1) (e := 3) #[] 0 (by rw [size1]; exact Nat.le_refl _) (Nat.zero_le _) rfl
    rwa [size1] at h
  have hsb : w.heap.size + 1 ≤ wb.heap.size := by rw [← hwb, size1, size1]; omega
  have HK := Lib.hid hB0
  have HR := Lib.hid hr
  have HB0 := Lib.hid hb0
  have HWB := Lib.hid hwb
  have HSB := Lib.hid hsb
  clear hr hb0 hB0 hwb hsb
  go_enter Try.func72, Try.ntmps72
  go_wp2_with fail
  rw [HWB.out]
  clear HWB
  go_loopw [3, 4] (fun v i wr => ∃ (k : Nat) (l : List Int), i = .int .i64 k ∧ k ≤ 16 ∧ l.length ≤ k ∧ Hid (l = pagesBy (fun x => decide (x.f ≠ -1)) t k) ∧ Hid (wr.ownsRow (w.heap.size + 1) 3 1 v l.length (I l)) ∧ Hid (Below (w.heap.size + 1) wb wr)) (fun _ i _ => 16 - (intOf i).toNat)
  case atStart => exact ⟨0, [], rfl, Nat.zero_le _, Nat.le_refl _, Lib.hid rfl, Lib.hid hown0, Lib.hid (Below.refl _ _)⟩
  case round =>
    clear hown0
    obtain ⟨k, l, rfl, hk, hl, HD, HOWN, HBL⟩ := hrel
    by_cases hlt : k < 16
    · have HR1 := Lib.hid (HR.out.grow (HB0.out.trans (HBL.out.mono (Nat.le_succ _))))
      have hKr : Blk wr w.heap.size 29 #[.slice A n c, .slice D m d] := (HBL.out.block w.heap.size (Nat.lt_succ_self _)).trans HK.out
      have k0 := hKr.cell 0 _ rfl
      have k1 := hKr.cell 1 _ rfl
      have hsw := Nat.le_trans HSB.out HBL.out.size
      obtain ⟨f, hf⟩ : ∃ f, (get t k).f = f := ⟨_, rfl⟩
      obtain ⟨wr_, hwr⟩ : ∃ f, (get t k).wr = f := ⟨_, rfl⟩
      have hg : get t k = ⟨f, wr_⟩ := by rw [← hf, ← hwr]
      have HG := Lib.hid hg
      have HF := Lib.hid hf
      have HWR := Lib.hid hwr
      clear hf hwr hg hKr
      go_wp2_with fail
      refine (l4Get_any A n c D m d k t _ HR1.out ok hlt).mono ?_
      rintro e w3 ⟨rfl, hb⟩
      rw [HF.out, HWR.out]
      have HB3 := Lib.hid (HBL.out.trans (hb.mono hsw))
      have HO3 := Lib.hid (own_below HOWN.out hb)
      have hsw3 := Nat.le_trans hsw hb.size
      clear hb k0 k1 HR1 HBL HOWN hsw
      by_cases hq : f = -1
      · have hqb : (f != -1) = false := by simpa using hq
        have HN : Hid (l = pagesBy (fun x => decide (x.f ≠ -1)) t (k + 1)) := Lib.hid (by rw [pagesBy_miss (by rw [HG.out]; simpa using hq), HD.out])
        subst hq
        have hfd : ∀ wx : World, (Instr.field 70 (.agg #[.int .i64 (-1), .bool wr_]) 0).run Try.prog wx = .ok (.int .i64 (-1)) wx := fun _ => by kernel_rfl
        go_wp2_with fail
        go_roundw
        case rel => exact ⟨k + 1, l, by go_num, by omega, by omega, HN, HO3, HB3⟩
        case measure => simp [intOf]; omega
      · have hqb : (f != -1) = true := by simpa using hq
        have HN : Hid (l ++ [(k : Int)] = pagesBy (fun x => decide (x.f ≠ -1)) t (k + 1)) := Lib.hid (by rw [pagesBy_hit (by rw [HG.out]; simpa using hq), HD.out])
        have hown := HO3.out
        have hbel := HB3.out
        have hfd : ∀ wx : World, (Instr.field 70 (.agg #[.int .i64 f, .bool wr_]) 0).run Try.prog wx = .ok (.int .i64 f) wx := fun _ => by kernel_rfl
        go_wp2_with (at_builtin; refine wpList_append_own _ rfl _ _ 22 rfl (w.heap.size + 1) 3 i0 (.int .i64 0) 1 8 Try.underlying22 hi hz0 hz1 hz2 rfl (by decide) _ _ _ rfl (hown.alloc _) ⟨w3.heap.size, 0, none⟩ 1 1 [.int .i64 k] rfl rfl (cell_one_new _ _ _) (fun x hx => by simp at hx; subst hx; rfl) (by unfold maxLen; omega) (by omega) (by simp; omega) ?_; intro v' w4 hown1 hgrow1 _)
        have HB4 := Lib.hid ((hbel.alloc hsw3 (.cells #[.int .i64 (k : Int)] 3)).grown hgrow1 (by simp; omega) (fun q hq => (hown.lt q hq).1))
        have HO4 : Hid (w4.ownsRow (w.heap.size + 1) 3 1 v' (l ++ [(k : Int)]).length (I (l ++ [(k : Int)]))) := Lib.hid (by simpa [I] using hown1)
        clear hown hbel hown1 hgrow1
        go_roundw
        case rel => exact ⟨k + 1, l ++ [(k : Int)], by go_num, by omega, by simp; omega, HN, HO4, HB4⟩
        case measure => simp [intOf]; omega
    · have hkn : k = 16 := by omega
      subst hkn
      have HO : Hid (wr.ownsRow (w.heap.size + 1) 3 1 u3 (mapped t).length (I (mapped t))) := Lib.hid (by unfold mapped; rw [← HD.out]; exact HOWN.out)
      go_wp2_with fail
      go_ret
      exact ⟨_, rfl, own_mono HO.out (Nat.le_succ _), HB0.out.trans (HBL.out.mono (Nat.le_succ _))⟩
set_option maxRecDepth 100000 in
set_option maxHeartbeats 2000000 in
theorem specMapped_any (A : Option Addr) (n c : Nat) (D : Option Addr) (m d : Nat) (t : Tab) (w : World) (hr : ReadsT w w.heap.size A n D m t) (hn : n ≤ 1048576) (hm : m ≤ 1048576) (hl : ∀ xs ∈ t.leaves, xs.length ≤ 1048576) (hnc : n ≤ c) (l : List Int) (b : Bool) (hres : (if OkT t then (mapped t, true) else ([], false)) = (l, b)) :
    Calls Try.prog 25 #[.agg #[.slice A n c, .slice D m d]] w fun e w' => ∃ A' c', e = .returned (.tuple #[.slice A' l.length c', .bool b]) ∧ w'.ownsRow w.heap.size 3 1 (.slice A' l.length c') l.length (I l) ∧ Below w.heap.size w w' := by
  have hb0 := below_more (Below.refl w.heap.size w) (.cells #[.slice A n c, .slice D m d] 29)
  have HR := Lib.hid (hr.grow hb0)
  have HK : Hid (Blk (w.alloc (.cells #[.slice A n c, .slice D m d] 29)) w.heap.size 29 #[.slice A n c, .slice D m d]) := Lib.hid (Blk.new _ _ _)
  have HB0 := Lib.hid hb0
  clear hr hb0
  by_cases ok : OkT t
  · rw [if_pos ok, Prod.mk.injEq] at hres
    obtain ⟨rfl, rfl⟩ := hres
    obtain ⟨l0, hl0⟩ : ∃ l0, mapped t = l0 := ⟨_, rfl⟩
    rw [hl0]
    have HL0 := Lib.hid hl0
    clear hl0
    go_enter Try.func25, Try.ntmps25
    go_wp2_with fail
    refine (l4Good_any A n c D m d t _ HR.out hn hm hl hnc true (decide_eq_true ok)).mono ?_
    rintro e w1 ⟨rfl, hb⟩
    have HB1 := Lib.hid (below_then HB0.out hb)
    have HR1 := Lib.hid (HR.out.grow hb)
    have k0 := (Blk.kept hb HK.out).cell 0 _ rfl
    have k1 := (Blk.kept hb HK.out).cell 1 _ rfl
    clear hb HB0 HR HK
    go_wp2_with fail
    refine (l4Mapped_any A n c D m d t _ HR1.out ok).mono ?_
    rintro e w2 ⟨v, rfl, hown, hb⟩
    change w2.ownsRow w1.heap.size 3 1 v (mapped t).length (I (mapped t)) at hown
    rw [HL0.out] at hown
    obtain ⟨A', c', rfl, _, _⟩ := own_form hown
    have HO := Lib.hid (own_mono hown (b' := w.heap.size) HB1.out.size)
    have HB2 := Lib.hid (below_then HB1.out hb)
    clear hown hb HB1 HR1 k0 k1
    go_wp2_with fail
    go_ret2
    exact ⟨A', c', rfl, HO.out, HB2.out⟩
  · rw [if_neg ok, Prod.mk.injEq] at hres
    obtain ⟨rfl, rfl⟩ := hres
    go_enter Try.func25, Try.ntmps25
    go_wp2_with fail
    refine (l4Good_any A n c D m d t _ HR.out hn hm hl hnc false (decide_eq_false ok)).mono ?_
    rintro e w1 ⟨rfl, hb⟩
    have HB1 := Lib.hid (below_then HB0.out hb)
    clear hb
    go_wp2_with fail
    go_ret2
    exact ⟨some ⟨w1.heap.size, 0, none⟩, 0, rfl, own_mono (World.ownsRow_made w1 #[] 0 (Nat.le_refl _) (Nat.zero_le _) rfl) HB1.out.size, below_more HB1.out _⟩
set_option maxRecDepth 100000 in
set_option maxHeartbeats 2000000 in
theorem implMapped_any (A : Option Addr) (n c : Nat) (D : Option Addr) (m d : Nat) (t : Tab) (w : World) (hr : ReadsT w w.heap.size A n D m t) (hn : n ≤ 1048576) (hm : m ≤ 1048576) (hl : ∀ xs ∈ t.leaves, xs.length ≤ 1048576) (l : List Int) (b : Bool) (hres : (if OkT t then (mapped t, true) else ([], false)) = (l, b)) :
    Calls Try.prog 24 #[.agg #[.slice A n c, .slice D m d]] w fun e w' => ∃ A' c', e = .returned (.tuple #[.slice A' l.length c', .bool b]) ∧ w'.ownsRow w.heap.size 3 1 (.slice A' l.length c') l.length (I l) ∧ Below w.heap.size w w' := by
  have hb0 := below_more (Below.refl w.heap.size w) (.cells #[.slice A n c, .slice D m d] 29)
  have HR := Lib.hid (hr.grow hb0)
  have HK : Hid (Blk (w.alloc (.cells #[.slice A n c, .slice D m d] 29)) w.heap.size 29 #[.slice A n c, .slice D m d]) := Lib.hid (Blk.new _ _ _)
  have HB0 := Lib.hid hb0
  clear hr hb0
  by_cases ok : OkT t
  · rw [if_pos ok, Prod.mk.injEq] at hres
    obtain ⟨rfl, rfl⟩ := hres
    obtain ⟨l0, hl0⟩ : ∃ l0, mapped t = l0 := ⟨_, rfl⟩
    rw [hl0]
    have HL0 := Lib.hid hl0
    clear hl0
    go_enter Try.func24, Try.ntmps24
    go_wp2_with fail
    refine (implIsTable_any A n c D m d t _ HR.out hn hm hl true (decide_eq_true ok)).mono ?_
    rintro e w1 ⟨rfl, hb⟩
    have HB1 := Lib.hid (below_then HB0.out hb)
    have HR1 := Lib.hid (HR.out.grow hb)
    have k0 := (Blk.kept hb HK.out).cell 0 _ rfl
    have k1 := (Blk.kept hb HK.out).cell 1 _ rfl
    clear hb HB0 HR HK
    go_wp2_with fail
    refine (pagesWith_any A n c D m d _ #[] _ hasFrame_enters t _ HR1.out ok (hasFrame_tells _)).mono ?_
    rintro e w2 ⟨v, rfl, hown, hb⟩
    change w2.ownsRow w1.heap.size 3 1 v (mapped t).length (I (mapped t)) at hown
    rw [HL0.out] at hown
    obtain ⟨A', c', rfl, _, _⟩ := own_form hown
    have HO := Lib.hid (own_mono hown (b' := w.heap.size) HB1.out.size)
    have HB2 := Lib.hid (below_then HB1.out hb)
    clear hown hb HB1 HR1 k0 k1
    go_wp2_with fail
    go_ret2
    exact ⟨A', c', rfl, HO.out, HB2.out⟩
  · rw [if_neg ok, Prod.mk.injEq] at hres
    obtain ⟨rfl, rfl⟩ := hres
    go_enter Try.func24, Try.ntmps24
    go_wp2_with fail
    refine (implIsTable_any A n c D m d t _ HR.out hn hm hl false (decide_eq_false ok)).mono ?_
    rintro e w1 ⟨rfl, hb⟩
    have HB1 := Lib.hid (below_then HB0.out hb)
    clear hb
    go_wp2_with fail
    go_ret2
    exact ⟨none, 0, rfl, World.ownsRow_nil _ _ _ _, HB1.out⟩
end Go.Proofs.Ytaamjnpknmimmab.L4
