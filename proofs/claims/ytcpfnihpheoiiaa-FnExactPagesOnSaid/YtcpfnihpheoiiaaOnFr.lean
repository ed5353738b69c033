/- What PagesOn of both answers. -/
import Derived.Test.YtcpfnihpheoiiaaPages
namespace Go.Proofs.Ytcpfnihpheoiiaa.L4
open Go Go.RowKit Go.Proofs.Ytcpfnihpheoiiaa.Mem Go.Proofs.Ytcpfnihpheoiiaa.Own Go.Proofs.Ytcpfnihpheoiiaa.L1
/-- the pages on a frame -/
def onFrame (t : Tab) (fr : Int) : List Int := pagesBy (fun x => decide (x.f = fr)) t 16
def OnIs (t : Tab) (fr : Int) (l : List Int) (b : Bool) : Prop := (if OkT t ∧ 0 ≤ fr ∧ fr < 16 then (onFrame t fr, true) else ([], false)) = (l, b)
theorem onIs_no {t : Tab} {fr : Int} {l : List Int} {b : Bool} (h : OnIs t fr l b) (hn : ¬ (OkT t ∧ 0 ≤ fr ∧ fr < 16)) : l = [] ∧ b = false := by
  unfold OnIs at h
  rw [if_neg hn, Prod.mk.injEq] at h
  exact ⟨h.1.symm, h.2.symm⟩
theorem onIs_yes {t : Tab} {fr : Int} {l : List Int} {b : Bool} (h : OnIs t fr l b) (hn : OkT t ∧ 0 ≤ fr ∧ fr < 16) : onFrame t fr = l ∧ b = true := by
  unfold OnIs at h
  rw [if_pos hn, Prod.mk.injEq] at h
  exact ⟨h.1, h.2.symm⟩
theorem onIs_len {t : Tab} {fr : Int} {l : List Int} {b : Bool} (h : OnIs t fr l b) : l.length ≤ 16 := by
  by_cases hn : OkT t ∧ 0 ≤ fr ∧ fr < 16
  · rw [← (onIs_yes h hn).1]; exact pagesBy_len _ _ _
  · rw [(onIs_no h hn).1]; simp
theorem onFrame_tells (g : Nat) (fr : Int) (w : World) (hb : Blk w g 3 #[.int .i64 fr]) : Tells 62 #[.pointer (some ⟨g, 0, none⟩)] (fun x => decide (x.f = fr)) w := by
  intro f wr w' hbel
  have hB := Blk.kept hbel hb
  have hne := hB.lt
  have k0 := hB.cell 0 _ rfl
  change Calls Try.prog 62 #[.agg #[.int .i64 f, .bool wr], .pointer (some ⟨g, 0, none⟩)] w' _
  have k1 := (Blk.alloc hB (.cells #[.int .i64 f, .bool wr] 76)).cell 0 _ rfl
  clear hb hbel hB
  by_cases h : f = fr
  · subst h
    go_enter Try.func62, Try.ntmps62
    go_wp2_with fail
    go_ret
    exact ⟨by simp, below_more (Below.refl _ _) _⟩
  · have h2 : (f == fr) = false := by simpa using h
    have HD := Lib.hid (decide_eq_false h)
    go_enter Try.func62, Try.ntmps62
    go_wp2_with fail
    go_ret
    exact ⟨by rw [HD.out]; rfl, below_more (Below.refl _ _) _⟩
theorem onFrame_enters : ∀ args w, (callFunc 62 args).run Try.prog w = .ok (.enter 62 args) w := enters_of Try.func62 (by kernel_rfl) rfl
set_option maxRecDepth 100000 in
set_option maxHeartbeats 2000000 in
theorem implOn_any (A : Option Addr) (n c : Nat) (D : Option Addr) (m d : Nat) (t : Tab) (fr : Int) (w : World) (hr : ReadsT w w.heap.size A n D m t) (hn : n ≤ 1048576) (hm : m ≤ 1048576) (hl : ∀ xs ∈ t.leaves, xs.length ≤ 1048576) (l : List Int) (b : Bool) (hres : OnIs t fr l b) :
    Calls Try.prog 20 #[.agg #[.slice A n c, .slice D m d], .int .i64 fr] w fun e w' => ∃ A' c', e = .returned (.tuple #[.slice A' l.length c', .bool b]) ∧ w'.ownsRow w.heap.size 3 1 (.slice A' l.length c') l.length (I l) ∧ Below w.heap.size w w' := by
  have hmf : ∀ (fn : Fn) (first cap : Array Value) (w : World), (Instr.makeFunc fn first cap).run Try.prog w = .ok (.func fn first cap) w := fun _ _ _ _ => rfl
  obtain ⟨wb, hwb⟩ : ∃ wb, (w.alloc (.cells #[.slice A n c, .slice D m d] 27)).alloc (.cells #[.int .i64 fr] 3) = wb := ⟨_, rfl⟩
  have hb0 : Below w.heap.size w wb := by rw [← hwb]; exact below_more (below_more (Below.refl _ _) _) _
  have h0 : Blk wb w.heap.size 27 #[.slice A n c, .slice D m d] := by rw [← hwb]; exact Blk.alloc (Blk.new _ _ _) _
  have h1 : Blk wb (w.heap.size + 1) 3 #[.int .i64 fr] := by
    rw [← hwb]
    have h := Blk.new (w.alloc (.cells #[.slice A n c, .slice D m d] 27)) #[.int .i64 fr] 3
    rwa [size1] at h
  have HR := Lib.hid (hr.grow hb0)
  have H0 := Lib.hid h0
  have H1 := Lib.hid h1
  have HB0 := Lib.hid hb0
  have HWB := Lib.hid hwb
  have HRES := Lib.hid hres
  clear hr h0 h1 hb0 hwb hres
  by_cases ok : OkT t
  · by_cases hf : 0 ≤ fr ∧ fr < 16
    · obtain ⟨hl0, rfl⟩ := onIs_yes HRES.out ⟨ok, hf⟩
      have HL0 := Lib.hid hl0
      clear hl0
      go_enter Try.func20, Try.ntmps20
      go_wp2_with fail
      rw [HWB.out]
      clear HWB
      refine (implIsTable_any A n c D m d t _ HR.out hn hm hl true (decide_eq_true ok)).mono ?_
      rintro e w1 ⟨rfl, hb⟩
      have HB1 := Lib.hid (below_then HB0.out hb)
      have HR1 := Lib.hid (HR.out.grow hb)
      have j0 := Blk.kept hb H0.out
      have j1 := Blk.kept hb H1.out
      have k0 := j0.cell 0 _ rfl
      have k1 := j0.cell 1 _ rfl
      have k2 := j1.cell 0 _ rfl
      have J1 := Lib.hid j1
      clear hb HB0 HR H0 H1 j0 j1
      go_wp2_with fail
      refine (isFrame_any fr true (decide_eq_true hf) _).mono ?_
      rintro e w2 ⟨rfl, hw⟩
      subst hw
      go_wp2_with fail
      refine (pagesWith_any A n c D m d _ _ _ onFrame_enters t _ HR1.out ok (onFrame_tells _ fr _ J1.out)).mono ?_
      rintro e w2 ⟨v, rfl, hown, hb⟩
      change w2.ownsRow w1.heap.size 3 1 v (onFrame t fr).length (I (onFrame t fr)) at hown
      rw [HL0.out] at hown
      obtain ⟨A', c', rfl, _, _⟩ := own_form hown
      have HO := Lib.hid (own_mono hown (b' := w.heap.size) HB1.out.size)
      have HB2 := Lib.hid (below_then HB1.out hb)
      clear hown hb HB1 HR1 k0 k1 k2 J1 hmf
      go_wp2_with fail
      go_ret2
      exact ⟨A', c', rfl, HO.out, HB2.out⟩
    · obtain ⟨rfl, rfl⟩ := onIs_no HRES.out fun h => hf h.2
      go_enter Try.func20, Try.ntmps20
      go_wp2_with fail
      rw [HWB.out]
      clear HWB
      refine (implIsTable_any A n c D m d t _ HR.out hn hm hl true (decide_eq_true ok)).mono ?_
      rintro e w1 ⟨rfl, hb⟩
      have HB1 := Lib.hid (below_then HB0.out hb)
      have k2 := (Blk.kept hb H1.out).cell 0 _ rfl
      clear hb HB0 HR H0 H1
      go_wp2_with fail
      refine (isFrame_any fr false (decide_eq_false hf) _).mono ?_
      rintro e w2 ⟨rfl, hw⟩
      subst hw
      go_wp2_with fail
      go_ret2
      exact ⟨none, 0, rfl, World.ownsRow_nil _ _ _ _, HB1.out⟩
  · obtain ⟨rfl, rfl⟩ := onIs_no HRES.out fun h => ok h.1
    go_enter Try.func20, Try.ntmps20
    go_wp2_with fail
    rw [HWB.out]
    clear HWB
    refine (implIsTable_any A n c D m d t _ HR.out hn hm hl false (decide_eq_false ok)).mono ?_
    rintro e w1 ⟨rfl, hb⟩
    have HB1 := Lib.hid (below_then HB0.out hb)
    clear hb
    go_wp2_with fail
    go_ret2
    exact ⟨none, 0, rfl, World.ownsRow_nil _ _ _ _, HB1.out⟩
set_option maxRecDepth 100000 in
set_option maxHeartbeats 2000000 in
theorem specOn_any (A : Option Addr) (n c : Nat) (D : Option Addr) (m d : Nat) (t : Tab) (fr : Int) (w : World) (hr : ReadsT w w.heap.size A n D m t) (hn : n ≤ 1048576) (hm : m ≤ 1048576) (hl : ∀ xs ∈ t.leaves, xs.length ≤ 1048576) (hnc : n ≤ c) (l : List Int) (b : Bool) (hres : OnIs t fr l b) :
    Calls Try.prog 33 #[.agg #[.slice A n c, .slice D m d], .int .i64 fr] w fun e w' => ∃ A' c', e = .returned (.tuple #[.slice A' l.length c', .bool b]) ∧ w'.ownsRow w.heap.size 3 1 (.slice A' l.length c') l.length (I l) ∧ Below w.heap.size w w' := by
  obtain ⟨i0, hi, hz0, hz1, hz2⟩ := info_parts intInfo
  obtain ⟨wb, hwb⟩ : ∃ wb, (w.alloc (.cells #[.slice A n c, .slice D m d] 27)).alloc (.cells #[] 3) = wb := ⟨_, rfl⟩
  have hb0 : Below w.heap.size w wb := by rw [← hwb]; exact below_more (below_more (Below.refl _ _) _) _
  have hB0 : Blk wb w.heap.size 27 #[.slice A n c, .slice D m d] := by rw [← hwb]; exact Blk.alloc (Blk.new _ _ _) _
  have hown0 : wb.ownsRow (w.heap.size + 1) 3 1 (.slice (some ⟨w.heap.size + 1, 0, none⟩) 0 0) 0 [] := by
    rw [← hwb]
    have h := World.ownsRow_made (w.alloc (.cells #[.slice A n c, .slice D m d] 27)) (base := w.heap.size + 1) (size := 1) (e := 3) #[] 0 (by rw [size1]; exact Nat.le_refl _) (Nat.zero_le _) rfl
    rwa [size1] at h
  have hsb : w.heap.size + 1 ≤ wb.heap.size := by rw [← hwb, size1, size1]; omega
  have HK := Lib.hid hB0
  have HR := Lib.hid hr
  have HB0 := Lib.hid hb0
  have HWB := Lib.hid hwb
  have HSB := Lib.hid hsb
  clear hr hb0 hB0 hwb hsb
  have HRES := Lib.hid hres
  clear hres
  by_cases hyes : OkT t ∧ 0 ≤ fr ∧ fr < 16
  rotate_left
  · obtain ⟨rfl, rfl⟩ := onIs_no HRES.out hyes
    have HB9 : Hid (∀ w1, Below wb.heap.size wb w1 → w1.ownsRow w.heap.size 3 1 (.slice (some ⟨w.heap.size + 1, 0, none⟩) 0 0) 0 (I []) ∧ Below w.heap.size w w1) := Lib.hid fun w1 hb => ⟨own_mono (own_below hown0 hb) (Nat.le_succ _), below_then HB0.out hb⟩
    have HRB := Lib.hid (HR.out.grow HB0.out)
    clear hown0
    by_cases ok : OkT t
    · have hf : ¬ (0 ≤ fr ∧ fr < 16) := fun h => hyes ⟨ok, h⟩
      go_enter Try.func33, Try.ntmps33
      go_wp2_with fail
      rw [HWB.out]
      clear HWB
      refine (l4Good_any A n c D m d t _ HRB.out hn hm hl hnc true (decide_eq_true ok)).mono ?_
      rintro e w1 ⟨rfl, hb⟩
      have HX := Lib.hid (HB9.out w1 hb)
      clear hb
      go_wp2_with fail
      refine (l1In_no fr 0 15 (by omega) _).mono ?_
      rintro e w2 ⟨rfl, hw⟩
      subst hw
      go_wp2_with fail
      go_ret2
      exact ⟨_, 0, rfl, HX.out.1, HX.out.2⟩
    · go_enter Try.func33, Try.ntmps33
      go_wp2_with fail
      rw [HWB.out]
      clear HWB
      refine (l4Good_any A n c D m d t _ HRB.out hn hm hl hnc false (decide_eq_false ok)).mono ?_
      rintro e w1 ⟨rfl, hb⟩
      have HX := Lib.hid (HB9.out w1 hb)
      clear hb
      go_wp2_with fail
      go_ret2
      exact ⟨_, 0, rfl, HX.out.1, HX.out.2⟩
  obtain ⟨hl0, rfl⟩ := onIs_yes HRES.out hyes
  obtain ⟨ok, hf⟩ := hyes
  have HL0 := Lib.hid hl0
  have HRB := Lib.hid (HR.out.grow HB0.out)
  clear hl0
  go_enter Try.func33, Try.ntmps33
  go_wp2_with fail
  rw [HWB.out]
  clear HWB
  refine (l4Good_any A n c D m d t _ HRB.out hn hm hl hnc true (decide_eq_true ok)).mono ?_
  rintro e wg ⟨rfl, hbg⟩
  have hown1 := own_below hown0 hbg
  have HB1 := Lib.hid (below_then HB0.out hbg)
  have HK1 := Lib.hid (Blk.kept hbg HK.out)
  have HSB1 := Lib.hid (Nat.le_trans HSB.out hbg.size)
  clear hown0 hbg HRB HB0 HK HSB
  go_wp2_with fail
  refine (l1In_yes fr 0 15 hf.1 (by omega) _).mono ?_
  rintro e w2 ⟨rfl, hw⟩
  subst hw
  go_wp2_with fail
  go_loopw [6, 7] (fun v i wr => ∃ (k : Nat) (l_ : List Int), i = .int .i64 k ∧ k ≤ 16 ∧ l_.length ≤ k ∧ Hid (l_ = pagesBy (fun x => decide (x.f = fr)) t k) ∧ Hid (wr.ownsRow (w.heap.size + 1) 3 1 v l_.length (I l_)) ∧ Hid (Below (w.heap.size + 1) wg wr)) (fun _ i _ => 16 - (intOf i).toNat)
  case atStart => exact ⟨0, [], rfl, Nat.zero_le _, Nat.le_refl _, Lib.hid rfl, Lib.hid hown1, Lib.hid (Below.refl _ _)⟩
  case round =>
    clear hown1
    obtain ⟨k, l_, rfl, hk, hl_, HD, HOWN, HBL⟩ := hrel
    by_cases hlt : k < 16
    · have HR1 := Lib.hid (HR.out.grow (HB1.out.trans (HBL.out.mono (Nat.le_succ _))))
      have hKr : Blk wr w.heap.size 27 #[.slice A n c, .slice D m d] := (HBL.out.block w.heap.size (Nat.lt_succ_self _)).trans HK1.out
      have k0 := hKr.cell 0 _ rfl
      have k1 := hKr.cell 1 _ rfl
      have hsw := Nat.le_trans HSB1.out HBL.out.size
      obtain ⟨f, hf⟩ : ∃ f, (get t k).f = f := ⟨_, rfl⟩
      obtain ⟨wr_, hwr⟩ : ∃ f, (get t k).wr = f := ⟨_, rfl⟩
      have hg : get t k = ⟨f, wr_⟩ := by rw [← hf, ← hwr]
      have HG := Lib.hid hg
      have HF := Lib.hid hf
      have HWR := Lib.hid hwr
      clear hf hwr hg hKr
      go_wp2_with fail
      refine (l4Get_any A n c D m d k t _ HR1.out ok hlt).mono ?_
      rintro e w3 ⟨rfl, hb⟩
      rw [HF.out, HWR.out]
      have HB3 := Lib.hid (HBL.out.trans (hb.mono hsw))
      have HO3 := Lib.hid (own_below HOWN.out hb)
      have hsw3 := Nat.le_trans hsw hb.size
      clear hb k0 k1 HR1 HBL HOWN hsw
      by_cases hq : ¬ f = fr
      · have hqb : (f == fr) = false := by simpa using hq
        have HN : Hid (l_ = pagesBy (fun x => decide (x.f = fr)) t (k + 1)) := Lib.hid (by rw [pagesBy_miss (by rw [HG.out]; simpa using hq), HD.out])
        have hfd : ∀ wx : World, (Instr.field 76 (.agg #[.int .i64 f, .bool wr_]) 0).run Try.prog wx = .ok (.int .i64 f) wx := fun _ => by kernel_rfl
        go_wp2_with fail
        go_roundw
        case rel => exact ⟨k + 1, l_, by go_num, by omega, by omega, HN, HO3, HB3⟩
        case measure => simp [intOf]; omega
      · have hq : f = fr := Classical.not_not.1 hq
        have hqb : (f == fr) = true := by simpa using hq
        have HN : Hid (l_ ++ [(k : Int)] = pagesBy (fun x => decide (x.f = fr)) t (k + 1)) := Lib.hid (by rw [pagesBy_hit (by rw [HG.out]; simpa using hq), HD.out])
        clear hq
        have hown := HO3.out
        have hbel := HB3.out
        have hfd : ∀ wx : World, (Instr.field 76 (.agg #[.int .i64 f, .bool wr_]) 0).run Try.prog wx = .ok (.int .i64 f) wx := fun _ => by kernel_rfl
        go_wp2_with (at_builtin; refine wpList_append_own _ rfl _ _ 24 rfl (w.heap.size + 1) 3 i0 (.int .i64 0) 1 8 Try.underlying24 hi hz0 hz1 hz2 rfl (by decide) _ _ _ rfl (hown.alloc _) ⟨w3.heap.size, 0, none⟩ 1 1 [.int .i64 k] rfl rfl (cell_one_new _ _ _) (fun x hx => by simp at hx; subst hx; rfl) (by unfold maxLen; omega) (by omega) (by simp; omega) ?_; intro v' w4 hown1 hgrow1 _)
        have HB4 := Lib.hid ((hbel.alloc hsw3 (.cells #[.int .i64 (k : Int)] 3)).grown hgrow1 (by simp; omega) (fun q hq => (hown.lt q hq).1))
        have HO4 : Hid (w4.ownsRow (w.heap.size + 1) 3 1 v' (l_ ++ [(k : Int)]).length (I (l_ ++ [(k : Int)]))) := Lib.hid (by simpa [I] using hown1)
        clear hown hbel hown1 hgrow1
        go_roundw
        case rel => exact ⟨k + 1, l_ ++ [(k : Int)], by go_num, by omega, by simp; omega, HN, HO4, HB4⟩
        case measure => simp [intOf]; omega
    · have hkn : k = 16 := by omega
      subst hkn
      have HO : Hid (wr.ownsRow (w.heap.size + 1) 3 1 u6 l.length (I l)) := Lib.hid (by rw [← HL0.out]; unfold onFrame; rw [← HD.out]; exact HOWN.out)
      obtain ⟨A', c', rfl, _, _⟩ := own_form HO.out
      go_wp2_with fail
      go_ret2
      exact ⟨A', c', rfl, own_mono HO.out (Nat.le_succ _), HB1.out.trans (HBL.out.mono (Nat.le_succ _))⟩
end Go.Proofs.Ytcpfnihpheoiiaa.L4
