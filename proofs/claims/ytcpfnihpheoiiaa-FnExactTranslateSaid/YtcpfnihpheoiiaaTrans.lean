/- What Translate answers, of spec and impl. -/
import Derived.Test.YtcpfnihpheoiiaaGet
namespace Go.Proofs.Ytcpfnihpheoiiaa.L4
open Go Go.RowKit Go.Proofs.Ytcpfnihpheoiiaa.Mem Go.Proofs.Ytcpfnihpheoiiaa.Own Go.Proofs.Ytcpfnihpheoiiaa.L1
def faultFor (t : Tab) (p : Nat) (write : Bool) : Int := if faultOf t p = 0 ∧ write = true ∧ (get t p).wr = false then 3 else faultOf t p
def transOf (t : Tab) (page : Int) (write : Bool) : Int × Int × Bool :=
  if OkT t ∧ 0 ≤ page ∧ page < 16 then
    if faultFor t page.toNat write = 0 then ((get t page.toNat).f, 0, true) else (-1, faultFor t page.toNat write, true)
  else (0, 0, false)
theorem transOf_no {t : Tab} {page : Int} {write : Bool} (h : ¬ (OkT t ∧ 0 ≤ page ∧ page < 16)) : transOf t page write = (0, 0, false) := by unfold transOf; rw [if_neg h]
theorem transOf_dir {t : Tab} {p : Nat} {write : Bool} (h : OkT t) (hp : p < 16) (hf : faultOf t p ≠ 0) : transOf t p write = (-1, faultOf t p, true) := by
  unfold transOf
  rw [if_pos ⟨h, by omega, by omega⟩]
  have : faultFor t p write = faultOf t p := by unfold faultFor; rw [if_neg fun k => hf k.1]
  rw [Int.toNat_natCast, this, if_neg hf]
theorem transOf_zero {t : Tab} {p : Nat} {write : Bool} (h : OkT t) (hp : p < 16) (hf : faultOf t p = 0) : transOf t p write = if write = true ∧ (get t p).wr = false then (-1, 3, true) else ((get t p).f, 0, true) := by
  unfold transOf
  rw [if_pos ⟨h, by omega, by omega⟩, Int.toNat_natCast]
  by_cases hw : write = true ∧ (get t p).wr = false
  · have : faultFor t p write = 3 := by unfold faultFor; rw [if_pos ⟨hf, hw⟩]
    rw [this, if_pos hw, if_neg (by omega)]
  · have : faultFor t p write = 0 := by unfold faultFor; rw [if_neg fun (h : faultOf t p = 0 ∧ write = true ∧ (get t p).wr = false) => hw h.2, hf]
    rw [this, if_neg hw, if_pos rfl]
set_option maxRecDepth 100000 in
set_option maxHeartbeats 2000000 in
theorem implTrans_any (A : Option Addr) (n c : Nat) (D : Option Addr) (m d : Nat) (page : Int) (write : Bool) (t : Tab) (w : World) (hr : ReadsT w w.heap.size A n D m t) (hn : n ≤ 1048576) (hm : m ≤ 1048576) (hl : ∀ xs ∈ t.leaves, xs.length ≤ 1048576) :
    Calls Try.prog 24 #[.agg #[.slice A n c, .slice D m d], .int .i64 page, .bool write] w fun e w' => e = .returned (.tuple #[.int .i64 (transOf t page write).1, .int .i64 (transOf t page write).2.1, .bool (transOf t page write).2.2]) ∧ Below w.heap.size w w' := by
  have hb0 := below_more (Below.refl w.heap.size w) (.cells #[.slice A n c, .slice D m d] 27)
  have HR := Lib.hid (hr.grow hb0)
  have HK : Hid (Blk (w.alloc (.cells #[.slice A n c, .slice D m d] 27)) w.heap.size 27 #[.slice A n c, .slice D m d]) := Lib.hid (Blk.new _ _ _)
  have HB0 := Lib.hid hb0
  clear hr hb0
  by_cases ok : OkT t
  · by_cases hp : 0 ≤ page ∧ page < 16
    · obtain ⟨p, rfl⟩ : ∃ p : Nat, page = p := ⟨page.toNat, by omega⟩
      have hp16 : p < 16 := by omega
      obtain ⟨f, hf⟩ : ∃ f, (get t p).f = f := ⟨_, rfl⟩
      obtain ⟨wr_, hwr⟩ : ∃ f, (get t p).wr = f := ⟨_, rfl⟩
      obtain ⟨z, hz⟩ : ∃ f, faultOf t p = f := ⟨_, rfl⟩
      have HTD : Hid (z ≠ 0 → transOf t p write = (-1, z, true)) := Lib.hid (by rw [← hz]; exact transOf_dir ok hp16)
      have HTZ : Hid (z = 0 → transOf t p write = if write = true ∧ wr_ = false then (-1, 3, true) else (f, 0, true)) := Lib.hid (by rw [← hz, ← hwr, ← hf]; exact transOf_zero ok hp16)
      have HF := Lib.hid hf
      have HWR := Lib.hid hwr
      have HZ := Lib.hid hz
      clear hf hwr hz
      go_enter Try.func24, Try.ntmps24
      go_wp2_with fail
      refine (implIsTable_any A n c D m d t _ HR.out hn hm hl true (decide_eq_true ok)).mono ?_
      rintro e w1 ⟨rfl, hb⟩
      have HB1 := Lib.hid (below_then HB0.out hb)
      have HR1 := Lib.hid (HR.out.grow hb)
      have k0 := (Blk.kept hb HK.out).cell 0 _ rfl
      have k1 := (Blk.kept hb HK.out).cell 1 _ rfl
      clear hb HB0 HR HK
      go_wp2_with fail
      refine (isPage_any p true (decide_eq_true hp) _).mono ?_
      rintro e w2 ⟨rfl, hw⟩
      subst hw
      go_wp2_with fail
      refine (entryOf_any A n c D m d p t _ HR1.out ok hp16).mono ?_
      rintro e w2 ⟨rfl, hb⟩
      have HB2 := Lib.hid (below_more (below_then HB1.out hb) (.cells #[.int .i64 f, .bool wr_] 76))
      rw [HF.out, HWR.out, HZ.out]
      have hw2 := Blk.new w2 #[.int .i64 f, .bool wr_] 76
      have e0 := hw2.cell 0 _ rfl
      have e1 := hw2.cell 1 _ rfl
      clear hb HB1 HR1 k0 k1 hw2
      by_cases h0 : z = 0
      · have HT := Lib.hid (HTZ.out h0)
        subst h0
        cases write with
        | false =>
          go_wp2_with fail
          go_ret3
          exact ⟨by rw [HT.out]; rfl, HB2.out⟩
        | true =>
          cases wr_ with
          | false =>
            go_wp2_with fail
            go_ret3
            exact ⟨by rw [HT.out]; rfl, HB2.out⟩
          | true =>
            go_wp2_with fail
            go_ret3
            exact ⟨by rw [HT.out]; rfl, HB2.out⟩
      · have HT := Lib.hid (HTD.out h0)
        have hzb : (z == 0) = false := by simpa using h0
        have hzc : (z != 0) = true := by simpa using h0
        go_wp2_with fail
        go_ret3
        exact ⟨by rw [HT.out]; rfl, HB2.out⟩
    · have HT := Lib.hid (transOf_no (t := t) (write := write) fun h => hp h.2)
      go_enter Try.func24, Try.ntmps24
      go_wp2_with fail
      refine (implIsTable_any A n c D m d t _ HR.out hn hm hl true (decide_eq_true ok)).mono ?_
      rintro e w1 ⟨rfl, hb⟩
      have HB1 := Lib.hid (below_then HB0.out hb)
      clear hb
      go_wp2_with fail
      refine (isPage_any page false (decide_eq_false hp) _).mono ?_
      rintro e w2 ⟨rfl, hw⟩
      subst hw
      go_wp2_with fail
      go_ret3
      exact ⟨by rw [HT.out]; rfl, HB1.out⟩
  · have HT := Lib.hid (transOf_no (t := t) (page := page) (write := write) fun h => ok h.1)
    go_enter Try.func24, Try.ntmps24
    go_wp2_with fail
    refine (implIsTable_any A n c D m d t _ HR.out hn hm hl false (decide_eq_false ok)).mono ?_
    rintro e w1 ⟨rfl, hb⟩
    have HB1 := Lib.hid (below_then HB0.out hb)
    clear hb
    go_wp2_with fail
    go_ret3
    exact ⟨by rw [HT.out]; rfl, HB1.out⟩
set_option maxRecDepth 100000 in
set_option maxHeartbeats 2000000 in
theorem specTrans_any (A : Option Addr) (n c : Nat) (D : Option Addr) (m d : Nat) (page : Int) (write : Bool) (t : Tab) (w : World) (hr : ReadsT w w.heap.size A n D m t) (hn : n ≤ 1048576) (hm : m ≤ 1048576) (hl : ∀ xs ∈ t.leaves, xs.length ≤ 1048576) (hnc : n ≤ c) :
    Calls Try.prog 46 #[.agg #[.slice A n c, .slice D m d], .int .i64 page, .bool write] w fun e w' => e = .returned (.tuple #[.int .i64 (transOf t page write).1, .int .i64 (transOf t page write).2.1, .bool (transOf t page write).2.2]) ∧ Below w.heap.size w w' := by
  have hb0 := below_more (Below.refl w.heap.size w) (.cells #[.slice A n c, .slice D m d] 27)
  have HR := Lib.hid (hr.grow hb0)
  have HK : Hid (Blk (w.alloc (.cells #[.slice A n c, .slice D m d] 27)) w.heap.size 27 #[.slice A n c, .slice D m d]) := Lib.hid (Blk.new _ _ _)
  have HB0 := Lib.hid hb0
  clear hr hb0
  by_cases h : OkT t ∧ 0 ≤ page ∧ page < 16
  · obtain ⟨ok, hp⟩ := h
    obtain ⟨p, rfl⟩ : ∃ p : Nat, page = p := ⟨page.toNat, by omega⟩
    have hp16 : p < 16 := by omega
    obtain ⟨f, hf⟩ : ∃ f, (get t p).f = f := ⟨_, rfl⟩
    obtain ⟨wr_, hwr⟩ : ∃ f, (get t p).wr = f := ⟨_, rfl⟩
    obtain ⟨k, hk⟩ : ∃ k, dirOf t p = k := ⟨_, rfl⟩
    have HTA : Hid (k = -1 → transOf t p write = (-1, 1, true)) := Lib.hid (by
      intro h1
      have : faultOf t p = 1 := by unfold faultOf; rw [if_pos (by rw [hk]; exact h1)]
      rw [transOf_dir ok hp16 (by rw [this]; omega), this])
    have HTB : Hid (k ≠ -1 → f = -1 → transOf t p write = (-1, 2, true)) := Lib.hid (by
      intro h1 h2
      have : faultOf t p = 2 := by unfold faultOf; rw [if_neg (by rw [hk]; exact h1), hf, if_pos h2]
      rw [transOf_dir ok hp16 (by rw [this]; omega), this])
    have HTC : Hid (k ≠ -1 → f ≠ -1 → transOf t p write = if write = true ∧ wr_ = false then (-1, 3, true) else (f, 0, true)) := Lib.hid (by
      intro h1 h2
      have : faultOf t p = 0 := by unfold faultOf; rw [if_neg (by rw [hk]; exact h1), hf, if_neg h2]
      rw [transOf_zero ok hp16 this, hf, hwr])
    have HF := Lib.hid hf
    have HWR := Lib.hid hwr
    have HKK := Lib.hid hk
    clear hf hwr hk
    go_enter Try.func46, Try.ntmps46
    go_wp2_with fail
    refine (l4Page_any A n c D m d p t _ HR.out hn hm hl hnc true (decide_eq_true ⟨ok, hp⟩)).mono ?_
    rintro e w1 ⟨rfl, hb⟩
    have HB1 := Lib.hid (below_then HB0.out hb)
    have HR1 := Lib.hid (HR.out.grow hb)
    have HK1 := Lib.hid (Blk.kept hb HK.out)
    have k0 := HK1.out.cell 0 _ rfl
    have k1 := HK1.out.cell 1 _ rfl
    clear hb HB0 HR HK
    go_wp2_with fail
    refine (l4Get_any A n c D m d p t _ HR1.out ok hp16).mono ?_
    rintro e w2 ⟨rfl, hb⟩
    rw [HF.out, HWR.out]
    have hba := below_more (Below.refl w2.heap.size w2) (.cells #[.int .i64 f, .bool wr_] 76)
    have HB2 := Lib.hid (below_more (below_then HB1.out hb) (.cells #[.int .i64 f, .bool wr_] 76))
    have hw2 := Blk.new w2 #[.int .i64 f, .bool wr_] 76
    obtain ⟨hn4, b, o, rfl, hc, _⟩ := page_at ((HR1.out.grow hb).grow hba) ok hp16
    subst hn4
    rw [HKK.out] at hc
    have HK2 := Blk.kept hba (Blk.kept hb HK1.out)
    obtain ⟨wa, hwa⟩ : ∃ wa, w2.alloc (.cells #[.int .i64 f, .bool wr_] 76) = wa := ⟨_, rfl⟩
    rw [hwa] at HB2 hw2 HK2 hc
    have e0 := hw2.cell 0 _ rfl
    have e1 := hw2.cell 1 _ rfl
    replace k0 := HK2.cell 0 _ rfl
    replace k1 := HK2.cell 1 _ rfl
    have HWA := Lib.hid hwa
    clear hb HB1 HR1 HK1 HK2 hw2 hba hwa
    go_upto_region 4 with fail
    rw [HWA.out]
    clear HWA
    by_cases hk1 : k = -1
    · have HT := Lib.hid (HTA.out hk1)
      subst hk1
      go_wp2_with fail
      go_ret3
      exact ⟨by rw [HT.out]; rfl, HB2.out⟩
    · have hkb : (k == -1) = false := by simpa using hk1
      by_cases hf1 : f = -1
      · have HT := Lib.hid (HTB.out hk1 hf1)
        subst hf1
        go_wp2_with fail
        go_ret3
        exact ⟨by rw [HT.out]; rfl, HB2.out⟩
      · have HT := Lib.hid (HTC.out hk1 hf1)
        have hfb : (f == -1) = false := by simpa using hf1
        cases write with
        | false =>
          go_wp2_with fail
          go_ret3
          exact ⟨by rw [HT.out]; rfl, HB2.out⟩
        | true =>
          cases wr_ with
          | false =>
            go_wp2_with fail
            go_ret3
            exact ⟨by rw [HT.out]; rfl, HB2.out⟩
          | true =>
            go_wp2_with fail
            go_ret3
            exact ⟨by rw [HT.out]; rfl, HB2.out⟩
  · have HT := Lib.hid (transOf_no (write := write) h)
    go_enter Try.func46, Try.ntmps46
    go_wp2_with fail
    refine (l4Page_any A n c D m d page t _ HR.out hn hm hl hnc false (decide_eq_false h)).mono ?_
    rintro e w1 ⟨rfl, hb⟩
    have HB1 := Lib.hid (below_then HB0.out hb)
    clear hb
    go_wp2_with fail
    go_ret3
    exact ⟨by rw [HT.out]; rfl, HB1.out⟩
end Go.Proofs.Ytcpfnihpheoiiaa.L4
