/- What spec.l8Take, spec.TakeSlot answer. -/
import Derived.Test.YtadpjkghfgnbbaaSlTc
import Derived.Deep.RegionWith
namespace Go.Proofs.Ytadpjkghfgnbbaa.L8
open Go Go.RowKit Go.Proofs.Ytadpjkghfgnbbaa.Mem Go.Proofs.Ytadpjkghfgnbbaa.Own Go.Proofs.Ytadpjkghfgnbbaa.L6 Go.Proofs.Ytadpjkghfgnbbaa.L1
/-- the answer of l8Take: what it was handed and -1, or slots of its own -/
def TkPost (w : World) (A : Option Addr) (c : Nat) (xs : List Slt) (lim : Int) (e : Ending) (w' : World) : Prop :=
  (tkOf xs lim = ([], 0, false) ∧ e = .returned (.tuple #[.slice A 4 c, .int .i64 (-1)]) ∧ Below w.heap.size w w') ∨
  ∃ l z g cc, tkOf xs lim = (l, z, true) ∧ l.length = 4 ∧ 0 ≤ z ∧ e = .returned (.tuple #[.slice (some ⟨g, 0, none⟩) 4 cc, .int .i64 z]) ∧ w'.ownsRow w.heap.size 33 3 (.slice (some ⟨g, 0, none⟩) 4 cc) 4 (FL l) ∧ Below w.heap.size w w'
set_option maxRecDepth 100000 in
set_option maxHeartbeats 800000 in
theorem l8Take_any (A : Option Addr) (c : Nat) (xs : List Slt) (lim : Int) (w : World) (hr : Reads w w.heap.size 3 A 4 (FL xs)) (ho : okB xs = true) :
    Calls Try.prog 69 #[.slice A 4 c, .int .i64 lim] w (TkPost w A c xs lim) := by
  have HR := Lib.hid hr
  have HG := Lib.hid ho
  have hl : xs.length = 4 := reads_len hr
  clear hr ho
  rcases bst_is true xs 4 with ⟨hb, _⟩ | ⟨k, hb, hj⟩
  · have HB := Lib.hid hb
    have HT := Lib.hid (tkOf_no (lim := lim) hb)
    clear hb hl
    go_enter Try.func69, Try.ntmps69
    go_wp2_with fail
    refine (l8Best_true A c _ xs _ HR.out (Nat.le_refl _)).mono ?_
    rintro e w1 ⟨rfl, hb1⟩
    rw [HB.out]
    have HB1 := Lib.hid hb1
    clear hb1
    go_wp2_with fail
    go_ret2
    exact .inl ⟨HT.out, rfl, HB1.out⟩
  have hk4 : k < 4 := hj.lt
  have hkz : (k : Int) < 4 := by omega
  obtain ⟨b, off, x, rfl, hbB, hx, m0, m1, m2⟩ := slt_at HR.out hk4
  have hx1 : x.st = 1 := by have h := hj.one; rw [getD_atS hx] at h; exact h
  have HOK := Lib.hid (okB_ok HG.out hx)
  have HT1 : Hid (lim ≤ x.pr → tkOf xs lim = ([], 0, false)) := Lib.hid (tkOf_hi hb hx)
  have HT2 : Hid (x.pr < lim → tkOf xs lim = (xs.set k { x with st := 2 }, x.iq, true)) := Lib.hid (tkOf_yes hb hx)
  have HLEN : Hid (∀ y, (xs.set k y).length = 4) := Lib.hid (fun y => by rw [List.length_set]; exact hl)
  have HB := Lib.hid hb
  obtain ⟨x0, x1, x2⟩ := x
  simp only at hx1 m0 m1 m2 HT1 HT2
  subst hx1
  clear hb hj hx hl
  by_cases hp : lim ≤ x2
  · have HT := Lib.hid (HT1.out hp)
    have tp : decide (x2 ≥ lim) = true := decide_eq_true hp
    clear HT1 HT2 hp
    go_enter Try.func69, Try.ntmps69
    go_wp2_with fail
    refine (l8Best_true _ c _ xs _ HR.out (Nat.le_refl _)).mono ?_
    rintro e w1 ⟨rfl, hb1⟩
    rw [HB.out]
    have HB1 := Lib.hid hb1
    have n2 : w1.cell? ⟨b, off + k * 3 + 2, none⟩ = some (.int .i64 x2) := (hb1.cell (block_lt_of_cell m2)).trans m2
    clear hb1 m0 m1 m2
    go_wp2_with fail
    go_ret2
    exact .inl ⟨HT.out, rfl, HB1.out⟩
  · have HT := Lib.hid (HT2.out (by omega))
    have tp : decide (x2 ≥ lim) = false := decide_eq_false hp
    have hx10 : 0 ≤ x1 := by have h := HOK.out; unfold Ok at h; simp only at h; omega
    clear HT1 HT2 hp HOK
    go_enter Try.func69, Try.ntmps69
    go_wp2_with fail
    refine (l8Best_true _ c _ xs _ HR.out (Nat.le_refl _)).mono ?_
    rintro e w1 ⟨rfl, hb1⟩
    rw [HB.out]
    have n0 : w1.cell? ⟨b, off + k * 3, none⟩ = some (.int .i64 1) := (hb1.cell (block_lt_of_cell m0)).trans m0
    have n1 : w1.cell? ⟨b, off + k * 3 + 1, none⟩ = some (.int .i64 x1) := (hb1.cell (block_lt_of_cell m1)).trans m1
    have n2 : w1.cell? ⟨b, off + k * 3 + 2, none⟩ = some (.int .i64 x2) := (hb1.cell (block_lt_of_cell m2)).trans m2
    obtain ⟨wx, hwx⟩ : ∃ wx, w1.alloc (.cells #[.int .i64 1, .int .i64 x1, .int .i64 x2] 33) = wx := ⟨_, rfl⟩
    have HX0 : Hid (Blk wx w1.heap.size 33 #[.int .i64 1, .int .i64 x1, .int .i64 x2]) := Lib.hid (by rw [← hwx]; exact Blk.new _ _ _)
    have HBX : Hid (Below w.heap.size w wx) := Lib.hid (by rw [← hwx]; exact below_more hb1 _)
    have hgw : w.heap.size ≤ w1.heap.size := hb1.size
    have HWX := Lib.hid hwx
    clear hwx hb1 m0 m1 m2
    go_upto_region 5 with fail
    rw [HWX.out]
    obtain ⟨gx, hgx⟩ : ∃ gx, w1.heap.size = gx := ⟨_, rfl⟩
    rw [hgx] at HX0 hgw
    rw [hgx]
    have d0 : wx.cell? ⟨gx, 0, none⟩ = some (.int .i64 1) := HX0.out.cell 0 _ rfl
    have df := HX0.out.free 0
    clear HWX n0 n1 n2 tp hgx
    go_upto_region 6 with fail
    have HX1 := Lib.hid (HX0.out.set 0 (.int .i64 2))
    replace HBX := Lib.hid (below_set HBX.out hgw (j := 0) (.int .i64 2))
    clear d0 df HX0
    revert HX1 HBX
    generalize (World.setCell wx _ _) = wy
    intro HX1 HBX
    have d0 : wy.cell? ⟨gx, 0, none⟩ = some (.int .i64 2) := HX1.out.cell 0 _ rfl
    have d1 : wy.cell? ⟨gx, 1, none⟩ = some (.int .i64 x1) := HX1.out.cell 1 _ rfl
    have d2 : wy.cell? ⟨gx, 2, none⟩ = some (.int .i64 x2) := HX1.out.cell 2 _ rfl
    have HC : Hid (Calls Try.prog 58 #[.slice (some ⟨b, off, none⟩) 4 c, .int .i64 k, .agg #[.int .i64 2, .int .i64 x1, .int .i64 x2]] wy.drew (NewS wy.drew (xs.set k ⟨2, x1, x2⟩))) := Lib.hid (l8With_any (some ⟨b, off, none⟩) c k xs ⟨2, x1, x2⟩ wy.drew ((HR.out.below HBX.out).more HBX.out.size) hk4)
    have HXD : Hid (Blk wy.drew gx 33 #[.int .i64 2, .int .i64 x1, .int .i64 x2]) := Lib.hid HX1.out
    have HBD : Hid (Below w.heap.size w wy.drew) := Lib.hid (below_then HBX.out (below_dN wy 1))
    clear HX1 HBX
    go_region_with (go_at_call 58; refine HC.out.mono ?_; rintro e v1 ⟨g, cc, rfl, hown, hb⟩; have HO := Lib.hid (own_mono hown HBD.out.size); have HBB := Lib.hid (below_then HBD.out hb); have f1 : v1.cell? ⟨gx, 1, none⟩ = some (.int .i64 x1) := (Blk.kept hb HXD.out).cell 1 _ rfl; clear hown hb)
    all_goals
      clear d0 d1 d2 f1
      go_wp2_with fail
      go_ret2
      exact .inr ⟨_, _, g, cc, HT.out, HLEN.out _, hx10, rfl, HO.out, HBB.out⟩
set_option maxRecDepth 100000 in
set_option maxHeartbeats 800000 in
theorem specTake_any (A : Option Addr) (n c : Nat) (xs : List Slt) (lim : Int) (w : World) (hr : Reads w w.heap.size 3 A n (FL xs)) (hn : n ≤ 1048576) :
    Calls Try.prog 39 #[.slice A n c, .int .i64 lim] w (SlPost3 w (tkAns xs lim)) := by
  have HR := Lib.hid hr
  obtain ⟨b, hb⟩ : ∃ b, okB xs = b := ⟨_, rfl⟩
  have HG := Lib.hid hb
  have HI := Lib.hid (fun w hr => l8Good_any A n c _ xs w hr (Nat.le_refl _) hn b HG.out)
  clear hr hb
  cases b
  · have HZ : Hid (tkAns xs lim = ([], 0, false)) := Lib.hid (by unfold tkAns; rw [if_neg (by rw [HG.out]; simp)])
    rw [HZ.out]
    clear HZ
    go_enter Try.func39, Try.ntmps39
    go_wp2_with fail
    refine (HI.out _ HR.out).mono ?_
    rintro e w1 ⟨rfl, hb1⟩
    have HB1 := Lib.hid hb1
    clear hb1
    go_wp2_with fail
    go_ret3
    exact slPost3_nil HB1.out
  obtain ⟨b1, hb1⟩ : ∃ b, decide (0 ≤ lim ∧ lim < 17) = b := ⟨_, rfl⟩
  have H1 := Lib.hid hb1
  have H2 : Hid (decide (0 ≤ lim ∧ lim ≤ 16) = b1) := Lib.hid (by rw [← hb1]; exact decide_eq_decide.2 (by omega))
  clear hb1
  cases b1
  · have HZ : Hid (tkAns xs lim = ([], 0, false)) := Lib.hid (by unfold tkAns; rw [if_neg (fun hh => of_decide_eq_false H1.out hh.2)])
    rw [HZ.out]
    clear HZ
    go_enter Try.func39, Try.ntmps39
    go_wp2_with fail
    refine (HI.out _ HR.out).mono ?_
    rintro e w1 ⟨rfl, hb1⟩
    have HB1 := Lib.hid hb1
    clear hb1
    go_wp2_with fail
    refine (l1In_any lim 0 16 _ H2.out _).mono ?_
    rintro e w2 ⟨rfl, rfl⟩
    go_wp2_with fail
    go_ret3
    exact slPost3_nil HB1.out
  have HZ : Hid (tkAns xs lim = tkOf xs lim) := Lib.hid (by unfold tkAns; rw [if_pos ⟨HG.out, of_decide_eq_true H1.out⟩])
  rw [HZ.out]
  clear HZ
  have h4 : n = 4 := by have h1 : xs.length = n := reads_len HR.out; have h2 := okB_len HG.out; omega
  subst h4
  go_enter Try.func39, Try.ntmps39
  go_wp2_with fail
  refine (HI.out _ HR.out).mono ?_
  rintro e w1 ⟨rfl, hb1⟩
  have HB1 := Lib.hid hb1
  clear hb1
  go_wp2_with fail
  refine (l1In_any lim 0 16 _ H2.out _).mono ?_
  rintro e w2 ⟨rfl, rfl⟩
  go_wp2_with fail
  refine (l8Take_any A c xs lim _ ((HR.out.below HB1.out).more HB1.out.size) HG.out).mono ?_
  rintro e w2 (⟨ht, rfl, hb⟩ | ⟨l, z, g, cc, ht, hlen, hz, rfl, hown, hb⟩)
  · have HT := Lib.hid ht
    have HB := Lib.hid (below_then HB1.out hb)
    clear ht hb
    go_wp2_with fail
    go_ret3
    rw [HT.out]
    exact slPost3_nil HB.out
  · have HT := Lib.hid ht
    have HB := Lib.hid (below_then HB1.out hb)
    have HO := Lib.hid (own_mono hown HB1.out.size)
    have HLEN := Lib.hid hlen
    have tz : decide (z < 0) = false := decide_eq_false (by omega)
    clear ht hb hown hlen hz
    go_wp2_with fail
    go_ret3
    rw [HT.out]
    exact slPost3_4 HLEN.out HO.out HB.out
end Go.Proofs.Ytadpjkghfgnbbaa.L8
