/- For every argument the law FnExactCompactMoves returns true; no condition. -/
import Derived.Test.YtlpngmcnelmpmaaRows
import Derived.Test.YtlpngmcnelmpmaaFrame
import Derived.Test.YtlpngmcnelmpmaaCompS
namespace Go.Proofs.Ytlpngmcnelmpmaa.fnExactCompactMoves
open Go.ChangeShapes Go.WideShapes Go.ChangeAt Go.RowKit
open Go.ChangeMaps (open_string shut_string)
open Go.Proofs.Ytlpngmcnelmpmaa.L1 Go.Proofs.Ytlpngmcnelmpmaa.Mem Go.Proofs.Ytlpngmcnelmpmaa.Own Go.Proofs.Ytlpngmcnelmpmaa.Fra
set_option linter.unusedVariables false
theorem own : ownKnob Try.prog.godebug = none := by kernel_rfl
theorem laidOut : laidOutB Try.prog = true := by kernel_rfl
set_option maxHeartbeats 4000000 in
theorem walk0 (W : World) (A : Option Addr) (n c : Nat) (zs : List Int) (hr : Reads W W.heap.size 1 A n (I zs)) (hm : n ≤ maxLen)  :
    Calls Try.prog 11 #[.slice A n c] W fun e W' => e = .returned (.bool true) ∧ Below W.heap.size W W' := by
  unfold maxLen at hm
  by_cases h1 : 1048576 < n
  · go_enter Try.func11, Try.ntmps11
    go_wp2_with fail
    go_ret
    exact ⟨rfl, Below.refl _ _⟩
  have hn : n ≤ 1048576 := by omega
  have hr0 := Lib.hid hr
  clear hr
  obtain ⟨m0, x0, x1, b, hx, hm1, hm0⟩ := compRes_ex zs
  have HS := Lib.hid fun (A' : Option Addr) (c' : Nat) (w : World) (hr' : Reads w w.heap.size 1 A' n (I zs)) (hc' : A' = none → n = 0 ∧ c' = 0) => specCompactMoves_any A' n c' zs m0 x0 x1 b hx hn w hr' hc'
  have HI := Lib.hid fun (A' : Option Addr) (c' : Nat) (w : World) (hr' : Reads w w.heap.size 1 A' n (I zs)) (_ : A' = none → n = 0 ∧ c' = 0) => implCompactMoves_any A' n c' zs m0 x0 x1 b hx hn w hr'
  unfold RowP at HS HI
  obtain ⟨m1, hm'⟩ : ∃ m, x1.length = m := ⟨_, rfl⟩
  rw [hm'] at HS HI hm1
  have hm0s := hm0
  replace hm0 : m0 ≤ 1048576 := by omega
  replace hm1 : m1 ≤ 1048576 := by omega
  clear hx hm'
  have HT := Lib.hid fun (w : World) (hx : Reads w w.heap.size 1 A n (I zs)) (hB : w.heap.size ≤ w.heap.size) => toIntS_any A n c w.heap.size zs w hx hB hn
  have HE := Lib.hid eq_step
  have hW0 : Hid (Below W.heap.size W W) := Lib.hid (Below.refl _ _)
  have HM := Lib.hid mark_step
  have HH := Lib.hid held_step
  have HEP := Lib.hid eqPairs_step
  have HMP := Lib.hid markPairs_step
  have HHP := Lib.hid heldPairs_step
  go_enter Try.func11, Try.ntmps11
  go_wp2_with fail
  refine (HT.out _ ((hr0.out.below hW0.out).more hW0.out.size) (Nat.le_refl _)).mono ?_
  rintro e u1 ⟨g_t0, rfl, h_t0, hb⟩
  have hW1 := Lib.hid (hW0.out.trans (hb.mono hW0.out.size))
  clear hb
  have o_t0 := Lib.hid (own_mono h_t0 hW0.out.size)
  clear h_t0
  go_wp2_with fail
  have p_t0 := o_t0.out
  refine (HS.out _ _ _ (own_reads o_t0.out) (own_cap o_t0.out)).mono ?_
  rintro e u2 ⟨A_w0, c_w0, A_w1, c_w1, rfl, h_w0, h_w1, ap_w0_w1, hb⟩
  have a_t0_w0 := apart_new p_t0 h_w0
  have a_t0_w1 := apart_new p_t0 h_w1
  have a_w0_w1 := ap_w0_w1
  clear ap_w0_w1
  clear p_t0
  have hW2 := Lib.hid (hW1.out.trans (hb.mono hW1.out.size))
  replace o_t0 := Lib.hid (own_below o_t0.out hb)
  clear hb
  have o_w0 := Lib.hid (own_mono h_w0 hW1.out.size)
  clear h_w0
  have o_w1 := Lib.hid (own_mono h_w1 hW1.out.size)
  clear h_w1
  clear o_t0
  clear a_t0_w0
  clear a_t0_w1
  go_wp2_with fail
  have p_w0 := o_w0.out
  have p_w1 := o_w1.out
  refine (HT.out _ ((hr0.out.below hW2.out).more hW2.out.size) (Nat.le_refl _)).mono ?_
  rintro e u3 ⟨g_x0, rfl, h_x0, hb⟩
  have a_w0_x0 := apart_new p_w0 h_x0
  have a_w1_x0 := apart_new p_w1 h_x0
  clear p_w0 p_w1
  have hW3 := Lib.hid (hW2.out.trans (hb.mono hW2.out.size))
  replace o_w0 := Lib.hid (own_below o_w0.out hb)
  replace o_w1 := Lib.hid (own_below o_w1.out hb)
  clear hb
  have o_x0 := Lib.hid (own_mono h_x0 hW2.out.size)
  clear h_x0
  go_wp2_with fail
  have p_w0 := o_w0.out
  have p_w1 := o_w1.out
  have p_x0 := o_x0.out
  refine (HI.out _ _ _ (own_reads o_x0.out) (own_cap o_x0.out)).mono ?_
  rintro e u4 ⟨A_g0, c_g0, A_g1, c_g1, rfl, h_g0, h_g1, ap_g0_g1, hb⟩
  have a_w0_g0 := apart_new p_w0 h_g0
  have a_w1_g0 := apart_new p_w1 h_g0
  have a_x0_g0 := apart_new p_x0 h_g0
  have a_w0_g1 := apart_new p_w0 h_g1
  have a_w1_g1 := apart_new p_w1 h_g1
  have a_x0_g1 := apart_new p_x0 h_g1
  have a_g0_g1 := ap_g0_g1
  clear ap_g0_g1
  clear p_w0 p_w1 p_x0
  have hW4 := Lib.hid (hW3.out.trans (hb.mono hW3.out.size))
  replace o_w0 := Lib.hid (own_below o_w0.out hb)
  replace o_w1 := Lib.hid (own_below o_w1.out hb)
  replace o_x0 := Lib.hid (own_below o_x0.out hb)
  clear hb
  have o_g0 := Lib.hid (own_mono h_g0 hW3.out.size)
  clear h_g0
  have o_g1 := Lib.hid (own_mono h_g1 hW3.out.size)
  clear h_g1
  go_wp2_with fail
  refine (HEP.out _ _ _ _ _ _ _ hm0 (own_reads o_g0.out) (own_reads o_w0.out)).mono ?_
  rintro e u5 ⟨rfl, hb⟩
  have hW5 := Lib.hid (hW4.out.trans (hb.mono hW4.out.size))
  replace o_w0 := Lib.hid (own_below o_w0.out hb)
  replace o_w1 := Lib.hid (own_below o_w1.out hb)
  replace o_x0 := Lib.hid (own_below o_x0.out hb)
  replace o_g0 := Lib.hid (own_below o_g0.out hb)
  replace o_g1 := Lib.hid (own_below o_g1.out hb)
  clear hb
  go_wp2_with fail
  refine (HE.out _ _ _ _ _ _ _ hm1 (own_reads o_g1.out) (own_reads o_w1.out)).mono ?_
  rintro e u6 ⟨rfl, hb⟩
  have hW6 := Lib.hid (hW5.out.trans (hb.mono hW5.out.size))
  replace o_w0 := Lib.hid (own_below o_w0.out hb)
  replace o_w1 := Lib.hid (own_below o_w1.out hb)
  replace o_x0 := Lib.hid (own_below o_x0.out hb)
  replace o_g0 := Lib.hid (own_below o_g0.out hb)
  replace o_g1 := Lib.hid (own_below o_g1.out hb)
  clear hb
  go_wp2_with fail
  have p_w0 := o_w0.out
  have p_w1 := o_w1.out
  have p_x0 := o_x0.out
  have p_g0 := o_g0.out
  have p_g1 := o_g1.out
  refine (HT.out _ ((hr0.out.below hW6.out).more hW6.out.size) (Nat.le_refl _)).mono ?_
  rintro e u7 ⟨g_t1, rfl, h_t1, hb⟩
  have a_w0_t1 := apart_new p_w0 h_t1
  have a_w1_t1 := apart_new p_w1 h_t1
  have a_x0_t1 := apart_new p_x0 h_t1
  have a_g0_t1 := apart_new p_g0 h_t1
  have a_g1_t1 := apart_new p_g1 h_t1
  clear p_w0 p_w1 p_x0 p_g0 p_g1
  have hW7 := Lib.hid (hW6.out.trans (hb.mono hW6.out.size))
  replace o_w0 := Lib.hid (own_below o_w0.out hb)
  replace o_w1 := Lib.hid (own_below o_w1.out hb)
  replace o_x0 := Lib.hid (own_below o_x0.out hb)
  replace o_g0 := Lib.hid (own_below o_g0.out hb)
  replace o_g1 := Lib.hid (own_below o_g1.out hb)
  clear hb
  have o_t1 := Lib.hid (own_mono h_t1 hW6.out.size)
  clear h_t1
  go_wp2_with fail
  refine (HE.out _ _ _ _ _ _ _ hn (own_reads o_x0.out) (own_reads o_t1.out)).mono ?_
  rintro e u8 ⟨rfl, hb⟩
  have hW8 := Lib.hid (hW7.out.trans (hb.mono hW7.out.size))
  replace o_w0 := Lib.hid (own_below o_w0.out hb)
  replace o_w1 := Lib.hid (own_below o_w1.out hb)
  replace o_x0 := Lib.hid (own_below o_x0.out hb)
  replace o_g0 := Lib.hid (own_below o_g0.out hb)
  replace o_g1 := Lib.hid (own_below o_g1.out hb)
  replace o_t1 := Lib.hid (own_below o_t1.out hb)
  clear hb
  clear o_t1
  clear a_g1_t1
  clear a_x0_t1
  clear a_w0_t1
  clear a_w1_t1
  clear a_g0_t1
  go_wp2_with fail
  refine (HM.out _ _ _ _ (1) (1) (by first | rfl | (push_cast; omega)) _ _ hn (by omega) o_x0.out).mono ?_
  rintro e u9 ⟨rfl, h_x0, hg⟩
  have hW9 := Lib.hid (hW8.out.grown hg hW8.out.size (fun q hq => (o_x0.out.lt q hq).1))
  replace o_w0 := Lib.hid (own_apart o_w0.out hg (a_w0_x0).symm)
  replace o_w1 := Lib.hid (own_apart o_w1.out hg (a_w1_x0).symm)
  replace o_g0 := Lib.hid (own_apart o_g0.out hg a_x0_g0)
  replace o_g1 := Lib.hid (own_apart o_g1.out hg a_x0_g1)
  clear hg
  replace o_x0 := Lib.hid h_x0
  clear h_x0
  clear o_x0
  clear a_w1_x0
  clear a_x0_g0
  clear a_x0_g1
  clear a_w0_x0
  go_wp2_with fail
  refine (HEP.out _ _ _ _ _ _ _ hm0 (own_reads o_g0.out) (own_reads o_w0.out)).mono ?_
  rintro e u10 ⟨rfl, hb⟩
  have hW10 := Lib.hid (hW9.out.trans (hb.mono hW9.out.size))
  replace o_w0 := Lib.hid (own_below o_w0.out hb)
  replace o_w1 := Lib.hid (own_below o_w1.out hb)
  replace o_g0 := Lib.hid (own_below o_g0.out hb)
  replace o_g1 := Lib.hid (own_below o_g1.out hb)
  clear hb
  go_wp2_with fail
  refine (HE.out _ _ _ _ _ _ _ hm1 (own_reads o_g1.out) (own_reads o_w1.out)).mono ?_
  rintro e u11 ⟨rfl, hb⟩
  have hW11 := Lib.hid (hW10.out.trans (hb.mono hW10.out.size))
  replace o_w0 := Lib.hid (own_below o_w0.out hb)
  replace o_w1 := Lib.hid (own_below o_w1.out hb)
  replace o_g0 := Lib.hid (own_below o_g0.out hb)
  replace o_g1 := Lib.hid (own_below o_g1.out hb)
  clear hb
  go_wp2_with fail
  refine (HMP.out _ _ _ _ (1) (1) (by first | rfl | (push_cast; omega)) _ _ hm0 (by omega) o_g0.out).mono ?_
  rintro e u12 ⟨rfl, h_g0, hg⟩
  have hW12 := Lib.hid (hW11.out.grown hg hW11.out.size (fun q hq => (o_g0.out.lt q hq).1))
  replace o_w0 := Lib.hid (own_apart o_w0.out hg (a_w0_g0).symm)
  replace o_w1 := Lib.hid (own_apart o_w1.out hg (a_w1_g0).symm)
  replace o_g1 := Lib.hid (own_apart o_g1.out hg a_g0_g1)
  clear hg
  replace o_g0 := Lib.hid h_g0
  clear h_g0
  go_wp2_with fail
  refine (HM.out _ _ _ _ (1 + 2 * m0) (1 + 2 * (m0 : Int)) (by first | rfl | (push_cast; omega)) _ _ hm1 (by omega) o_g1.out).mono ?_
  rintro e u13 ⟨rfl, h_g1, hg⟩
  have hW13 := Lib.hid (hW12.out.grown hg hW12.out.size (fun q hq => (o_g1.out.lt q hq).1))
  replace o_w0 := Lib.hid (own_apart o_w0.out hg (a_w0_g1).symm)
  replace o_w1 := Lib.hid (own_apart o_w1.out hg (a_w1_g1).symm)
  replace o_g0 := Lib.hid (own_apart o_g0.out hg (a_g0_g1).symm)
  clear hg
  replace o_g1 := Lib.hid h_g1
  clear h_g1
  go_wp2_with fail
  refine (HHP.out _ _ _ (1) (1) (by first | rfl | (push_cast; omega)) _ hm0 (by omega) (own_reads o_g0.out)).mono ?_
  rintro e u14 ⟨rfl, hb⟩
  have hW14 := Lib.hid (hW13.out.trans (hb.mono hW13.out.size))
  replace o_w0 := Lib.hid (own_below o_w0.out hb)
  replace o_w1 := Lib.hid (own_below o_w1.out hb)
  replace o_g0 := Lib.hid (own_below o_g0.out hb)
  replace o_g1 := Lib.hid (own_below o_g1.out hb)
  clear hb
  go_wp2_with fail
  refine (HH.out _ _ _ (1 + 2 * m0) (1 + 2 * (m0 : Int)) (by first | rfl | (push_cast; omega)) _ hm1 (by omega) (own_reads o_g1.out)).mono ?_
  rintro e u15 ⟨rfl, hb⟩
  have hW15 := Lib.hid (hW14.out.trans (hb.mono hW14.out.size))
  replace o_w0 := Lib.hid (own_below o_w0.out hb)
  replace o_w1 := Lib.hid (own_below o_w1.out hb)
  replace o_g0 := Lib.hid (own_below o_g0.out hb)
  replace o_g1 := Lib.hid (own_below o_g1.out hb)
  clear hb
  go_wp2_with fail
  have p_w0 := o_w0.out
  have p_w1 := o_w1.out
  have p_g0 := o_g0.out
  have p_g1 := o_g1.out
  refine (HT.out _ ((hr0.out.below hW15.out).more hW15.out.size) (Nat.le_refl _)).mono ?_
  rintro e u16 ⟨g_t2, rfl, h_t2, hb⟩
  have a_w0_t2 := apart_new p_w0 h_t2
  have a_w1_t2 := apart_new p_w1 h_t2
  have a_g0_t2 := apart_new p_g0 h_t2
  have a_g1_t2 := apart_new p_g1 h_t2
  clear p_w0 p_w1 p_g0 p_g1
  have hW16 := Lib.hid (hW15.out.trans (hb.mono hW15.out.size))
  replace o_w0 := Lib.hid (own_below o_w0.out hb)
  replace o_w1 := Lib.hid (own_below o_w1.out hb)
  replace o_g0 := Lib.hid (own_below o_g0.out hb)
  replace o_g1 := Lib.hid (own_below o_g1.out hb)
  clear hb
  have o_t2 := Lib.hid (own_mono h_t2 hW15.out.size)
  clear h_t2
  go_wp2_with fail
  have p_w0 := o_w0.out
  have p_w1 := o_w1.out
  have p_g0 := o_g0.out
  have p_g1 := o_g1.out
  have p_t2 := o_t2.out
  refine (HI.out _ _ _ (own_reads o_t2.out) (own_cap o_t2.out)).mono ?_
  rintro e u17 ⟨A_h0, c_h0, A_h1, c_h1, rfl, h_h0, h_h1, ap_h0_h1, hb⟩
  have a_w0_h0 := apart_new p_w0 h_h0
  have a_w1_h0 := apart_new p_w1 h_h0
  have a_g0_h0 := apart_new p_g0 h_h0
  have a_g1_h0 := apart_new p_g1 h_h0
  have a_t2_h0 := apart_new p_t2 h_h0
  have a_w0_h1 := apart_new p_w0 h_h1
  have a_w1_h1 := apart_new p_w1 h_h1
  have a_g0_h1 := apart_new p_g0 h_h1
  have a_g1_h1 := apart_new p_g1 h_h1
  have a_t2_h1 := apart_new p_t2 h_h1
  have a_h0_h1 := ap_h0_h1
  clear ap_h0_h1
  clear p_w0 p_w1 p_g0 p_g1 p_t2
  have hW17 := Lib.hid (hW16.out.trans (hb.mono hW16.out.size))
  replace o_w0 := Lib.hid (own_below o_w0.out hb)
  replace o_w1 := Lib.hid (own_below o_w1.out hb)
  replace o_g0 := Lib.hid (own_below o_g0.out hb)
  replace o_g1 := Lib.hid (own_below o_g1.out hb)
  replace o_t2 := Lib.hid (own_below o_t2.out hb)
  clear hb
  have o_h0 := Lib.hid (own_mono h_h0 hW16.out.size)
  clear h_h0
  have o_h1 := Lib.hid (own_mono h_h1 hW16.out.size)
  clear h_h1
  clear o_t2
  clear a_w0_t2
  clear a_w1_t2
  clear a_g0_t2
  clear a_t2_h1
  clear a_g1_t2
  clear a_t2_h0
  go_wp2_with fail
  refine (HEP.out _ _ _ _ _ _ _ hm0 (own_reads o_h0.out) (own_reads o_w0.out)).mono ?_
  rintro e u18 ⟨rfl, hb⟩
  have hW18 := Lib.hid (hW17.out.trans (hb.mono hW17.out.size))
  replace o_w0 := Lib.hid (own_below o_w0.out hb)
  replace o_w1 := Lib.hid (own_below o_w1.out hb)
  replace o_g0 := Lib.hid (own_below o_g0.out hb)
  replace o_g1 := Lib.hid (own_below o_g1.out hb)
  replace o_h0 := Lib.hid (own_below o_h0.out hb)
  replace o_h1 := Lib.hid (own_below o_h1.out hb)
  clear hb
  go_wp2_with fail
  refine (HE.out _ _ _ _ _ _ _ hm1 (own_reads o_h1.out) (own_reads o_w1.out)).mono ?_
  rintro e u19 ⟨rfl, hb⟩
  have hW19 := Lib.hid (hW18.out.trans (hb.mono hW18.out.size))
  replace o_w0 := Lib.hid (own_below o_w0.out hb)
  replace o_w1 := Lib.hid (own_below o_w1.out hb)
  replace o_g0 := Lib.hid (own_below o_g0.out hb)
  replace o_g1 := Lib.hid (own_below o_g1.out hb)
  replace o_h0 := Lib.hid (own_below o_h0.out hb)
  replace o_h1 := Lib.hid (own_below o_h1.out hb)
  clear hb
  go_wp2_with fail
  refine (HHP.out _ _ _ (1) (1) (by first | rfl | (push_cast; omega)) _ hm0 (by omega) (own_reads o_g0.out)).mono ?_
  rintro e u20 ⟨rfl, hb⟩
  have hW20 := Lib.hid (hW19.out.trans (hb.mono hW19.out.size))
  replace o_w0 := Lib.hid (own_below o_w0.out hb)
  replace o_w1 := Lib.hid (own_below o_w1.out hb)
  replace o_g0 := Lib.hid (own_below o_g0.out hb)
  replace o_g1 := Lib.hid (own_below o_g1.out hb)
  replace o_h0 := Lib.hid (own_below o_h0.out hb)
  replace o_h1 := Lib.hid (own_below o_h1.out hb)
  clear hb
  go_wp2_with fail
  refine (HH.out _ _ _ (1 + 2 * m0) (1 + 2 * (m0 : Int)) (by first | rfl | (push_cast; omega)) _ hm1 (by omega) (own_reads o_g1.out)).mono ?_
  rintro e u21 ⟨rfl, hb⟩
  have hW21 := Lib.hid (hW20.out.trans (hb.mono hW20.out.size))
  replace o_w0 := Lib.hid (own_below o_w0.out hb)
  replace o_w1 := Lib.hid (own_below o_w1.out hb)
  replace o_g0 := Lib.hid (own_below o_g0.out hb)
  replace o_g1 := Lib.hid (own_below o_g1.out hb)
  replace o_h0 := Lib.hid (own_below o_h0.out hb)
  replace o_h1 := Lib.hid (own_below o_h1.out hb)
  clear hb
  go_wp2_with fail
  go_ret
  exact ⟨rfl, hW21.out⟩

/-- the law's Go text returns true, and nothing that was there has turned -/
theorem walk {H : Type} {enc : TypeId × Value → H} (W : World) (base : Nat) (v0 : Value) (d0 : DataW H) (p0 : List MemPlace) (q0 : Value.okWide Try.prog W .any base 24 v0) (h0 : DataW.Trod enc Try.prog W 0 (fun _ => true) true 24 v0 d0 p0) (l0 : ∀ x ∈ p0, x.block < W.heap.size) (hL : laidMetH Try.prog Rows.fnExactCompactMovesRow.laid W) (hsh : W.ShapedOpen Try.prog) :
    Calls Try.prog 11 #[v0] W fun e W' => e = .returned (.bool true) ∧ Below W.heap.size W W' := by
  obtain ⟨A, n, c, zs, rfl, hnc, hcm, _, _, hr⟩ := open_nums Try.underlying24 Try.underlying3 (by kernel_rfl) q0 h0
  exact walk0 W A n c zs hr (Nat.le_trans hnc hcm) 
theorem laid_met (os : Os) : laidMetH Try.prog Rows.fnExactCompactMovesRow.laid ((World.holding Try.prog os ⟨#[], #[], []⟩).forCall (fun _ _ => 0) ⟨#[], #[(.slice none 0 0 : Value)], []⟩).memory := ⟨[], rfl, List.nodup_nil, fun _ _ h => by cases h⟩
theorem reads (os : Os) {H : Type} (enc : TypeId × Value → H) : (DataW.whole enc Try.prog ((World.holding Try.prog os ⟨#[], #[], []⟩).forCall (fun _ _ => 0) ⟨#[], #[(.slice none 0 0 : Value)], []⟩).memory Try.f11.params.toList Rows.fnExactCompactMovesSpec.vars false #[(.slice none 0 0 : Value)].toList 8).isSome = true := by kernel_rfl
set_option maxRecDepth 100000 in
theorem lifted (os : Os) (started : os.Started) (H : Type) (enc : TypeId × Value → H) (F : Stop.Interp) :
    ReturnsInHanded {} Try.checked os 11 .any ((OpenSpec.ofChange Rows.fnExactCompactMovesSpec).preRow enc Try.prog Try.f11 Rows.fnExactCompactMovesRow.domain false Rows.fnExactCompactMovesRow.laid) (((OpenSpec.ofChange Rows.fnExactCompactMovesSpec).at F).post enc Try.prog Try.f11 false true false false) := by
  obtain ⟨x, hx⟩ := Option.isSome_iff_exists.1 (reads os enc)
  refine returnsInHanded_of_row (C := Try.checked) (s := OpenSpec.ofChange Rows.fnExactCompactMovesSpec) own started (by kernel_rfl) Try.func11
    (witness_row_at (enc := enc) (C := Try.checked) false (World.holding Try.prog os ⟨#[], #[], []⟩) #[(.slice none 0 0 : Value)] rfl (by kernel_rfl) (by kernel_rfl) (by kernel_rfl)
      (OpenSpec.preRow_of_cond 8 hx (by rfl) (fun k hk => by cases hk) (by kernel_rfl) (laid_met os))) ?_
  intro W base args ds gs before hval0 hW _ hcond hsz hL hsh _
  have hval : ∀ (j : Nat) t v, Try.f11.params[j]? = some t → args[j]? = some v → Value.okWide Try.prog W .any base t v := hval0
  have hW' := hW
  obtain ⟨p, q, hA0, hV, rfl, hfz, hnd⟩ := hW
  have hA : DataW.TrodAll enc Try.prog W 0 (fun _ => true) true Try.f11.params.toList args.toList ds p := hA0
  rw [Try.params11] at hA hval
  obtain ⟨v0, vs0, d0, ds0, p0, q0, hargs, rfl, rfl, h0, r0⟩ := trodAll_cons hA
  obtain ⟨rfl, rfl, rfl⟩ := trodAll_nil r0
  obtain rfl : args = #[v0] := by cases args; simp_all
  obtain ⟨rfl, rfl⟩ := trodVars_none hV
  clear hA0 hval0
  simp only [List.append_nil] at hW'
  refine (walk (enc := enc) W base v0 d0 p0 (hval 0 24 v0 rfl rfl) h0 (fun x hx => hW'.lt x (by simp [hx])) hL hsh).mono fun e W' ⟨he, hb⟩ => ⟨_, he, Fr.post_true laidOut (by kernel_rfl) (by kernel_rfl) Try.underlying4 rfl hW' (fun xs hx => by match xs, hx with | [x0], _ => rfl) hb⟩
theorem said : Rows.FnExactCompactMovesSaid :=
  OpenClaim.holds_of_cond 11 Try.f11 rfl rfl rfl rfl rfl rfl rfl ⟨rfl, rfl, rfl, rfl, rfl⟩ rfl rfl rfl rfl rfl (by kernel_rfl) Try.func11 (by kernel_rfl)
    (of_decide_eq_true (by kernel_rfl)) (by unfold Func.isWrapper; first | (rw [if_pos (by decide +kernel)]; kernel_rfl) | (rw [if_neg (by decide +kernel)]; exact ⟨rfl, rfl⟩))
    (fun os started H enc _ F => by rw [OpenClaim.pre_eq_preRow]; exact lifted os started H enc F)
#print axioms said
end Go.Proofs.Ytlpngmcnelmpmaa.fnExactCompactMoves
