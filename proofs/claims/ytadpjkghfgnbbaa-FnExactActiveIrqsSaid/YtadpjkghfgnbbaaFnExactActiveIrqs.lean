/- For every argument the law FnExactActiveIrqs returns true. -/
import Derived.Test.YtadpjkghfgnbbaaRows
import Derived.Test.YtadpjkghfgnbbaaFrame
import Derived.Test.YtadpjkghfgnbbaaSlH
import Derived.Test.YtadpjkghfgnbbaaSlTf
import Derived.Test.YtadpjkghfgnbbaaMkI
import Derived.Test.YtadpjkghfgnbbaaSltM
import Derived.Test.YtadpjkghfgnbbaaSltP
import Derived.Deep.RegionHeld3
import Derived.Deep.Cut
import Derived.Deep.CutRange
namespace Go.Proofs.Ytadpjkghfgnbbaa.fnExactActiveIrqs
open Go.ChangeShapes Go.WideShapes Go.ChangeAt Go.RowKit
open Go.ChangeMaps (open_string shut_string)
open Go Go.Proofs.Ytadpjkghfgnbbaa.L8 Go.Proofs.Ytadpjkghfgnbbaa.Mem Go.Proofs.Ytadpjkghfgnbbaa.Own
set_option linter.unusedVariables false
theorem own : ownKnob Try.prog.godebug = none := by kernel_rfl
theorem laidOut : laidOutB Try.prog = true := by kernel_rfl
set_option maxRecDepth 100000 in
set_option maxHeartbeats 20000000 in
theorem big0 (W : World) (A0 : Option Addr) (n0 c0 : Nat) (xs0 : List Slt) (hr0 : Reads W W.heap.size 3 A0 n0 (FL xs0)) (hx0 : n0 ≤ maxLen) (hy0 : 1048576 < n0) :
    Calls Try.prog 11 #[.slice A0 n0 c0] W fun e W' => e = .returned (.bool true) ∧ Below W.heap.size W W' := by
  unfold maxLen at hx0
  have hW0 : Hid (Below W.heap.size W W) := Lib.hid (Below.refl _ _)
  replace hr0 := Lib.hid hr0
  go_enter Try.func11, Try.ntmps11
  go_wp2_with fail
  refine (szSlotS_no A0 n0 c0 (1048576) (by omega) (by omega) _ (by omega) (by omega)).mono ?_
  rintro e w0 ⟨rfl, hw⟩
  subst hw
  go_wp2_with fail
  go_ret
  exact ⟨rfl, hW0.out⟩
set_option maxRecDepth 100000 in
set_option maxHeartbeats 20000000 in
theorem walk0 (W : World) (A0 : Option Addr) (n0 c0 : Nat) (xs0 : List Slt) (hr0 : Reads W W.heap.size 3 A0 n0 (FL xs0)) (hx0 : n0 ≤ maxLen) (hy0 : n0 ≤ 1048576) :
    Calls Try.prog 11 #[.slice A0 n0 c0] W fun e W' => e = .returned (.bool true) ∧ Below W.heap.size W W' := by
  unfold maxLen at hx0
  have hn0 : n0 ≤ 1048576 := by omega
  obtain ⟨r, hr_⟩ : ∃ r, acAns xs0 = r := ⟨_, rfl⟩
  have hll : r.1.length ≤ 4 := by rw [← hr_]; exact acAns_len _
  have HS := fun (A5 : Option Addr) (w : World) (hx : Reads w w.heap.size 3 A5 n0 (FL xs0)) => specActive_any A5 n0 n0 xs0 w hx hn0
  have HI := fun (A5 : Option Addr) (w : World) (hx : Reads w w.heap.size 3 A5 n0 (FL xs0)) => implActive_any A5 n0 n0 xs0 w hx (Nat.le_refl _)
  rw [hr_] at HS HI
  obtain ⟨l0, b⟩ := r
  unfold AcPost at HS HI
  simp only at HS HI hll
  obtain ⟨r0, hm1⟩ : ∃ m, l0.length = m := ⟨_, rfl⟩
  rw [hm1] at hll
  simp only [hm1] at HS HI
  have hr_0 : r0 ≤ 1048576 := by omega
  replace HS := Lib.hid HS
  replace HI := Lib.hid HI
  clear hr_ hll hm1
  replace hr0 := Lib.hid hr0
  have hW0 : Hid (Below W.heap.size W W) := Lib.hid (Below.refl _ _)
  go_enter Try.func11, Try.ntmps11
  go_wp2_with fail
  refine (szSlotS_yes A0 n0 c0 (1048576) (by omega) _ (by omega)).mono ?_
  rintro e w0 ⟨rfl, hw⟩
  subst hw
  go_wp2_with fail
  refine (toSlotS_any A0 n0 c0 _ xs0 _ ((hr0.out.below hW0.out).more hW0.out.size) (Nat.le_refl _) hn0).mono ?_
  rintro e u1 ⟨g_t0, rfl, h_t0, hb⟩
  have hW1 := Lib.hid (below_then hW0.out hb)
  have sz1 := Lib.hid hb.size
  clear hb hW0
  have o_t0 : Hid (Row u1 W.heap.size u1.heap.size 33 3 (.slice (some ⟨g_t0, 0, none⟩) n0 n0) n0 (FL xs0)) := Lib.hid (by first | exact h_t0 | exact Row.of h_t0)
  clear h_t0
  go_wp2_with fail
  refine (HS.out _ _ o_t0.out.reads).mono ?_
  rintro e u2 ⟨A_w0, c_w0, rfl, h_w0, hb⟩
  have hW2 := Lib.hid (below_then hW1.out hb)
  replace o_t0 := Lib.hid (o_t0.out.below hb)
  have sz2 := Lib.hid hb.size
  clear hb hW1
  have o_w0 : Hid (Row u2 u1.heap.size u2.heap.size 3 1 (.slice A_w0 r0 c_w0) r0 (I l0)) := Lib.hid (by first | exact h_w0 | exact Row.of h_w0)
  clear h_w0
  clear o_t0
  go_wp2_with fail
  refine (toSlotS_any A0 n0 c0 _ xs0 _ ((hr0.out.below hW2.out).more hW2.out.size) (Nat.le_refl _) hn0).mono ?_
  rintro e u3 ⟨g_x0, rfl, h_x0, hb⟩
  have hW3 := Lib.hid (below_then hW2.out hb)
  replace o_w0 := Lib.hid (o_w0.out.below hb)
  have sz3 := Lib.hid hb.size
  clear hb hW2
  have o_x0 : Hid (Row u3 u2.heap.size u3.heap.size 33 3 (.slice (some ⟨g_x0, 0, none⟩) n0 n0) n0 (FL xs0)) := Lib.hid (by first | exact h_x0 | exact Row.of h_x0)
  clear h_x0
  go_wp2_with fail
  refine (HI.out _ _ o_x0.out.reads).mono ?_
  rintro e u4 ⟨A_g0, c_g0, rfl, h_g0, hb⟩
  have hW4 := Lib.hid (below_then hW3.out hb)
  replace o_w0 := Lib.hid (o_w0.out.below hb)
  replace o_x0 := Lib.hid (o_x0.out.below hb)
  have sz4 := Lib.hid hb.size
  clear hb hW3
  have o_g0 : Hid (Row u4 u3.heap.size u4.heap.size 3 1 (.slice A_g0 r0 c_g0) r0 (I l0)) := Lib.hid (by first | exact h_g0 | exact Row.of h_g0)
  clear h_g0
  go_wp2_with fail
  refine (eq_step _ _ _ _ _ l0 _ hr_0 o_g0.out.reads o_w0.out.reads).mono ?_
  rintro e u5 ⟨rfl, hb⟩
  have hW5 := Lib.hid (below_then hW4.out hb)
  replace o_w0 := Lib.hid (o_w0.out.below hb)
  replace o_x0 := Lib.hid (o_x0.out.below hb)
  replace o_g0 := Lib.hid (o_g0.out.below hb)
  have sz5 := Lib.hid hb.size
  clear hb hW4
  go_wp2_with fail
  refine (toSlotS_any A0 n0 c0 _ xs0 _ ((hr0.out.below hW5.out).more hW5.out.size) (Nat.le_refl _) hn0).mono ?_
  rintro e u6 ⟨g_y0, rfl, h_y0, hb⟩
  have hW6 := Lib.hid (below_then hW5.out hb)
  replace o_w0 := Lib.hid (o_w0.out.below hb)
  replace o_x0 := Lib.hid (o_x0.out.below hb)
  replace o_g0 := Lib.hid (o_g0.out.below hb)
  have sz6 := Lib.hid hb.size
  clear hb hW5
  have o_y0 : Hid (Row u6 u5.heap.size u6.heap.size 33 3 (.slice (some ⟨g_y0, 0, none⟩) n0 n0) n0 (FL xs0)) := Lib.hid (by first | exact h_y0 | exact Row.of h_y0)
  clear h_y0
  go_wp2_with fail
  refine (eqSlotS_step _ _ _ _ _ xs0 _ hn0 o_x0.out.reads o_y0.out.reads).mono ?_
  rintro e u7 ⟨rfl, hb⟩
  have hW7 := Lib.hid (below_then hW6.out hb)
  replace o_w0 := Lib.hid (o_w0.out.below hb)
  replace o_x0 := Lib.hid (o_x0.out.below hb)
  replace o_g0 := Lib.hid (o_g0.out.below hb)
  replace o_y0 := Lib.hid (o_y0.out.below hb)
  have sz7 := Lib.hid hb.size
  clear hb hW6
  clear o_y0
  go_wp2_with fail
  refine (markSlotS_step _ _ _ _ _ (1) (1) (by first | rfl | (push_cast; omega)) _ _ hn0 (by omega) o_x0.out).mono ?_
  rintro e u8 ⟨rfl, _, ho⟩
  have ysz1 := sz1.out; have ysz2 := sz2.out; have ysz3 := sz3.out; have ysz4 := sz4.out; have ysz5 := sz5.out; have ysz6 := sz6.out; have ysz7 := sz7.out
  have hw0 := hW7.out.size
  have hW8 := Lib.hid (ho.below hW7.out (by omega))
  replace o_w0 := Lib.hid (o_w0.out.only ho (by omega))
  replace o_g0 := Lib.hid (o_g0.out.only ho (by omega))
  clear ysz1 ysz2 ysz3 ysz4 ysz5 ysz6 ysz7 hw0
  have sz8 := Lib.hid ho.size
  clear ho hW7
  clear o_x0
  go_wp2_with fail
  refine (eq_step _ _ _ _ _ l0 _ hr_0 o_g0.out.reads o_w0.out.reads).mono ?_
  rintro e u9 ⟨rfl, hb⟩
  have hW9 := Lib.hid (below_then hW8.out hb)
  replace o_w0 := Lib.hid (o_w0.out.below hb)
  replace o_g0 := Lib.hid (o_g0.out.below hb)
  have sz9 := Lib.hid hb.size
  clear hb hW8
  go_wp2_with fail
  refine (markI_step _ _ _ _ _ (1) (1) (by first | rfl | (push_cast; omega)) _ _ hr_0 (by omega) o_g0.out).mono ?_
  rintro e u10 ⟨rfl, h_g0, ho⟩
  have ysz1 := sz1.out; have ysz2 := sz2.out; have ysz3 := sz3.out; have ysz4 := sz4.out; have ysz5 := sz5.out; have ysz6 := sz6.out; have ysz7 := sz7.out; have ysz8 := sz8.out; have ysz9 := sz9.out
  have hw0 := hW9.out.size
  have hW10 := Lib.hid (ho.below hW9.out (by omega))
  replace o_w0 := Lib.hid (o_w0.out.only ho (by omega))
  clear ysz1 ysz2 ysz3 ysz4 ysz5 ysz6 ysz7 ysz8 ysz9 hw0
  have sz10 := Lib.hid ho.size
  clear ho hW9
  have n_g0 : Hid (Row u10 u3.heap.size u4.heap.size 3 1 (.slice A_g0 r0 c_g0) r0 (I (upFrom (1) r0))) := Lib.hid h_g0
  clear h_g0 o_g0
  have o_g0 := n_g0
  clear n_g0
  go_wp2_with fail
  refine (held_step _ _ _ (1) (1) (by first | rfl | (push_cast; omega)) _ hr_0 (by omega) o_g0.out.reads).mono ?_
  rintro e u11 ⟨rfl, hb⟩
  have hW11 := Lib.hid (below_then hW10.out hb)
  replace o_w0 := Lib.hid (o_w0.out.below hb)
  replace o_g0 := Lib.hid (o_g0.out.below hb)
  have sz11 := Lib.hid hb.size
  clear hb hW10
  go_wp2_with fail
  refine (toSlotS_any A0 n0 c0 _ xs0 _ ((hr0.out.below hW11.out).more hW11.out.size) (Nat.le_refl _) hn0).mono ?_
  rintro e u12 ⟨g_r0, rfl, h_r0, hb⟩
  have hW12 := Lib.hid (below_then hW11.out hb)
  replace o_w0 := Lib.hid (o_w0.out.below hb)
  replace o_g0 := Lib.hid (o_g0.out.below hb)
  have sz12 := Lib.hid hb.size
  clear hb hW11
  have o_r0 : Hid (Row u12 u11.heap.size u12.heap.size 33 3 (.slice (some ⟨g_r0, 0, none⟩) n0 n0) n0 (FL xs0)) := Lib.hid (by first | exact h_r0 | exact Row.of h_r0)
  clear h_r0
  go_wp2_with fail
  refine (HI.out _ _ o_r0.out.reads).mono ?_
  rintro e u13 ⟨A_h0, c_h0, rfl, h_h0, hb⟩
  have hW13 := Lib.hid (below_then hW12.out hb)
  replace o_w0 := Lib.hid (o_w0.out.below hb)
  replace o_g0 := Lib.hid (o_g0.out.below hb)
  replace o_r0 := Lib.hid (o_r0.out.below hb)
  have sz13 := Lib.hid hb.size
  clear hb hW12
  have o_h0 : Hid (Row u13 u12.heap.size u13.heap.size 3 1 (.slice A_h0 r0 c_h0) r0 (I l0)) := Lib.hid (by first | exact h_h0 | exact Row.of h_h0)
  clear h_h0
  clear o_r0
  go_wp2_with fail
  refine (eq_step _ _ _ _ _ l0 _ hr_0 o_h0.out.reads o_w0.out.reads).mono ?_
  rintro e u14 ⟨rfl, hb⟩
  have hW14 := Lib.hid (below_then hW13.out hb)
  replace o_w0 := Lib.hid (o_w0.out.below hb)
  replace o_g0 := Lib.hid (o_g0.out.below hb)
  replace o_h0 := Lib.hid (o_h0.out.below hb)
  have sz14 := Lib.hid hb.size
  clear hb hW13
  go_wp2_with fail
  refine (held_step _ _ _ (1) (1) (by first | rfl | (push_cast; omega)) _ hr_0 (by omega) o_g0.out.reads).mono ?_
  rintro e u15 ⟨rfl, hb⟩
  have hW15 := Lib.hid (below_then hW14.out hb)
  replace o_w0 := Lib.hid (o_w0.out.below hb)
  replace o_g0 := Lib.hid (o_g0.out.below hb)
  replace o_h0 := Lib.hid (o_h0.out.below hb)
  have sz15 := Lib.hid hb.size
  clear hb hW14
  go_wp2_with fail
  go_ret
  exact ⟨rfl, hW15.out⟩

set_option maxHeartbeats 4000000 in
set_option maxRecDepth 100000 in
/-- the law's Go text returns true, and nothing that was there has turned -/
theorem walk {H : Type} {enc : TypeId × Value → H} (W : World) (base : Nat) (v0 : Value) (d0 : DataW H) (p0 : List MemPlace) (q0 : Value.okWide Try.prog W .any base 43 v0) (h0 : DataW.Trod enc Try.prog W 0 (fun _ => true) true 43 v0 d0 p0) (l0 : ∀ x ∈ p0, x.block < W.heap.size) (hL : laidMetH Try.prog Rows.fnExactActiveIrqsRow.laid W) (hsh : W.ShapedOpen Try.prog) :
    Calls Try.prog 11 #[v0] W fun e W' => e = .returned (.bool true) ∧ Below W.heap.size W W' := by
  obtain ⟨A0, n0, c0, xs0, rfl, hx0, hr0⟩ := open_slts q0 h0
  by_cases hy0 : 1048576 < n0
  · exact big0 W A0 n0 c0 xs0 hr0 hx0  hy0
  exact walk0 W A0 n0 c0 xs0 hr0 hx0 (by omega)
theorem laid_met (os : Os) : laidMetH Try.prog Rows.fnExactActiveIrqsRow.laid ((World.holding Try.prog os ⟨#[], #[], []⟩).forCall (fun _ _ => 0) ⟨#[], #[(.slice none 0 0 : Value)], []⟩).memory := ⟨[], rfl, List.nodup_nil, fun _ _ h => by cases h⟩
theorem reads (os : Os) {H : Type} (enc : TypeId × Value → H) : (DataW.whole enc Try.prog ((World.holding Try.prog os ⟨#[], #[], []⟩).forCall (fun _ _ => 0) ⟨#[], #[(.slice none 0 0 : Value)], []⟩).memory Try.f11.params.toList Rows.fnExactActiveIrqsSpec.vars false #[(.slice none 0 0 : Value)].toList 8).isSome = true := by kernel_rfl
set_option maxRecDepth 100000 in
theorem lifted (os : Os) (started : os.Started) (H : Type) (enc : TypeId × Value → H) (F : Stop.Interp) :
    ReturnsInHanded {} Try.checked os 11 .any ((OpenSpec.ofChange Rows.fnExactActiveIrqsSpec).preRow enc Try.prog Try.f11 Rows.fnExactActiveIrqsRow.domain false Rows.fnExactActiveIrqsRow.laid) (((OpenSpec.ofChange Rows.fnExactActiveIrqsSpec).at F).post enc Try.prog Try.f11 false true false false) := by
  obtain ⟨x, hx⟩ := Option.isSome_iff_exists.1 (reads os enc)
  refine returnsInHanded_of_row (C := Try.checked) (s := OpenSpec.ofChange Rows.fnExactActiveIrqsSpec) own started (by kernel_rfl) Try.func11
    (witness_row_at (enc := enc) (C := Try.checked) false (World.holding Try.prog os ⟨#[], #[], []⟩) #[(.slice none 0 0 : Value)] rfl (by kernel_rfl) (by kernel_rfl) (by kernel_rfl)
      (OpenSpec.preRow_of_cond 8 hx (by rfl) (fun k hk => by cases hk) (by kernel_rfl) (laid_met os))) ?_
  intro W base args ds gs before hval0 hW _ hcond hsz hL hsh _
  have hval : ∀ (j : Nat) t v, Try.f11.params[j]? = some t → args[j]? = some v → Value.okWide Try.prog W .any base t v := hval0
  have hW' := hW
  obtain ⟨p, q, hA0, hV, rfl, hfz, hnd⟩ := hW
  have hA : DataW.TrodAll enc Try.prog W 0 (fun _ => true) true Try.f11.params.toList args.toList ds p := hA0
  rw [Try.params11] at hA hval
  obtain ⟨v0, vs0, d0, ds0, p0, q0, hargs, rfl, rfl, h0, r0⟩ := trodAll_cons hA
  obtain ⟨rfl, rfl, rfl⟩ := trodAll_nil r0
  obtain rfl : args = #[v0] := by cases args; simp_all
  obtain ⟨rfl, rfl⟩ := trodVars_none hV
  clear hA0 hval0
  simp only [List.append_nil] at hW'
  refine (walk (enc := enc) W base v0 d0 p0 (hval 0 43 v0 rfl rfl) h0 (fun x hx => hW'.lt x (by simp [hx])) hL hsh).mono fun e W' ⟨he, hb⟩ => ⟨_, he, Fr.post_true laidOut (by kernel_rfl) (by kernel_rfl) Try.underlying4 rfl hW' (fun xs hx => by match xs, hx with | [x0], _ => rfl) hb⟩
theorem said : Rows.FnExactActiveIrqsSaid :=
  OpenClaim.holds_of_cond 11 Try.f11 rfl rfl rfl rfl rfl rfl rfl ⟨rfl, rfl, rfl, rfl, rfl⟩ rfl rfl rfl rfl rfl (by kernel_rfl) Try.func11 (by kernel_rfl)
    (of_decide_eq_true (by kernel_rfl)) (by unfold Func.isWrapper; first | (rw [if_pos (by decide +kernel)]; kernel_rfl) | (rw [if_neg (by decide +kernel)]; exact ⟨rfl, rfl⟩))
    (fun os started H enc _ F => by rw [OpenClaim.pre_eq_preRow]; exact lifted os started H enc F)
#print axioms said
end Go.Proofs.Ytadpjkghfgnbbaa.fnExactActiveIrqs
