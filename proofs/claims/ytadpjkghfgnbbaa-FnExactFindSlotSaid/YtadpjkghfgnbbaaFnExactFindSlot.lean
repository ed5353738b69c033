/- For every argument the law FnExactFindSlot returns true. -/
import Derived.Test.YtadpjkghfgnbbaaRows
import Derived.Test.YtadpjkghfgnbbaaFrame
import Derived.Test.YtadpjkghfgnbbaaSlG
import Derived.Test.YtadpjkghfgnbbaaSlT
import Derived.Test.YtadpjkghfgnbbaaSltM
import Derived.Test.YtadpjkghfgnbbaaSltH
import Derived.Test.YtadpjkghfgnbbaaSltP
import Derived.Deep.RegionHeld3
import Derived.Deep.Cut
import Derived.Deep.CutRange
namespace Go.Proofs.Ytadpjkghfgnbbaa.fnExactFindSlot
open Go.ChangeShapes Go.WideShapes Go.ChangeAt Go.RowKit
open Go.ChangeMaps (open_string shut_string)
open Go Go.Proofs.Ytadpjkghfgnbbaa.L8 Go.Proofs.Ytadpjkghfgnbbaa.Mem Go.Proofs.Ytadpjkghfgnbbaa.Own
set_option linter.unusedVariables false
theorem own : ownKnob Try.prog.godebug = none := by kernel_rfl
theorem laidOut : laidOutB Try.prog = true := by kernel_rfl
set_option maxRecDepth 100000 in
set_option maxHeartbeats 20000000 in
theorem big0 (W : World) (A0 : Option Addr) (n0 c0 : Nat) (xs0 : List Slt) (hr0 : Reads W W.heap.size 3 A0 n0 (FL xs0)) (hx0 : n0 ≤ maxLen) (n1 : Int) (hy0 : 1048576 < n0) :
    Calls Try.prog 9 #[.slice A0 n0 c0, .int .i64 n1] W fun e W' => e = .returned (.bool true) ∧ Below W.heap.size W W' := by
  unfold maxLen at hx0
  have hW0 : Hid (Below W.heap.size W W) := Lib.hid (Below.refl _ _)
  replace hr0 := Lib.hid hr0
  go_enter Try.func9, Try.ntmps9
  go_wp2_with fail
  refine (szSlotS_no A0 n0 c0 (1048576) (by omega) (by omega) _ (by omega) (by omega)).mono ?_
  rintro e w0 ⟨rfl, hw⟩
  subst hw
  go_wp2_with fail
  go_ret
  exact ⟨rfl, hW0.out⟩
set_option maxRecDepth 100000 in
set_option maxHeartbeats 20000000 in
theorem walk0 (W : World) (A0 : Option Addr) (n0 c0 : Nat) (xs0 : List Slt) (hr0 : Reads W W.heap.size 3 A0 n0 (FL xs0)) (hx0 : n0 ≤ maxLen) (n1 : Int) (hy0 : n0 ≤ 1048576) :
    Calls Try.prog 9 #[.slice A0 n0 c0, .int .i64 n1] W fun e W' => e = .returned (.bool true) ∧ Below W.heap.size W W' := by
  unfold maxLen at hx0
  have hn0 : n0 ≤ 1048576 := by omega
  obtain ⟨r, hr_⟩ : ∃ r, fdAns xs0 n1 = r := ⟨_, rfl⟩
  obtain ⟨z, b⟩ := r
  have HS := fun (A5 : Option Addr) (w : World) (hx : Reads w w.heap.size 3 A5 n0 (FL xs0)) => specFind_any A5 n0 n0 xs0 n1 w hx hn0 z b hr_
  have HI := fun (A5 : Option Addr) (w : World) (hx : Reads w w.heap.size 3 A5 n0 (FL xs0)) => implFind_any A5 n0 n0 xs0 n1 w hx (Nat.le_refl _) z b hr_
  replace HS := Lib.hid HS
  replace HI := Lib.hid HI
  clear hr_
  replace hr0 := Lib.hid hr0
  have hW0 : Hid (Below W.heap.size W W) := Lib.hid (Below.refl _ _)
  go_enter Try.func9, Try.ntmps9
  go_wp2_with fail
  refine (szSlotS_yes A0 n0 c0 (1048576) (by omega) _ (by omega)).mono ?_
  rintro e w0 ⟨rfl, hw⟩
  subst hw
  go_wp2_with fail
  refine (toSlotS_any A0 n0 c0 _ xs0 _ ((hr0.out.below hW0.out).more hW0.out.size) (Nat.le_refl _) hn0).mono ?_
  rintro e u1 ⟨g_t0, rfl, h_t0, hb⟩
  have hW1 := Lib.hid (below_then hW0.out hb)
  have sz1 := Lib.hid hb.size
  clear hb hW0
  have o_t0 : Hid (Row u1 W.heap.size u1.heap.size 33 3 (.slice (some ⟨g_t0, 0, none⟩) n0 n0) n0 (FL xs0)) := Lib.hid (by first | exact h_t0 | exact Row.of h_t0)
  clear h_t0
  go_wp2_with fail
  refine (HS.out _ _ o_t0.out.reads).mono ?_
  rintro e u2 ⟨rfl, hb⟩
  have hW2 := Lib.hid (below_then hW1.out hb)
  replace o_t0 := Lib.hid (o_t0.out.below hb)
  have sz2 := Lib.hid hb.size
  clear hb hW1
  clear o_t0
  go_wp2_with fail
  refine (toSlotS_any A0 n0 c0 _ xs0 _ ((hr0.out.below hW2.out).more hW2.out.size) (Nat.le_refl _) hn0).mono ?_
  rintro e u3 ⟨g_x0, rfl, h_x0, hb⟩
  have hW3 := Lib.hid (below_then hW2.out hb)
  have sz3 := Lib.hid hb.size
  clear hb hW2
  have o_x0 : Hid (Row u3 u2.heap.size u3.heap.size 33 3 (.slice (some ⟨g_x0, 0, none⟩) n0 n0) n0 (FL xs0)) := Lib.hid (by first | exact h_x0 | exact Row.of h_x0)
  clear h_x0
  go_wp2_with fail
  refine (HI.out _ _ o_x0.out.reads).mono ?_
  rintro e u4 ⟨rfl, hb⟩
  have hW4 := Lib.hid (below_then hW3.out hb)
  replace o_x0 := Lib.hid (o_x0.out.below hb)
  have sz4 := Lib.hid hb.size
  clear hb hW3
  go_wp2_with fail
  refine (toSlotS_any A0 n0 c0 _ xs0 _ ((hr0.out.below hW4.out).more hW4.out.size) (Nat.le_refl _) hn0).mono ?_
  rintro e u5 ⟨g_y0, rfl, h_y0, hb⟩
  have hW5 := Lib.hid (below_then hW4.out hb)
  replace o_x0 := Lib.hid (o_x0.out.below hb)
  have sz5 := Lib.hid hb.size
  clear hb hW4
  have o_y0 : Hid (Row u5 u4.heap.size u5.heap.size 33 3 (.slice (some ⟨g_y0, 0, none⟩) n0 n0) n0 (FL xs0)) := Lib.hid (by first | exact h_y0 | exact Row.of h_y0)
  clear h_y0
  go_wp2_with fail
  refine (eqSlotS_step _ _ _ _ _ xs0 _ hn0 o_x0.out.reads o_y0.out.reads).mono ?_
  rintro e u6 ⟨rfl, hb⟩
  have hW6 := Lib.hid (below_then hW5.out hb)
  replace o_x0 := Lib.hid (o_x0.out.below hb)
  replace o_y0 := Lib.hid (o_y0.out.below hb)
  have sz6 := Lib.hid hb.size
  clear hb hW5
  clear o_y0
  go_wp2_with fail
  go_ret
  exact ⟨rfl, hW6.out⟩

set_option maxHeartbeats 4000000 in
set_option maxRecDepth 100000 in
/-- the law's Go text returns true, and nothing that was there has turned -/
theorem walk {H : Type} {enc : TypeId × Value → H} (W : World) (base : Nat) (v0 : Value) (d0 : DataW H) (p0 : List MemPlace) (q0 : Value.okWide Try.prog W .any base 43 v0) (h0 : DataW.Trod enc Try.prog W 0 (fun _ => true) true 43 v0 d0 p0) (l0 : ∀ x ∈ p0, x.block < W.heap.size) (n1 : Int) (b1 : (Lit.int .i64 n1).wf = true) (hL : laidMetH Try.prog Rows.fnExactFindSlotRow.laid W) (hsh : W.ShapedOpen Try.prog) :
    Calls Try.prog 9 #[v0, .int .i64 n1] W fun e W' => e = .returned (.bool true) ∧ Below W.heap.size W W' := by
  obtain ⟨A0, n0, c0, xs0, rfl, hx0, hr0⟩ := open_slts q0 h0
  by_cases hy0 : 1048576 < n0
  · exact big0 W A0 n0 c0 xs0 hr0 hx0 n1  hy0
  exact walk0 W A0 n0 c0 xs0 hr0 hx0 n1 (by omega)
theorem laid_met (os : Os) : laidMetH Try.prog Rows.fnExactFindSlotRow.laid ((World.holding Try.prog os ⟨#[], #[], []⟩).forCall (fun _ _ => 0) ⟨#[], #[(.slice none 0 0 : Value), .int .i64 0], []⟩).memory := ⟨[], rfl, List.nodup_nil, fun _ _ h => by cases h⟩
theorem reads (os : Os) {H : Type} (enc : TypeId × Value → H) : (DataW.whole enc Try.prog ((World.holding Try.prog os ⟨#[], #[], []⟩).forCall (fun _ _ => 0) ⟨#[], #[(.slice none 0 0 : Value), .int .i64 0], []⟩).memory Try.f9.params.toList Rows.fnExactFindSlotSpec.vars false #[(.slice none 0 0 : Value), .int .i64 0].toList 8).isSome = true := by kernel_rfl
set_option maxRecDepth 100000 in
theorem lifted (os : Os) (started : os.Started) (H : Type) (enc : TypeId × Value → H) (F : Stop.Interp) :
    ReturnsInHanded {} Try.checked os 9 .any ((OpenSpec.ofChange Rows.fnExactFindSlotSpec).preRow enc Try.prog Try.f9 Rows.fnExactFindSlotRow.domain false Rows.fnExactFindSlotRow.laid) (((OpenSpec.ofChange Rows.fnExactFindSlotSpec).at F).post enc Try.prog Try.f9 false true false false) := by
  obtain ⟨x, hx⟩ := Option.isSome_iff_exists.1 (reads os enc)
  refine returnsInHanded_of_row (C := Try.checked) (s := OpenSpec.ofChange Rows.fnExactFindSlotSpec) own started (by kernel_rfl) Try.func9
    (witness_row_at (enc := enc) (C := Try.checked) false (World.holding Try.prog os ⟨#[], #[], []⟩) #[(.slice none 0 0 : Value), .int .i64 0] rfl (by kernel_rfl) (by kernel_rfl) (by kernel_rfl)
      (OpenSpec.preRow_of_cond 8 hx (by rfl) (fun k hk => by cases hk) (by kernel_rfl) (laid_met os))) ?_
  intro W base args ds gs before hval0 hW _ hcond hsz hL hsh _
  have hval : ∀ (j : Nat) t v, Try.f9.params[j]? = some t → args[j]? = some v → Value.okWide Try.prog W .any base t v := hval0
  have hW' := hW
  obtain ⟨p, q, hA0, hV, rfl, hfz, hnd⟩ := hW
  have hA : DataW.TrodAll enc Try.prog W 0 (fun _ => true) true Try.f9.params.toList args.toList ds p := hA0
  rw [Try.params9] at hA hval
  obtain ⟨v0, vs0, d0, ds0, p0, q0, hargs, rfl, rfl, h0, r0⟩ := trodAll_cons hA
  obtain ⟨v1, vs1, d1, ds1, p1, q1, rfl, rfl, rfl, h1, r1⟩ := trodAll_cons r0
  obtain ⟨rfl, rfl, rfl⟩ := trodAll_nil r1
  obtain rfl : args = #[v0, v1] := by cases args; simp_all
  obtain ⟨rfl, rfl⟩ := trodVars_none hV
  obtain ⟨n1, rfl, rfl, rfl, b1⟩ := open_int Try.underlying3 (hval 1 3 v1 rfl rfl) h1
  clear hA0 hval0
  simp only [List.append_nil] at hW'
  refine (walk (enc := enc) W base v0 d0 p0 (hval 0 43 v0 rfl rfl) h0 (fun x hx => hW'.lt x (by simp [hx])) n1 b1 hL hsh).mono fun e W' ⟨he, hb⟩ => ⟨_, he, Fr.post_true laidOut (by kernel_rfl) (by kernel_rfl) Try.underlying4 rfl hW' (fun xs hx => by match xs, hx with | [x0, x1], _ => rfl) hb⟩
theorem said : Rows.FnExactFindSlotSaid :=
  OpenClaim.holds_of_cond 9 Try.f9 rfl rfl rfl rfl rfl rfl rfl ⟨rfl, rfl, rfl, rfl, rfl⟩ rfl rfl rfl rfl rfl (by kernel_rfl) Try.func9 (by kernel_rfl)
    (of_decide_eq_true (by kernel_rfl)) (by unfold Func.isWrapper; first | (rw [if_pos (by decide +kernel)]; kernel_rfl) | (rw [if_neg (by decide +kernel)]; exact ⟨rfl, rfl⟩))
    (fun os started H enc _ F => by rw [OpenClaim.pre_eq_preRow]; exact lifted os started H enc F)
#print axioms said
end Go.Proofs.Ytadpjkghfgnbbaa.fnExactFindSlot
