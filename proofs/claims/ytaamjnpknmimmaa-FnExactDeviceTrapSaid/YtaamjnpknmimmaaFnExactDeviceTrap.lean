/- For every argument the law FnExactDeviceTrap returns true. -/
import Derived.Test.YtaamjnpknmimmaaRows
import Derived.Test.YtaamjnpknmimmaaFrame
import Derived.Test.YtaamjnpknmimmaaTrpE
import Derived.Test.YtaamjnpknmimmaaRow
import Derived.Test.YtaamjnpknmimmaaTrpN
import Derived.Test.YtaamjnpknmimmaaTrpO
import Derived.Deep.RegionHeld3
import Derived.Deep.Cut
import Derived.Deep.CutRange
namespace Go.Proofs.Ytaamjnpknmimmaa.fnExactDeviceTrap
open Go.ChangeShapes Go.WideShapes Go.ChangeAt Go.RowKit
open Go.ChangeMaps (open_string shut_string)
open Go Go.Proofs.Ytaamjnpknmimmaa.L5 Go.Proofs.Ytaamjnpknmimmaa.Mem Go.Proofs.Ytaamjnpknmimmaa.Own
set_option linter.unusedVariables false
theorem own : ownKnob Try.prog.godebug = none := by kernel_rfl
theorem laidOut : laidOutB Try.prog = true := by kernel_rfl
set_option maxRecDepth 100000 in
set_option maxHeartbeats 20000000 in
theorem walk0 (W : World) (n0 : Int) (n1 : Int) (n2 : Int) (b3 : Bool)  :
    Calls Try.prog 7 #[.int .i64 n0, .int .i64 n1, .int .i64 n2, .bool b3] W fun e W' => e = .returned (.bool true) ∧ Below W.heap.size W W' := by
  obtain ⟨r, hr_⟩ : ∃ r, okAns ⟨3, n1, b3, n2, n0⟩ = r := ⟨_, rfl⟩
  obtain ⟨⟨g0_0, g0_1, g0_2, g0_3, g0_4⟩, b⟩ := r
  have HB := Lib.hid hr_
  clear hr_
  have HS := Lib.hid fun w => specDevice_any n0 n1 n2 b3 g0_0 g0_1 g0_2 g0_3 g0_4 b w HB.out
  have HI := Lib.hid fun w => implDevice_any n0 n1 n2 b3 g0_0 g0_1 g0_2 g0_3 g0_4 b w HB.out
  have hW0 : Hid (Below W.heap.size W W) := Lib.hid (Below.refl _ _)
  go_enter Try.func7, Try.ntmps7
  go_wp2_with fail
  refine (HS.out  _ ).mono ?_
  rintro e u1 ⟨rfl, hb⟩
  have hW1 := Lib.hid (below_then hW0.out hb)
  have sz1 := Lib.hid hb.size
  clear hb hW0
  obtain ⟨v2, hv⟩ : ∃ v2, u1.alloc (.cells #[.int .i64 g0_0, .int .i64 g0_1, .bool g0_2, .int .i64 g0_3, .int .i64 g0_4] 25) = v2 := ⟨_, rfl⟩
  have hb : Below u1.heap.size u1 v2 := by rw [← hv]; exact below_more (Below.refl _ _) _
  have o_Lw0 : Hid (Blk v2 u1.heap.size 25 #[.int .i64 g0_0, .int .i64 g0_1, .bool g0_2, .int .i64 g0_3, .int .i64 g0_4]) := Lib.hid (by rw [← hv]; exact Blk.new _ _ _)
  have HV2 := Lib.hid hv
  clear hv
  have hW2 := Lib.hid (below_then hW1.out hb)
  have sz2 := Lib.hid o_Lw0.out.lt
  clear hb hW1
  go_wp2_with fail
  rw [HV2.out]
  clear HV2
  refine (HI.out  _ ).mono ?_
  rintro e u3 ⟨rfl, hb⟩
  have hW3 := Lib.hid (below_then hW2.out hb)
  replace o_Lw0 := Lib.hid (o_Lw0.out.below hb)
  have sz3 := Lib.hid hb.size
  clear hb hW2
  obtain ⟨v4, hv⟩ : ∃ v4, u3.alloc (.cells #[.int .i64 g0_0, .int .i64 g0_1, .bool g0_2, .int .i64 g0_3, .int .i64 g0_4] 25) = v4 := ⟨_, rfl⟩
  have hb : Below u3.heap.size u3 v4 := by rw [← hv]; exact below_more (Below.refl _ _) _
  have o_Lg0 : Hid (Blk v4 u3.heap.size 25 #[.int .i64 g0_0, .int .i64 g0_1, .bool g0_2, .int .i64 g0_3, .int .i64 g0_4]) := Lib.hid (by rw [← hv]; exact Blk.new _ _ _)
  have HV4 := Lib.hid hv
  clear hv
  have hW4 := Lib.hid (below_then hW3.out hb)
  replace o_Lw0 := Lib.hid (o_Lw0.out.below hb)
  have sz4 := Lib.hid o_Lg0.out.lt
  clear hb hW3
  have k_Lg0_0 : (u3.alloc (.cells #[.int .i64 g0_0, .int .i64 g0_1, .bool g0_2, .int .i64 g0_3, .int .i64 g0_4] 25)).cell? ⟨u3.heap.size, 0, none⟩ = some (.int .i64 g0_0) := by rw [HV4.out]; exact o_Lg0.out.cell 0 _ rfl
  have k_Lg0_1 : (u3.alloc (.cells #[.int .i64 g0_0, .int .i64 g0_1, .bool g0_2, .int .i64 g0_3, .int .i64 g0_4] 25)).cell? ⟨u3.heap.size, 1, none⟩ = some (.int .i64 g0_1) := by rw [HV4.out]; exact o_Lg0.out.cell 1 _ rfl
  have k_Lg0_2 : (u3.alloc (.cells #[.int .i64 g0_0, .int .i64 g0_1, .bool g0_2, .int .i64 g0_3, .int .i64 g0_4] 25)).cell? ⟨u3.heap.size, 2, none⟩ = some (.bool g0_2) := by rw [HV4.out]; exact o_Lg0.out.cell 2 _ rfl
  have k_Lg0_3 : (u3.alloc (.cells #[.int .i64 g0_0, .int .i64 g0_1, .bool g0_2, .int .i64 g0_3, .int .i64 g0_4] 25)).cell? ⟨u3.heap.size, 3, none⟩ = some (.int .i64 g0_3) := by rw [HV4.out]; exact o_Lg0.out.cell 3 _ rfl
  have k_Lg0_4 : (u3.alloc (.cells #[.int .i64 g0_0, .int .i64 g0_1, .bool g0_2, .int .i64 g0_3, .int .i64 g0_4] 25)).cell? ⟨u3.heap.size, 4, none⟩ = some (.int .i64 g0_4) := by rw [HV4.out]; exact o_Lg0.out.cell 4 _ rfl
  have k_Lw0_0 : (u3.alloc (.cells #[.int .i64 g0_0, .int .i64 g0_1, .bool g0_2, .int .i64 g0_3, .int .i64 g0_4] 25)).cell? ⟨u1.heap.size, 0, none⟩ = some (.int .i64 g0_0) := by rw [HV4.out]; exact o_Lw0.out.cell 0 _ rfl
  have k_Lw0_1 : (u3.alloc (.cells #[.int .i64 g0_0, .int .i64 g0_1, .bool g0_2, .int .i64 g0_3, .int .i64 g0_4] 25)).cell? ⟨u1.heap.size, 1, none⟩ = some (.int .i64 g0_1) := by rw [HV4.out]; exact o_Lw0.out.cell 1 _ rfl
  have k_Lw0_2 : (u3.alloc (.cells #[.int .i64 g0_0, .int .i64 g0_1, .bool g0_2, .int .i64 g0_3, .int .i64 g0_4] 25)).cell? ⟨u1.heap.size, 2, none⟩ = some (.bool g0_2) := by rw [HV4.out]; exact o_Lw0.out.cell 2 _ rfl
  have k_Lw0_3 : (u3.alloc (.cells #[.int .i64 g0_0, .int .i64 g0_1, .bool g0_2, .int .i64 g0_3, .int .i64 g0_4] 25)).cell? ⟨u1.heap.size, 3, none⟩ = some (.int .i64 g0_3) := by rw [HV4.out]; exact o_Lw0.out.cell 3 _ rfl
  have k_Lw0_4 : (u3.alloc (.cells #[.int .i64 g0_0, .int .i64 g0_1, .bool g0_2, .int .i64 g0_3, .int .i64 g0_4] 25)).cell? ⟨u1.heap.size, 4, none⟩ = some (.int .i64 g0_4) := by rw [HV4.out]; exact o_Lw0.out.cell 4 _ rfl
  go_wp2_with fail
  clear k_Lg0_0 k_Lg0_1 k_Lg0_2 k_Lg0_3 k_Lg0_4 k_Lw0_0 k_Lw0_1 k_Lw0_2 k_Lw0_3 k_Lw0_4
  rw [HV4.out]
  clear HV4
  refine (eqTrap_c g0_0 g0_1 g0_2 g0_3 g0_4 _).mono ?_
  rintro e u5 ⟨rfl, hb⟩
  have hW5 := Lib.hid (below_then hW4.out hb)
  replace o_Lw0 := Lib.hid (o_Lw0.out.below hb)
  replace o_Lg0 := Lib.hid (o_Lg0.out.below hb)
  have sz5 := Lib.hid hb.size
  clear hb hW4
  go_wp2_with fail
  go_ret
  exact ⟨rfl, hW5.out⟩

set_option maxHeartbeats 4000000 in
set_option maxRecDepth 100000 in
/-- the law's Go text returns true, and nothing that was there has turned -/
theorem walk {H : Type} {enc : TypeId × Value → H} (W : World) (base : Nat) (n0 : Int) (b0 : (Lit.int .i64 n0).wf = true) (n1 : Int) (b1 : (Lit.int .i64 n1).wf = true) (n2 : Int) (b2 : (Lit.int .i64 n2).wf = true) (b3 : Bool) (hL : laidMetH Try.prog Rows.fnExactDeviceTrapRow.laid W) (hsh : W.ShapedOpen Try.prog) :
    Calls Try.prog 7 #[.int .i64 n0, .int .i64 n1, .int .i64 n2, .bool b3] W fun e W' => e = .returned (.bool true) ∧ Below W.heap.size W W' := by
  exact walk0 W n0 n1 n2 b3 
theorem laid_met (os : Os) : laidMetH Try.prog Rows.fnExactDeviceTrapRow.laid ((World.holding Try.prog os ⟨#[], #[], []⟩).forCall (fun _ _ => 0) ⟨#[], #[(.int .i64 0 : Value), .int .i64 0, .int .i64 0, .bool false], []⟩).memory := ⟨[], rfl, List.nodup_nil, fun _ _ h => by cases h⟩
theorem reads (os : Os) {H : Type} (enc : TypeId × Value → H) : (DataW.whole enc Try.prog ((World.holding Try.prog os ⟨#[], #[], []⟩).forCall (fun _ _ => 0) ⟨#[], #[(.int .i64 0 : Value), .int .i64 0, .int .i64 0, .bool false], []⟩).memory Try.f7.params.toList Rows.fnExactDeviceTrapSpec.vars false #[(.int .i64 0 : Value), .int .i64 0, .int .i64 0, .bool false].toList 8).isSome = true := by kernel_rfl
set_option maxRecDepth 100000 in
theorem lifted (os : Os) (started : os.Started) (H : Type) (enc : TypeId × Value → H) (F : Stop.Interp) :
    ReturnsInHanded {} Try.checked os 7 .any ((OpenSpec.ofChange Rows.fnExactDeviceTrapSpec).preRow enc Try.prog Try.f7 Rows.fnExactDeviceTrapRow.domain false Rows.fnExactDeviceTrapRow.laid) (((OpenSpec.ofChange Rows.fnExactDeviceTrapSpec).at F).post enc Try.prog Try.f7 false true false false) := by
  obtain ⟨x, hx⟩ := Option.isSome_iff_exists.1 (reads os enc)
  refine returnsInHanded_of_row (C := Try.checked) (s := OpenSpec.ofChange Rows.fnExactDeviceTrapSpec) own started (by kernel_rfl) Try.func7
    (witness_row_at (enc := enc) (C := Try.checked) false (World.holding Try.prog os ⟨#[], #[], []⟩) #[(.int .i64 0 : Value), .int .i64 0, .int .i64 0, .bool false] rfl (by kernel_rfl) (by kernel_rfl) (by kernel_rfl)
      (OpenSpec.preRow_of_cond 8 hx (by rfl) (fun k hk => by cases hk) (by kernel_rfl) (laid_met os))) ?_
  intro W base args ds gs before hval0 hW _ hcond hsz hL hsh _
  have hval : ∀ (j : Nat) t v, Try.f7.params[j]? = some t → args[j]? = some v → Value.okWide Try.prog W .any base t v := hval0
  have hW' := hW
  obtain ⟨p, q, hA0, hV, rfl, hfz, hnd⟩ := hW
  have hA : DataW.TrodAll enc Try.prog W 0 (fun _ => true) true Try.f7.params.toList args.toList ds p := hA0
  rw [Try.params7] at hA hval
  obtain ⟨v0, vs0, d0, ds0, p0, q0, hargs, rfl, rfl, h0, r0⟩ := trodAll_cons hA
  obtain ⟨v1, vs1, d1, ds1, p1, q1, rfl, rfl, rfl, h1, r1⟩ := trodAll_cons r0
  obtain ⟨v2, vs2, d2, ds2, p2, q2, rfl, rfl, rfl, h2, r2⟩ := trodAll_cons r1
  obtain ⟨v3, vs3, d3, ds3, p3, q3, rfl, rfl, rfl, h3, r3⟩ := trodAll_cons r2
  obtain ⟨rfl, rfl, rfl⟩ := trodAll_nil r3
  obtain rfl : args = #[v0, v1, v2, v3] := by cases args; simp_all
  obtain ⟨rfl, rfl⟩ := trodVars_none hV
  obtain ⟨n0, rfl, rfl, rfl, b0⟩ := open_int Try.underlying3 (hval 0 3 v0 rfl rfl) h0
  obtain ⟨n1, rfl, rfl, rfl, b1⟩ := open_int Try.underlying3 (hval 1 3 v1 rfl rfl) h1
  obtain ⟨n2, rfl, rfl, rfl, b2⟩ := open_int Try.underlying3 (hval 2 3 v2 rfl rfl) h2
  obtain ⟨b3, rfl, rfl, rfl⟩ := open_bool Try.underlying4 (hval 3 4 v3 rfl rfl) h3
  clear hA0 hval0
  simp only [List.append_nil] at hW'
  refine (walk (enc := enc) W base n0 b0 n1 b1 n2 b2 b3 hL hsh).mono fun e W' ⟨he, hb⟩ => ⟨_, he, Fr.post_true laidOut (by kernel_rfl) (by kernel_rfl) Try.underlying4 rfl hW' (fun xs hx => by match xs, hx with | [x0, x1, x2, x3], _ => rfl) hb⟩
theorem said : Rows.FnExactDeviceTrapSaid :=
  OpenClaim.holds_of_cond 7 Try.f7 rfl rfl rfl rfl rfl rfl rfl ⟨rfl, rfl, rfl, rfl, rfl⟩ rfl rfl rfl rfl rfl (by kernel_rfl) Try.func7 (by kernel_rfl)
    (of_decide_eq_true (by kernel_rfl)) (by unfold Func.isWrapper; first | (rw [if_pos (by decide +kernel)]; kernel_rfl) | (rw [if_neg (by decide +kernel)]; exact ⟨rfl, rfl⟩))
    (fun os started H enc _ F => by rw [OpenClaim.pre_eq_preRow]; exact lifted os started H enc F)
#print axioms said
end Go.Proofs.Ytaamjnpknmimmaa.fnExactDeviceTrap
