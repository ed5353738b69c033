/- For every argument the law FnExactTakeLine returns true. -/
import Derived.Test.YtfdbnolifimnhaaRows
import Derived.Test.YtfdbnolifimnhaaFrame
import Derived.Test.YtfdbnolifimnhaaLinE
import Derived.Test.YtfdbnolifimnhaaRow
import Derived.Test.YtfdbnolifimnhaaLnI
import Derived.Test.YtfdbnolifimnhaaLnS
import Derived.Test.YtfdbnolifimnhaaLinO
import Derived.Deep.RegionHeld3
import Derived.Deep.Cut
import Derived.Deep.CutRange
namespace Go.Proofs.Ytfdbnolifimnhaa.fnExactTakeLine
open Go.ChangeShapes Go.WideShapes Go.ChangeAt Go.RowKit
open Go.ChangeMaps (open_string shut_string)
open Go Go.Proofs.Ytfdbnolifimnhaa.L7 Go.Proofs.Ytfdbnolifimnhaa.Mem Go.Proofs.Ytfdbnolifimnhaa.Own
set_option linter.unusedVariables false
theorem own : ownKnob Try.prog.godebug = none := by kernel_rfl
theorem laidOut : laidOutB Try.prog = true := by kernel_rfl
set_option maxRecDepth 100000 in
set_option maxHeartbeats 20000000 in
theorem walk0 (W : World) (f0_0 : Int) (f0_1 : Int) (f0_2 : Bool) (f0_3 : Bool)  :
    Calls Try.prog 10 #[.agg #[.int .i64 f0_0, .int .i64 f0_1, .bool f0_2, .bool f0_3]] W fun e W' => e = .returned (.bool true) ∧ Below W.heap.size W W' := by
  obtain ⟨r, hr_⟩ : ∃ r, tkAns ⟨f0_0, f0_1, f0_2, f0_3⟩ = r := ⟨_, rfl⟩
  obtain ⟨⟨g0_0, g0_1, g0_2, g0_3⟩, q, b⟩ := r
  have HB := Lib.hid hr_
  clear hr_
  have HS := Lib.hid fun w => specTake_any f0_0 f0_1 f0_2 f0_3 g0_0 g0_1 g0_2 g0_3 q b w HB.out
  have HI := Lib.hid fun w => implTake_any f0_0 f0_1 f0_2 f0_3 g0_0 g0_1 g0_2 g0_3 q b w HB.out
  have hW0 : Hid (Below W.heap.size W W) := Lib.hid (Below.refl _ _)
  go_enter Try.func10, Try.ntmps10
  obtain ⟨v1, hv⟩ : ∃ v1, W.alloc (.cells #[.int .i64 f0_0, .int .i64 f0_1, .bool f0_2, .bool f0_3] 84) = v1 := ⟨_, rfl⟩
  have hb : Below W.heap.size W v1 := by rw [← hv]; exact below_more (Below.refl _ _) _
  have o_a0 : Hid (Blk v1 W.heap.size 84 #[.int .i64 f0_0, .int .i64 f0_1, .bool f0_2, .bool f0_3]) := Lib.hid (by rw [← hv]; exact Blk.new _ _ _)
  have HV1 := Lib.hid hv
  clear hv
  have hW1 := Lib.hid (below_then hW0.out hb)
  have sz1 := Lib.hid o_a0.out.lt
  clear hb hW0
  have k_a0_0 : (W.alloc (.cells #[.int .i64 f0_0, .int .i64 f0_1, .bool f0_2, .bool f0_3] 84)).cell? ⟨W.heap.size, 0, none⟩ = some (.int .i64 f0_0) := by rw [HV1.out]; exact o_a0.out.cell 0 _ rfl
  have k_a0_1 : (W.alloc (.cells #[.int .i64 f0_0, .int .i64 f0_1, .bool f0_2, .bool f0_3] 84)).cell? ⟨W.heap.size, 1, none⟩ = some (.int .i64 f0_1) := by rw [HV1.out]; exact o_a0.out.cell 1 _ rfl
  have k_a0_2 : (W.alloc (.cells #[.int .i64 f0_0, .int .i64 f0_1, .bool f0_2, .bool f0_3] 84)).cell? ⟨W.heap.size, 2, none⟩ = some (.bool f0_2) := by rw [HV1.out]; exact o_a0.out.cell 2 _ rfl
  have k_a0_3 : (W.alloc (.cells #[.int .i64 f0_0, .int .i64 f0_1, .bool f0_2, .bool f0_3] 84)).cell? ⟨W.heap.size, 3, none⟩ = some (.bool f0_3) := by rw [HV1.out]; exact o_a0.out.cell 3 _ rfl
  go_wp2_with fail
  clear k_a0_0 k_a0_1 k_a0_2 k_a0_3
  rw [HV1.out]
  clear HV1
  refine (toLine_c f0_0 f0_1 f0_2 f0_3 _).mono ?_
  rintro e u2 ⟨rfl, hb⟩
  have hW2 := Lib.hid (below_then hW1.out hb)
  replace o_a0 := Lib.hid (o_a0.out.below hb)
  have sz2 := Lib.hid hb.size
  clear hb hW1
  go_wp2_with fail
  refine (HS.out  _ ).mono ?_
  rintro e u3 ⟨rfl, hb⟩
  have hW3 := Lib.hid (below_then hW2.out hb)
  replace o_a0 := Lib.hid (o_a0.out.below hb)
  have sz3 := Lib.hid hb.size
  clear hb hW2
  obtain ⟨v4, hv⟩ : ∃ v4, u3.alloc (.cells #[.int .i64 g0_0, .int .i64 g0_1, .bool g0_2, .bool g0_3] 58) = v4 := ⟨_, rfl⟩
  have hb : Below u3.heap.size u3 v4 := by rw [← hv]; exact below_more (Below.refl _ _) _
  have o_Lw0 : Hid (Blk v4 u3.heap.size 58 #[.int .i64 g0_0, .int .i64 g0_1, .bool g0_2, .bool g0_3]) := Lib.hid (by rw [← hv]; exact Blk.new _ _ _)
  have HV4 := Lib.hid hv
  clear hv
  have hW4 := Lib.hid (below_then hW3.out hb)
  replace o_a0 := Lib.hid (o_a0.out.below hb)
  have sz4 := Lib.hid o_Lw0.out.lt
  clear hb hW3
  have k_a0_0 : (u3.alloc (.cells #[.int .i64 g0_0, .int .i64 g0_1, .bool g0_2, .bool g0_3] 58)).cell? ⟨W.heap.size, 0, none⟩ = some (.int .i64 f0_0) := by rw [HV4.out]; exact o_a0.out.cell 0 _ rfl
  have k_a0_1 : (u3.alloc (.cells #[.int .i64 g0_0, .int .i64 g0_1, .bool g0_2, .bool g0_3] 58)).cell? ⟨W.heap.size, 1, none⟩ = some (.int .i64 f0_1) := by rw [HV4.out]; exact o_a0.out.cell 1 _ rfl
  have k_a0_2 : (u3.alloc (.cells #[.int .i64 g0_0, .int .i64 g0_1, .bool g0_2, .bool g0_3] 58)).cell? ⟨W.heap.size, 2, none⟩ = some (.bool f0_2) := by rw [HV4.out]; exact o_a0.out.cell 2 _ rfl
  have k_a0_3 : (u3.alloc (.cells #[.int .i64 g0_0, .int .i64 g0_1, .bool g0_2, .bool g0_3] 58)).cell? ⟨W.heap.size, 3, none⟩ = some (.bool f0_3) := by rw [HV4.out]; exact o_a0.out.cell 3 _ rfl
  go_wp2_with fail
  clear k_a0_0 k_a0_1 k_a0_2 k_a0_3
  rw [HV4.out]
  clear HV4
  refine (toLine_c f0_0 f0_1 f0_2 f0_3 _).mono ?_
  rintro e u5 ⟨rfl, hb⟩
  have hW5 := Lib.hid (below_then hW4.out hb)
  replace o_a0 := Lib.hid (o_a0.out.below hb)
  replace o_Lw0 := Lib.hid (o_Lw0.out.below hb)
  have sz5 := Lib.hid hb.size
  clear hb hW4
  go_wp2_with fail
  refine (HI.out  _ ).mono ?_
  rintro e u6 ⟨rfl, hb⟩
  have hW6 := Lib.hid (below_then hW5.out hb)
  replace o_a0 := Lib.hid (o_a0.out.below hb)
  replace o_Lw0 := Lib.hid (o_Lw0.out.below hb)
  have sz6 := Lib.hid hb.size
  clear hb hW5
  obtain ⟨v7, hv⟩ : ∃ v7, u6.alloc (.cells #[.int .i64 g0_0, .int .i64 g0_1, .bool g0_2, .bool g0_3] 58) = v7 := ⟨_, rfl⟩
  have hb : Below u6.heap.size u6 v7 := by rw [← hv]; exact below_more (Below.refl _ _) _
  have o_Lg0 : Hid (Blk v7 u6.heap.size 58 #[.int .i64 g0_0, .int .i64 g0_1, .bool g0_2, .bool g0_3]) := Lib.hid (by rw [← hv]; exact Blk.new _ _ _)
  have HV7 := Lib.hid hv
  clear hv
  have hW7 := Lib.hid (below_then hW6.out hb)
  replace o_a0 := Lib.hid (o_a0.out.below hb)
  replace o_Lw0 := Lib.hid (o_Lw0.out.below hb)
  have sz7 := Lib.hid o_Lg0.out.lt
  clear hb hW6
  have k_Lg0_0 : (u6.alloc (.cells #[.int .i64 g0_0, .int .i64 g0_1, .bool g0_2, .bool g0_3] 58)).cell? ⟨u6.heap.size, 0, none⟩ = some (.int .i64 g0_0) := by rw [HV7.out]; exact o_Lg0.out.cell 0 _ rfl
  have k_Lg0_1 : (u6.alloc (.cells #[.int .i64 g0_0, .int .i64 g0_1, .bool g0_2, .bool g0_3] 58)).cell? ⟨u6.heap.size, 1, none⟩ = some (.int .i64 g0_1) := by rw [HV7.out]; exact o_Lg0.out.cell 1 _ rfl
  have k_Lg0_2 : (u6.alloc (.cells #[.int .i64 g0_0, .int .i64 g0_1, .bool g0_2, .bool g0_3] 58)).cell? ⟨u6.heap.size, 2, none⟩ = some (.bool g0_2) := by rw [HV7.out]; exact o_Lg0.out.cell 2 _ rfl
  have k_Lg0_3 : (u6.alloc (.cells #[.int .i64 g0_0, .int .i64 g0_1, .bool g0_2, .bool g0_3] 58)).cell? ⟨u6.heap.size, 3, none⟩ = some (.bool g0_3) := by rw [HV7.out]; exact o_Lg0.out.cell 3 _ rfl
  have k_Lw0_0 : (u6.alloc (.cells #[.int .i64 g0_0, .int .i64 g0_1, .bool g0_2, .bool g0_3] 58)).cell? ⟨u3.heap.size, 0, none⟩ = some (.int .i64 g0_0) := by rw [HV7.out]; exact o_Lw0.out.cell 0 _ rfl
  have k_Lw0_1 : (u6.alloc (.cells #[.int .i64 g0_0, .int .i64 g0_1, .bool g0_2, .bool g0_3] 58)).cell? ⟨u3.heap.size, 1, none⟩ = some (.int .i64 g0_1) := by rw [HV7.out]; exact o_Lw0.out.cell 1 _ rfl
  have k_Lw0_2 : (u6.alloc (.cells #[.int .i64 g0_0, .int .i64 g0_1, .bool g0_2, .bool g0_3] 58)).cell? ⟨u3.heap.size, 2, none⟩ = some (.bool g0_2) := by rw [HV7.out]; exact o_Lw0.out.cell 2 _ rfl
  have k_Lw0_3 : (u6.alloc (.cells #[.int .i64 g0_0, .int .i64 g0_1, .bool g0_2, .bool g0_3] 58)).cell? ⟨u3.heap.size, 3, none⟩ = some (.bool g0_3) := by rw [HV7.out]; exact o_Lw0.out.cell 3 _ rfl
  go_wp2_with fail
  clear k_Lg0_0 k_Lg0_1 k_Lg0_2 k_Lg0_3 k_Lw0_0 k_Lw0_1 k_Lw0_2 k_Lw0_3
  rw [HV7.out]
  clear HV7
  refine (eqLine_c g0_0 g0_1 g0_2 g0_3 _).mono ?_
  rintro e u8 ⟨rfl, hb⟩
  have hW8 := Lib.hid (below_then hW7.out hb)
  replace o_a0 := Lib.hid (o_a0.out.below hb)
  replace o_Lw0 := Lib.hid (o_Lw0.out.below hb)
  replace o_Lg0 := Lib.hid (o_Lg0.out.below hb)
  have sz8 := Lib.hid hb.size
  clear hb hW7
  go_wp2_with fail
  go_ret
  exact ⟨rfl, hW8.out⟩

set_option maxHeartbeats 4000000 in
set_option maxRecDepth 100000 in
/-- the law's Go text returns true, and nothing that was there has turned -/
theorem walk {H : Type} {enc : TypeId × Value → H} (W : World) (base : Nat) (v0 : Value) (d0 : DataW H) (p0 : List MemPlace) (q0 : Value.okWide Try.prog W .any base 84 v0) (h0 : DataW.Trod enc Try.prog W 0 (fun _ => true) true 84 v0 d0 p0) (l0 : ∀ x ∈ p0, x.block < W.heap.size) (hL : laidMetH Try.prog Rows.fnExactTakeLineRow.laid W) (hsh : W.ShapedOpen Try.prog) :
    Calls Try.prog 10 #[v0] W fun e W' => e = .returned (.bool true) ∧ Below W.heap.size W W' := by
  obtain ⟨x0, rfl⟩ := open_lin q0 h0
  obtain ⟨f0_0, f0_1, f0_2, f0_3⟩ := x0
  exact walk0 W f0_0 f0_1 f0_2 f0_3 
theorem laid_met (os : Os) : laidMetH Try.prog Rows.fnExactTakeLineRow.laid ((World.holding Try.prog os ⟨#[], #[], []⟩).forCall (fun _ _ => 0) ⟨#[], #[(.agg #[.int .i64 0, .int .i64 0, .bool false, .bool false] : Value)], []⟩).memory := ⟨[], rfl, List.nodup_nil, fun _ _ h => by cases h⟩
theorem reads (os : Os) {H : Type} (enc : TypeId × Value → H) : (DataW.whole enc Try.prog ((World.holding Try.prog os ⟨#[], #[], []⟩).forCall (fun _ _ => 0) ⟨#[], #[(.agg #[.int .i64 0, .int .i64 0, .bool false, .bool false] : Value)], []⟩).memory Try.f10.params.toList Rows.fnExactTakeLineSpec.vars false #[(.agg #[.int .i64 0, .int .i64 0, .bool false, .bool false] : Value)].toList 8).isSome = true := by kernel_rfl
set_option maxRecDepth 100000 in
theorem lifted (os : Os) (started : os.Started) (H : Type) (enc : TypeId × Value → H) (F : Stop.Interp) :
    ReturnsInHanded {} Try.checked os 10 .any ((OpenSpec.ofChange Rows.fnExactTakeLineSpec).preRow enc Try.prog Try.f10 Rows.fnExactTakeLineRow.domain false Rows.fnExactTakeLineRow.laid) (((OpenSpec.ofChange Rows.fnExactTakeLineSpec).at F).post enc Try.prog Try.f10 false true false false) := by
  obtain ⟨x, hx⟩ := Option.isSome_iff_exists.1 (reads os enc)
  refine returnsInHanded_of_row (C := Try.checked) (s := OpenSpec.ofChange Rows.fnExactTakeLineSpec) own started (by kernel_rfl) Try.func10
    (witness_row_at (enc := enc) (C := Try.checked) false (World.holding Try.prog os ⟨#[], #[], []⟩) #[(.agg #[.int .i64 0, .int .i64 0, .bool false, .bool false] : Value)] rfl (by kernel_rfl) (by kernel_rfl) (by kernel_rfl)
      (OpenSpec.preRow_of_cond 8 hx (by rfl) (fun k hk => by cases hk) (by kernel_rfl) (laid_met os))) ?_
  intro W base args ds gs before hval0 hW _ hcond hsz hL hsh _
  have hval : ∀ (j : Nat) t v, Try.f10.params[j]? = some t → args[j]? = some v → Value.okWide Try.prog W .any base t v := hval0
  have hW' := hW
  obtain ⟨p, q, hA0, hV, rfl, hfz, hnd⟩ := hW
  have hA : DataW.TrodAll enc Try.prog W 0 (fun _ => true) true Try.f10.params.toList args.toList ds p := hA0
  rw [Try.params10] at hA hval
  obtain ⟨v0, vs0, d0, ds0, p0, q0, hargs, rfl, rfl, h0, r0⟩ := trodAll_cons hA
  obtain ⟨rfl, rfl, rfl⟩ := trodAll_nil r0
  obtain rfl : args = #[v0] := by cases args; simp_all
  obtain ⟨rfl, rfl⟩ := trodVars_none hV
  clear hA0 hval0
  simp only [List.append_nil] at hW'
  refine (walk (enc := enc) W base v0 d0 p0 (hval 0 84 v0 rfl rfl) h0 (fun x hx => hW'.lt x (by simp [hx])) hL hsh).mono fun e W' ⟨he, hb⟩ => ⟨_, he, Fr.post_true laidOut (by kernel_rfl) (by kernel_rfl) Try.underlying4 rfl hW' (fun xs hx => by match xs, hx with | [x0], _ => rfl) hb⟩
theorem said : Rows.FnExactTakeLineSaid :=
  OpenClaim.holds_of_cond 10 Try.f10 rfl rfl rfl rfl rfl rfl rfl ⟨rfl, rfl, rfl, rfl, rfl⟩ rfl rfl rfl rfl rfl (by kernel_rfl) Try.func10 (by kernel_rfl)
    (of_decide_eq_true (by kernel_rfl)) (by unfold Func.isWrapper; first | (rw [if_pos (by decide +kernel)]; kernel_rfl) | (rw [if_neg (by decide +kernel)]; exact ⟨rfl, rfl⟩))
    (fun os started H enc _ F => by rw [OpenClaim.pre_eq_preRow]; exact lifted os started H enc F)
#print axioms said
end Go.Proofs.Ytfdbnolifimnhaa.fnExactTakeLine
