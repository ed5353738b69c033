/- For every argument the law FnExactTrapName returns true; the listed variables read as the program's text lays them (the card ties them). -/
import Derived.Test.YtaamjnpknmimmaaDoorCards
import Derived.Test.YtaamjnpknmimmaaDoorTie
import Derived.Test.YtaamjnpknmimmaaDoorFrame
import Derived.Test.YtaamjnpknmimmaaDoorTrpT
import Derived.Test.YtaamjnpknmimmaaDoorTrpO
import Derived.Test.YtaamjnpknmimmaaDoorRow
import Derived.Deep.RegionHeld3
import Derived.Deep.Cut
import Derived.Deep.CutRange
namespace Go.Proofs.YtaamjnpknmimmaaDoor.fnExactTrapName
open Go.ChangeShapes Go.WideShapes Go.ChangeAt Go.RowKit
open Go.ChangeMaps (open_string shut_string)
open Go Go.Proofs.YtaamjnpknmimmaaDoor.L5 Go.Proofs.YtaamjnpknmimmaaDoor.Mem Go.Proofs.YtaamjnpknmimmaaDoor.Own
set_option linter.unusedVariables false
theorem own : ownKnob Tryd.prog.godebug = none := by kernel_rfl
theorem laidOut : laidOutB Tryd.prog = true := by kernel_rfl
theorem tab {W : World} (h : laidMetH Tryd.prog Rows.fnExactTrapNameRow.laid W) : NamesIs W := namesIs_of_mem h (.head _)
set_option maxRecDepth 100000 in
set_option maxHeartbeats 20000000 in
theorem walk0 (W : World) (f0_0 : Int) (f0_1 : Int) (f0_2 : Bool) (f0_3 : Int) (f0_4 : Int)  (ho : NamesIs W) :
    Calls Tryd.prog 3 #[.agg #[.int .i64 f0_0, .int .i64 f0_1, .bool f0_2, .int .i64 f0_3, .int .i64 f0_4]] W fun e W' => e = .returned (.bool true) ∧ Below W.heap.size W W' := by
  have HO := Lib.hid ho
  clear ho
  obtain ⟨r, hr_⟩ : ∃ r, nameAns ⟨f0_0, f0_1, f0_2, f0_3, f0_4⟩ = r := ⟨_, rfl⟩
  obtain ⟨n, b⟩ := r
  have HB := Lib.hid hr_
  clear hr_
  have HS := Lib.hid fun w => specName_any f0_0 f0_1 f0_2 f0_3 f0_4 n b w HB.out
  have HI := Lib.hid fun w (hN : NamesIs w) => implName_any f0_0 f0_1 f0_2 f0_3 f0_4 n b w hN HB.out
  have hW0 : Hid (Below W.heap.size W W) := Lib.hid (Below.refl _ _)
  go_enter Tryd.func3, Tryd.ntmps3
  obtain ⟨v1, hv⟩ : ∃ v1, W.alloc (.cells #[.int .i64 f0_0, .int .i64 f0_1, .bool f0_2, .int .i64 f0_3, .int .i64 f0_4] 23) = v1 := ⟨_, rfl⟩
  have hb : Below W.heap.size W v1 := by rw [← hv]; exact below_more (Below.refl _ _) _
  have o_a0 : Hid (Blk v1 W.heap.size 23 #[.int .i64 f0_0, .int .i64 f0_1, .bool f0_2, .int .i64 f0_3, .int .i64 f0_4]) := Lib.hid (by rw [← hv]; exact Blk.new _ _ _)
  have HV1 := Lib.hid hv
  clear hv
  have hW1 := Lib.hid (below_then hW0.out hb)
  have sz1 := Lib.hid o_a0.out.lt
  clear hb hW0
  have k_a0_0 : (W.alloc (.cells #[.int .i64 f0_0, .int .i64 f0_1, .bool f0_2, .int .i64 f0_3, .int .i64 f0_4] 23)).cell? ⟨W.heap.size, 0, none⟩ = some (.int .i64 f0_0) := by rw [HV1.out]; exact o_a0.out.cell 0 _ rfl
  have k_a0_1 : (W.alloc (.cells #[.int .i64 f0_0, .int .i64 f0_1, .bool f0_2, .int .i64 f0_3, .int .i64 f0_4] 23)).cell? ⟨W.heap.size, 1, none⟩ = some (.int .i64 f0_1) := by rw [HV1.out]; exact o_a0.out.cell 1 _ rfl
  have k_a0_2 : (W.alloc (.cells #[.int .i64 f0_0, .int .i64 f0_1, .bool f0_2, .int .i64 f0_3, .int .i64 f0_4] 23)).cell? ⟨W.heap.size, 2, none⟩ = some (.bool f0_2) := by rw [HV1.out]; exact o_a0.out.cell 2 _ rfl
  have k_a0_3 : (W.alloc (.cells #[.int .i64 f0_0, .int .i64 f0_1, .bool f0_2, .int .i64 f0_3, .int .i64 f0_4] 23)).cell? ⟨W.heap.size, 3, none⟩ = some (.int .i64 f0_3) := by rw [HV1.out]; exact o_a0.out.cell 3 _ rfl
  have k_a0_4 : (W.alloc (.cells #[.int .i64 f0_0, .int .i64 f0_1, .bool f0_2, .int .i64 f0_3, .int .i64 f0_4] 23)).cell? ⟨W.heap.size, 4, none⟩ = some (.int .i64 f0_4) := by rw [HV1.out]; exact o_a0.out.cell 4 _ rfl
  go_wp2_with fail
  clear k_a0_0 k_a0_1 k_a0_2 k_a0_3 k_a0_4
  rw [HV1.out]
  clear HV1
  refine (toTrap_c f0_0 f0_1 f0_2 f0_3 f0_4 _).mono ?_
  rintro e u2 ⟨rfl, hb⟩
  have hW2 := Lib.hid (below_then hW1.out hb)
  replace o_a0 := Lib.hid (o_a0.out.below hb)
  have sz2 := Lib.hid hb.size
  clear hb hW1
  go_wp2_with fail
  refine (HS.out  _ ).mono ?_
  rintro e u3 ⟨rfl, hb⟩
  have hW3 := Lib.hid (below_then hW2.out hb)
  replace o_a0 := Lib.hid (o_a0.out.below hb)
  have sz3 := Lib.hid hb.size
  clear hb hW2
  have k_a0_0 : u3.cell? ⟨W.heap.size, 0, none⟩ = some (.int .i64 f0_0) := o_a0.out.cell 0 _ rfl
  have k_a0_1 : u3.cell? ⟨W.heap.size, 1, none⟩ = some (.int .i64 f0_1) := o_a0.out.cell 1 _ rfl
  have k_a0_2 : u3.cell? ⟨W.heap.size, 2, none⟩ = some (.bool f0_2) := o_a0.out.cell 2 _ rfl
  have k_a0_3 : u3.cell? ⟨W.heap.size, 3, none⟩ = some (.int .i64 f0_3) := o_a0.out.cell 3 _ rfl
  have k_a0_4 : u3.cell? ⟨W.heap.size, 4, none⟩ = some (.int .i64 f0_4) := o_a0.out.cell 4 _ rfl
  go_wp2_with fail
  clear k_a0_0 k_a0_1 k_a0_2 k_a0_3 k_a0_4
  refine (toTrap_c f0_0 f0_1 f0_2 f0_3 f0_4 _).mono ?_
  rintro e u4 ⟨rfl, hb⟩
  have hW4 := Lib.hid (below_then hW3.out hb)
  replace o_a0 := Lib.hid (o_a0.out.below hb)
  have sz4 := Lib.hid hb.size
  clear hb hW3
  go_wp2_with fail
  refine (HI.out  _  (names_below hW4.out HO.out)).mono ?_
  rintro e u5 ⟨rfl, hb⟩
  have hW5 := Lib.hid (below_then hW4.out hb)
  replace o_a0 := Lib.hid (o_a0.out.below hb)
  have sz5 := Lib.hid hb.size
  clear hb hW4
  go_wp2_with fail
  go_ret
  exact ⟨rfl, hW5.out⟩

set_option maxHeartbeats 4000000 in
set_option maxRecDepth 100000 in
/-- the law's Go text returns true, and nothing that was there has turned -/
theorem walk {H : Type} {enc : TypeId × Value → H} (W : World) (base : Nat) (v0 : Value) (d0 : DataW H) (p0 : List MemPlace) (q0 : Value.okWide Tryd.prog W .any base 23 v0) (h0 : DataW.Trod enc Tryd.prog W 0 (fun _ => true) true 23 v0 d0 p0) (l0 : ∀ x ∈ p0, x.block < W.heap.size) (hL : laidMetH Tryd.prog Rows.fnExactTrapNameRow.laid W) (hsh : W.ShapedOpen Tryd.prog) :
    Calls Tryd.prog 3 #[v0] W fun e W' => e = .returned (.bool true) ∧ Below W.heap.size W W' := by
  obtain ⟨x0, rfl⟩ := open_trp q0 h0
  obtain ⟨f0_0, f0_1, f0_2, f0_3, f0_4⟩ := x0
  exact walk0 W f0_0 f0_1 f0_2 f0_3 f0_4  (tab hL)
noncomputable def laidWorld (os : Os) : World := { World.holding Tryd.prog os ⟨#[], #[], []⟩ with heap := ((World.holding Tryd.prog os ⟨#[], #[], []⟩).heap).modify 0 (Fr.lay #[.string ⟨#[]⟩, .string ⟨#[102, 97, 117, 108, 116]⟩, .string ⟨#[99, 97, 108, 108]⟩, .string ⟨#[100, 101, 118, 105, 99, 101]⟩, .string ⟨#[119, 97, 105, 116]⟩, .string ⟨#[98, 97, 100]⟩]) }
theorem laid_met (os : Os) : laidMetH Tryd.prog Rows.fnExactTrapNameRow.laid ((laidWorld os).forCall (fun _ _ => 0) ⟨#[], #[(.agg #[.int .i64 0, .int .i64 0, .bool false, .int .i64 0, .int .i64 0] : Value)], []⟩).memory := laidMet_of_run' 8 (by kernel_rfl) (by kernel_rfl)
theorem reads (os : Os) {H : Type} (enc : TypeId × Value → H) : (DataW.whole enc Tryd.prog ((laidWorld os).forCall (fun _ _ => 0) ⟨#[], #[(.agg #[.int .i64 0, .int .i64 0, .bool false, .int .i64 0, .int .i64 0] : Value)], []⟩).memory Tryd.f3.params.toList Rows.fnExactTrapNameSpec.vars false #[(.agg #[.int .i64 0, .int .i64 0, .bool false, .int .i64 0, .int .i64 0] : Value)].toList 8).isSome = true := by kernel_rfl
set_option maxRecDepth 100000 in
theorem lifted (os : Os) (started : os.Started) (H : Type) (enc : TypeId × Value → H) (F : Stop.Interp) :
    ReturnsInHanded {} Tryd.checked os 3 .any ((OpenSpec.ofChange Rows.fnExactTrapNameSpec).preRow enc Tryd.prog Tryd.f3 Rows.fnExactTrapNameRow.domain false Rows.fnExactTrapNameRow.laid) (((OpenSpec.ofChange Rows.fnExactTrapNameSpec).at F).post enc Tryd.prog Tryd.f3 false true false false) := by
  obtain ⟨x, hx⟩ := Option.isSome_iff_exists.1 (reads os enc)
  refine returnsInHanded_of_row (C := Tryd.checked) (s := OpenSpec.ofChange Rows.fnExactTrapNameSpec) own started (by kernel_rfl) Tryd.func3
    (witness_row_at (enc := enc) (C := Tryd.checked) false (laidWorld os) #[(.agg #[.int .i64 0, .int .i64 0, .bool false, .int .i64 0, .int .i64 0] : Value)] rfl (by kernel_rfl) (by kernel_rfl) (by kernel_rfl)
      (OpenSpec.preRow_of_cond 8 hx (by rfl) (fun k hk => by cases hk) (by kernel_rfl) (laid_met os))) ?_
  intro W base args ds gs before hval0 hW _ hcond hsz hL hsh _
  have hval : ∀ (j : Nat) t v, Tryd.f3.params[j]? = some t → args[j]? = some v → Value.okWide Tryd.prog W .any base t v := hval0
  have hW' := hW
  obtain ⟨p, q, hA0, hV, rfl, hfz, hnd⟩ := hW
  have hA : DataW.TrodAll enc Tryd.prog W 0 (fun _ => true) true Tryd.f3.params.toList args.toList ds p := hA0
  rw [Tryd.params3] at hA hval
  obtain ⟨v0, vs0, d0, ds0, p0, q0, hargs, rfl, rfl, h0, r0⟩ := trodAll_cons hA
  obtain ⟨rfl, rfl, rfl⟩ := trodAll_nil r0
  obtain rfl : args = #[v0] := by cases args; simp_all
  clear hA0 hval0
  try simp only [List.append_nil] at hW'
  refine (walk (enc := enc) W base v0 d0 p0 (hval 0 23 v0 rfl rfl) h0 (fun x hx => hW'.lt x (by simp [hx])) hL hsh).mono fun e W' ⟨he, hb⟩ => ⟨_, he, Fr.post_true_v laidOut (by kernel_rfl) (by kernel_rfl) Tryd.underlying4 (by kernel_rfl) hW' (fun xs ys hx hy => by match xs, ys, hx, hy with | [x0], [y0], _, _ => rfl) hb⟩
theorem said : Rows.FnExactTrapNameSaid :=
  OpenClaim.holds_of_cond 3 Tryd.f3 rfl rfl rfl rfl rfl rfl rfl ⟨rfl, rfl, rfl, rfl, rfl⟩ rfl rfl rfl rfl rfl (by kernel_rfl) Tryd.func3 (by kernel_rfl)
    (of_decide_eq_true (by kernel_rfl)) (by unfold Func.isWrapper; first | (rw [if_pos (by decide +kernel)]; kernel_rfl) | (rw [if_neg (by decide +kernel)]; exact ⟨rfl, rfl⟩))
    (fun os started H enc _ F => by rw [OpenClaim.pre_eq_preRow]; exact lifted os started H enc F)
theorem plain (f : FuncId) (fn : Func) (hf : Tryd.pinned.checked.prog.funcNamed "loop.example/g00843/laws.FnExactTrapName" = some f) (hfn : Tryd.pinned.checked.prog.funcs[f]? = some fn) :
    false = Tryd.pinned.checked.prog.looks [] ∧ ∀ (j : Nat) t, fn.params[j]? = some t → Tryd.pinned.checked.prog.wantsStandIn t = false := by
  obtain rfl : f = 3 := Option.some.inj ((show Tryd.prog.funcNamed "loop.example/g00843/laws.FnExactTrapName" = some 3 by kernel_rfl).symm.trans hf) |>.symm
  obtain rfl : fn = Tryd.f3 := (Option.some.inj (Tryd.func3.symm.trans hfn)).symm
  refine ⟨by kernel_rfl, fun j t ht => ?_⟩
  have hall : Tryd.f3.params.toList.all (fun t => !Tryd.prog.wantsStandIn t) = true := by kernel_rfl
  have := List.all_eq_true.1 hall t (by simpa using Array.mem_of_getElem? ht)
  show Tryd.prog.wantsStandIn t = false
  simpa using this
theorem card : Rows.FnExactTrapNameCardSaid :=
  Claim7.holds_tied_plain_at .later [] _ _ _ _ said (fun _ h => by cases h) (by kernel_rfl) (fun _ h => by cases h) fnExactTrapName_row_tie rfl ⟨rfl, rfl⟩ (by kernel_rfl) rfl plain (by kernel_rfl)
#print axioms card
end Go.Proofs.YtaamjnpknmimmaaDoor.fnExactTrapName
