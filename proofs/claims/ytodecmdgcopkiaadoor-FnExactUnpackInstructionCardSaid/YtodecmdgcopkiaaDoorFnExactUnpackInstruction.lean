/- For every number the law FnExactUnpackInstruction returns true; the listed variables read as the program's text lays them (the card ties them). -/
import Derived.Test.YtodecmdgcopkiaaDoorCards
import Derived.Test.YtodecmdgcopkiaaDoorTie
import Derived.Test.YtodecmdgcopkiaaDoorFrame
import Derived.Test.YtodecmdgcopkiaaDoorPack
import Derived.Test.YtodecmdgcopkiaaDoorOpenI
namespace Go.Proofs.YtodecmdgcopkiaaDoor.fnExactUnpackInstruction
open Go.ChangeShapes Go.WideShapes Go.ChangeAt Go.RowKit
open Go.ChangeMaps (open_string shut_string)
open Go.Proofs.YtodecmdgcopkiaaDoor.L3 Go.Proofs.YtodecmdgcopkiaaDoor.Mem Go.Proofs.YtodecmdgcopkiaaDoor.Own
set_option linter.unusedVariables false
theorem own : ownKnob Tryd.prog.godebug = none := by kernel_rfl
theorem laidOut : laidOutB Tryd.prog = true := by kernel_rfl
theorem tab {W : World} (h : laidMetH Tryd.prog Rows.fnExactUnpackInstructionRow.laid W) : OpsIs W := opsIs_of_mem h (.head _)

set_option maxHeartbeats 4000000 in
set_option maxRecDepth 100000 in
/-- the law's Go text returns true, and nothing that was there has turned -/
theorem walk {H : Type} {enc : TypeId × Value → H} (W : World) (base : Nat) (n0 : Int) (b0 : (Lit.int .i64 n0).wf = true) (hL : laidMetH Tryd.prog Rows.fnExactUnpackInstructionRow.laid W) (hsh : W.ShapedOpen Tryd.prog) :
    Calls Tryd.prog 11 #[.int .i64 n0] W fun e W' => e = .returned (.bool true) ∧ Below W.heap.size W W' := by
  have HO := Lib.hid (tab hL)
  clear hL hsh
  obtain ⟨x, b, hb⟩ : ∃ (x : Ins) (b : Bool), unpackAns n0 = .tuple #[x.val, .bool b] := by
    unfold unpackAns
    split
    · exact ⟨_, _, rfl⟩
    · exact ⟨⟨0, 0, 0, 0⟩, _, rfl⟩
  have HS := Lib.hid fun w => specUnpack_any n0 w
  have HI := Lib.hid fun w ho => implUnpack_any n0 w ho
  rw [hb] at HS HI
  have HE := Lib.hid fun w => eqInstruction_same x w
  clear hb
  obtain ⟨op, xa, xb, xn⟩ := x
  dsimp only [Ins.val] at HS HI HE
  go_enter Tryd.func11, Tryd.ntmps11
  go_wp2_with fail
  refine (HS.out _).mono ?_
  rintro e w1 ⟨rfl, hb⟩
  have hX1 : Hid (Below W.heap.size W w1) := Lib.hid hb
  clear hb
  go_wp2_with fail
  refine (HI.out _ (ops_below (below_more hX1.out _) HO.out)).mono ?_
  rintro e w2 ⟨rfl, hb⟩
  have hK2 := Lib.hid (Blk.kept hb (Blk.new _ _ _))
  have hX2 := Lib.hid (below_then (below_more hX1.out _) hb)
  clear hb
  have k0 := hK2.out.cell 0 _ rfl
  have k1 := hK2.out.cell 1 _ rfl
  have k2 := hK2.out.cell 2 _ rfl
  have k3 := hK2.out.cell 3 _ rfl
  have hlt := hK2.out.lt
  go_wp2_with fail
  refine (HE.out _).mono ?_
  rintro e w3 ⟨rfl, hb⟩
  have hX3 := Lib.hid (below_then (below_more hX2.out _) hb)
  clear hb
  go_wp2_with fail
  go_ret
  exact ⟨rfl, hX3.out⟩
noncomputable def laidWorld (os : Os) : World := { World.holding Tryd.prog os ⟨#[], #[], []⟩ with heap := ((World.holding Tryd.prog os ⟨#[], #[], []⟩).heap).modify 0 (Fr.lay #[.string ⟨#[104, 97, 108, 116]⟩, .int .i64 1, .int .i64 1, .int .i64 1, .string ⟨#[115, 101, 116]⟩, .int .i64 4, .int .i64 1, .int .i64 65536, .string ⟨#[109, 111, 118, 101]⟩, .int .i64 4, .int .i64 4, .int .i64 1, .string ⟨#[97, 100, 100]⟩, .int .i64 4, .int .i64 4, .int .i64 1, .string ⟨#[115, 117, 98]⟩, .int .i64 4, .int .i64 4, .int .i64 1, .string ⟨#[97, 110, 100]⟩, .int .i64 4, .int .i64 4, .int .i64 1, .string ⟨#[115, 104, 105, 102, 116]⟩, .int .i64 4, .int .i64 1, .int .i64 16, .string ⟨#[106, 117, 109, 112]⟩, .int .i64 1, .int .i64 1, .int .i64 16, .string ⟨#[106, 117, 109, 112, 122, 101, 114, 111]⟩, .int .i64 1, .int .i64 1, .int .i64 16, .string ⟨#[116, 114, 97, 112]⟩, .int .i64 1, .int .i64 1, .int .i64 256]) }
theorem laid_met (os : Os) : laidMetH Tryd.prog Rows.fnExactUnpackInstructionRow.laid ((laidWorld os).forCall (fun _ _ => 0) ⟨#[], #[(.int .i64 0 : Value)], []⟩).memory := laidMet_of_run' 8 (by kernel_rfl) (by kernel_rfl)
theorem reads (os : Os) {H : Type} (enc : TypeId × Value → H) : (DataW.whole enc Tryd.prog ((laidWorld os).forCall (fun _ _ => 0) ⟨#[], #[(.int .i64 0 : Value)], []⟩).memory Tryd.f11.params.toList Rows.fnExactUnpackInstructionSpec.vars false #[(.int .i64 0 : Value)].toList 8).isSome = true := by kernel_rfl
set_option maxRecDepth 100000 in
theorem lifted (os : Os) (started : os.Started) (H : Type) (enc : TypeId × Value → H) (F : Stop.Interp) :
    ReturnsInHanded {} Tryd.checked os 11 .any ((OpenSpec.ofChange Rows.fnExactUnpackInstructionSpec).preRow enc Tryd.prog Tryd.f11 Rows.fnExactUnpackInstructionRow.domain false Rows.fnExactUnpackInstructionRow.laid) (((OpenSpec.ofChange Rows.fnExactUnpackInstructionSpec).at F).post enc Tryd.prog Tryd.f11 false true false false) := by
  obtain ⟨x, hx⟩ := Option.isSome_iff_exists.1 (reads os enc)
  refine returnsInHanded_of_row (C := Tryd.checked) (s := OpenSpec.ofChange Rows.fnExactUnpackInstructionSpec) own started (by kernel_rfl) Tryd.func11
    (witness_row_at (enc := enc) (C := Tryd.checked) false (laidWorld os) #[(.int .i64 0 : Value)] rfl (by kernel_rfl) (by kernel_rfl) (by kernel_rfl)
      (OpenSpec.preRow_of_cond 8 hx (by rfl) (fun k hk => by cases hk) (by kernel_rfl) (laid_met os))) ?_
  intro W base args ds gs before hval0 hW _ hcond hsz hL hsh _
  have hval : ∀ (j : Nat) t v, Tryd.f11.params[j]? = some t → args[j]? = some v → Value.okWide Tryd.prog W .any base t v := hval0
  have hW' := hW
  obtain ⟨p, q, hA0, hV, rfl, hfz, hnd⟩ := hW
  have hA : DataW.TrodAll enc Tryd.prog W 0 (fun _ => true) true Tryd.f11.params.toList args.toList ds p := hA0
  rw [Tryd.params11] at hA hval
  obtain ⟨v0, vs0, d0, ds0, p0, q0, hargs, rfl, rfl, h0, r0⟩ := trodAll_cons hA
  obtain ⟨rfl, rfl, rfl⟩ := trodAll_nil r0
  obtain rfl : args = #[v0] := by cases args; simp_all
  obtain ⟨n0, rfl, rfl, rfl, b0⟩ := open_int Tryd.underlying3 (hval 0 3 v0 rfl rfl) h0
  clear hA0 hval0
  try simp only [List.append_nil] at hW'
  refine (walk (enc := enc) W base n0 b0 hL hsh).mono fun e W' ⟨he, hb⟩ => ⟨_, he, Fr.post_true_v laidOut (by kernel_rfl) (by kernel_rfl) Tryd.underlying4 (by kernel_rfl) hW' (fun xs ys hx hy => by match xs, ys, hx, hy with | [x0], [y0], _, _ => rfl) hb⟩
theorem said : Rows.FnExactUnpackInstructionSaid :=
  OpenClaim.holds_of_cond 11 Tryd.f11 rfl rfl rfl rfl rfl rfl rfl ⟨rfl, rfl, rfl, rfl, rfl⟩ rfl rfl rfl rfl rfl (by kernel_rfl) Tryd.func11 (by kernel_rfl)
    (of_decide_eq_true (by kernel_rfl)) (by unfold Func.isWrapper; first | (rw [if_pos (by decide +kernel)]; kernel_rfl) | (rw [if_neg (by decide +kernel)]; exact ⟨rfl, rfl⟩))
    (fun os started H enc _ F => by rw [OpenClaim.pre_eq_preRow]; exact lifted os started H enc F)
theorem plain (f : FuncId) (fn : Func) (hf : Tryd.pinned.checked.prog.funcNamed "loop.example/g00843/laws.FnExactUnpackInstruction" = some f) (hfn : Tryd.pinned.checked.prog.funcs[f]? = some fn) :
    true = Tryd.pinned.checked.prog.looks [] ∧ ∀ (j : Nat) t, fn.params[j]? = some t → Tryd.pinned.checked.prog.wantsStandIn t = false := by
  obtain rfl : f = 11 := Option.some.inj ((show Tryd.prog.funcNamed "loop.example/g00843/laws.FnExactUnpackInstruction" = some 11 by kernel_rfl).symm.trans hf) |>.symm
  obtain rfl : fn = Tryd.f11 := (Option.some.inj (Tryd.func11.symm.trans hfn)).symm
  refine ⟨by kernel_rfl, fun j t ht => ?_⟩
  have hall : Tryd.f11.params.toList.all (fun t => !Tryd.prog.wantsStandIn t) = true := by kernel_rfl
  have := List.all_eq_true.1 hall t (by simpa using Array.mem_of_getElem? ht)
  show Tryd.prog.wantsStandIn t = false
  simpa using this
theorem card : Rows.FnExactUnpackInstructionCardSaid :=
  Claim7.holds_tied_plain_at .later [] _ _ _ _ said (fun _ h => by cases h) (by kernel_rfl) (fun _ h => by cases h) fnExactUnpackInstruction_row_tie rfl ⟨rfl, rfl⟩ (by kernel_rfl) rfl plain (by kernel_rfl)
#print axioms card
end Go.Proofs.YtodecmdgcopkiaaDoor.fnExactUnpackInstruction
