/- For every argument the law FnExactIsProgram returns true; the listed variables read as the program's text lays them (the card ties them). -/
import Derived.Test.YtodecmdgcopkiaaDoorCards
import Derived.Test.YtodecmdgcopkiaaDoorTie
import Derived.Test.YtodecmdgcopkiaaDoorFrame
import Derived.Test.YtodecmdgcopkiaaDoorAre
import Derived.Test.YtodecmdgcopkiaaDoorOpenI
import Derived.Deep.RegionHeld3
namespace Go.Proofs.YtodecmdgcopkiaaDoor.fnExactIsProgram
open Go.ChangeShapes Go.WideShapes Go.ChangeAt Go.RowKit
open Go.ChangeMaps (open_string shut_string)
open Go Go.Proofs.YtodecmdgcopkiaaDoor.L3 Go.Proofs.YtodecmdgcopkiaaDoor.Mem Go.Proofs.YtodecmdgcopkiaaDoor.Own
set_option linter.unusedVariables false
theorem own : ownKnob Tryd.prog.godebug = none := by kernel_rfl
theorem laidOut : laidOutB Tryd.prog = true := by kernel_rfl
theorem tab {W : World} (h : laidMetH Tryd.prog Rows.fnExactIsProgramRow.laid W) : OpsIs W := opsIs_of_mem h (.head _)
set_option maxRecDepth 100000 in
set_option maxHeartbeats 20000000 in
theorem big0 (W : World) (A0 : Option Addr) (n0 c0 : Nat) (xs0 : List Ins) (hr0 : Reads W W.heap.size 4 A0 n0 (FL xs0)) (hx0 : n0 ≤ maxLen) (hy0 : 1048576 < n0) :
    Calls Tryd.prog 6 #[.slice A0 n0 c0] W fun e W' => e = .returned (.bool true) ∧ Below W.heap.size W W' := by
  unfold maxLen at hx0
  have hW0 : Hid (Below W.heap.size W W) := Lib.hid (Below.refl _ _)
  clear hr0
  go_enter Tryd.func6, Tryd.ntmps6
  go_wp2_with fail
  refine (szInstructionS_no A0 n0 c0 (1048576) (by omega) (by omega) _ (by omega) (by omega)).mono ?_
  rintro e w0 ⟨rfl, hw⟩
  subst hw
  go_wp2_with fail
  go_ret
  exact ⟨rfl, hW0.out⟩
set_option maxRecDepth 100000 in
set_option maxHeartbeats 20000000 in
theorem walk0 (W : World) (A0 : Option Addr) (n0 c0 : Nat) (xs0 : List Ins) (hr0 : Reads W W.heap.size 4 A0 n0 (FL xs0)) (hx0 : n0 ≤ maxLen) (hy : n0 ≤ 1048576) (ho : OpsIs W) :
    Calls Tryd.prog 6 #[.slice A0 n0 c0] W fun e W' => e = .returned (.bool true) ∧ Below W.heap.size W W' := by
  unfold maxLen at hx0
  have hn0 : n0 ≤ 1048576 := by omega
  have HO := Lib.hid ho
  clear ho
  obtain ⟨b, hb⟩ : ∃ b, decide (OkP xs0) = b := ⟨_, rfl⟩
  have HB := Lib.hid hb
  clear hb
  have HS := Lib.hid fun (A' : Option Addr) (c' : Nat) (w : World) (hx : Reads w w.heap.size 4 A' n0 (FL xs0)) => specProg_any A' n0 c' xs0 w hx hn0 b HB.out
  have HI := Lib.hid fun (A' : Option Addr) (c' : Nat) (w : World) (hx : Reads w w.heap.size 4 A' n0 (FL xs0)) (ho : OpsIs w) => implProg_any A' n0 c' xs0 w hx hn0 ho b HB.out
  replace hr0 := Lib.hid hr0
  have hW0 : Hid (Below W.heap.size W W) := Lib.hid (Below.refl _ _)
  go_enter Tryd.func6, Tryd.ntmps6
  go_wp2_with fail
  refine (szInstructionS_yes A0 n0 c0 (1048576) (by omega) _ (by omega)).mono ?_
  rintro e w0 ⟨rfl, hw⟩
  subst hw
  go_wp2_with fail
  refine (toInstructionS_any A0 n0 c0 _ xs0 _ ((hr0.out.below hW0.out).more hW0.out.size) (Nat.le_refl _) hn0).mono ?_
  rintro e u1 ⟨g_t0, rfl, h_t0, hb⟩
  have hs := hW0.out.size
  have hW1 := Lib.hid (below_then hW0.out hb)
  clear hb hW0
  have o_t0 := Lib.hid (own_mono h_t0 (b' := W.heap.size) hs)
  clear h_t0
  clear hs
  go_wp2_with fail
  have p_t0 := o_t0.out
  refine (HS.out _ _ _ (own_reads o_t0.out)).mono ?_
  rintro e u2 ⟨rfl, hb⟩
  clear p_t0
  have hs := hW1.out.size
  have hW2 := Lib.hid (below_then hW1.out hb)
  replace o_t0 := Lib.hid (own_below o_t0.out hb)
  clear hb hW1
  clear hs
  clear o_t0
  go_wp2_with fail
  refine (toInstructionS_any A0 n0 c0 _ xs0 _ ((hr0.out.below hW2.out).more hW2.out.size) (Nat.le_refl _) hn0).mono ?_
  rintro e u3 ⟨g_x0, rfl, h_x0, hb⟩
  have hs := hW2.out.size
  have hW3 := Lib.hid (below_then hW2.out hb)
  clear hb hW2
  have o_x0 := Lib.hid (own_mono h_x0 (b' := W.heap.size) hs)
  clear h_x0
  clear hs
  go_wp2_with fail
  have p_x0 := o_x0.out
  refine (HI.out _ _ _ (own_reads o_x0.out) (ops_below hW3.out HO.out)).mono ?_
  rintro e u4 ⟨rfl, hb⟩
  clear p_x0
  have hs := hW3.out.size
  have hW4 := Lib.hid (below_then hW3.out hb)
  replace o_x0 := Lib.hid (own_below o_x0.out hb)
  clear hb hW3
  clear hs
  go_wp2_with fail
  have p_x0 := o_x0.out
  refine (toInstructionS_any A0 n0 c0 _ xs0 _ ((hr0.out.below hW4.out).more hW4.out.size) (Nat.le_refl _) hn0).mono ?_
  rintro e u5 ⟨g_y0, rfl, h_y0, hb⟩
  have a_x0_y0 := apart_new p_x0 h_y0
  clear p_x0
  have hs := hW4.out.size
  have hW5 := Lib.hid (below_then hW4.out hb)
  replace o_x0 := Lib.hid (own_below o_x0.out hb)
  clear hb hW4
  have o_y0 := Lib.hid (own_mono h_y0 (b' := W.heap.size) hs)
  clear h_y0
  clear hs
  go_wp2_with fail
  refine (eqInstructionS_step _ _ _ _ _ xs0 _ hn0 (own_reads o_x0.out) (own_reads o_y0.out)).mono ?_
  rintro e u6 ⟨rfl, hb⟩
  have hs := hW5.out.size
  have hW6 := Lib.hid (below_then hW5.out hb)
  replace o_x0 := Lib.hid (own_below o_x0.out hb)
  replace o_y0 := Lib.hid (own_below o_y0.out hb)
  clear hb hW5
  clear hs
  clear o_y0
  clear a_x0_y0
  go_wp2_with fail
  go_ret
  exact ⟨rfl, hW6.out⟩

set_option maxHeartbeats 4000000 in
set_option maxRecDepth 100000 in
/-- the law's Go text returns true, and nothing that was there has turned -/
theorem walk {H : Type} {enc : TypeId × Value → H} (W : World) (base : Nat) (v0 : Value) (d0 : DataW H) (p0 : List MemPlace) (q0 : Value.okWide Tryd.prog W .any base 60 v0) (h0 : DataW.Trod enc Tryd.prog W 0 (fun _ => true) true 60 v0 d0 p0) (l0 : ∀ x ∈ p0, x.block < W.heap.size) (hL : laidMetH Tryd.prog Rows.fnExactIsProgramRow.laid W) (hsh : W.ShapedOpen Tryd.prog) :
    Calls Tryd.prog 6 #[v0] W fun e W' => e = .returned (.bool true) ∧ Below W.heap.size W W' := by
  obtain ⟨A0, n0, c0, xs0, rfl, hx0, hr0⟩ := open_prog q0 h0
  by_cases hy0 : 1048576 < n0
  · exact big0 W A0 n0 c0 xs0 hr0 hx0  hy0
  exact walk0 W A0 n0 c0 xs0 hr0 hx0 (by omega) (tab hL)
noncomputable def laidWorld (os : Os) : World := { World.holding Tryd.prog os ⟨#[], #[], []⟩ with heap := ((World.holding Tryd.prog os ⟨#[], #[], []⟩).heap).modify 0 (Fr.lay #[.string ⟨#[104, 97, 108, 116]⟩, .int .i64 1, .int .i64 1, .int .i64 1, .string ⟨#[115, 101, 116]⟩, .int .i64 4, .int .i64 1, .int .i64 65536, .string ⟨#[109, 111, 118, 101]⟩, .int .i64 4, .int .i64 4, .int .i64 1, .string ⟨#[97, 100, 100]⟩, .int .i64 4, .int .i64 4, .int .i64 1, .string ⟨#[115, 117, 98]⟩, .int .i64 4, .int .i64 4, .int .i64 1, .string ⟨#[97, 110, 100]⟩, .int .i64 4, .int .i64 4, .int .i64 1, .string ⟨#[115, 104, 105, 102, 116]⟩, .int .i64 4, .int .i64 1, .int .i64 16, .string ⟨#[106, 117, 109, 112]⟩, .int .i64 1, .int .i64 1, .int .i64 16, .string ⟨#[106, 117, 109, 112, 122, 101, 114, 111]⟩, .int .i64 1, .int .i64 1, .int .i64 16, .string ⟨#[116, 114, 97, 112]⟩, .int .i64 1, .int .i64 1, .int .i64 256]) }
theorem laid_met (os : Os) : laidMetH Tryd.prog Rows.fnExactIsProgramRow.laid ((laidWorld os).forCall (fun _ _ => 0) ⟨#[], #[(.slice none 0 0 : Value)], []⟩).memory := laidMet_of_run' 8 (by kernel_rfl) (by kernel_rfl)
theorem reads (os : Os) {H : Type} (enc : TypeId × Value → H) : (DataW.whole enc Tryd.prog ((laidWorld os).forCall (fun _ _ => 0) ⟨#[], #[(.slice none 0 0 : Value)], []⟩).memory Tryd.f6.params.toList Rows.fnExactIsProgramSpec.vars false #[(.slice none 0 0 : Value)].toList 8).isSome = true := by kernel_rfl
set_option maxRecDepth 100000 in
theorem lifted (os : Os) (started : os.Started) (H : Type) (enc : TypeId × Value → H) (F : Stop.Interp) :
    ReturnsInHanded {} Tryd.checked os 6 .any ((OpenSpec.ofChange Rows.fnExactIsProgramSpec).preRow enc Tryd.prog Tryd.f6 Rows.fnExactIsProgramRow.domain false Rows.fnExactIsProgramRow.laid) (((OpenSpec.ofChange Rows.fnExactIsProgramSpec).at F).post enc Tryd.prog Tryd.f6 false true false false) := by
  obtain ⟨x, hx⟩ := Option.isSome_iff_exists.1 (reads os enc)
  refine returnsInHanded_of_row (C := Tryd.checked) (s := OpenSpec.ofChange Rows.fnExactIsProgramSpec) own started (by kernel_rfl) Tryd.func6
    (witness_row_at (enc := enc) (C := Tryd.checked) false (laidWorld os) #[(.slice none 0 0 : Value)] rfl (by kernel_rfl) (by kernel_rfl) (by kernel_rfl)
      (OpenSpec.preRow_of_cond 8 hx (by rfl) (fun k hk => by cases hk) (by kernel_rfl) (laid_met os))) ?_
  intro W base args ds gs before hval0 hW _ hcond hsz hL hsh _
  have hval : ∀ (j : Nat) t v, Tryd.f6.params[j]? = some t → args[j]? = some v → Value.okWide Tryd.prog W .any base t v := hval0
  have hW' := hW
  obtain ⟨p, q, hA0, hV, rfl, hfz, hnd⟩ := hW
  have hA : DataW.TrodAll enc Tryd.prog W 0 (fun _ => true) true Tryd.f6.params.toList args.toList ds p := hA0
  rw [Tryd.params6] at hA hval
  obtain ⟨v0, vs0, d0, ds0, p0, q0, hargs, rfl, rfl, h0, r0⟩ := trodAll_cons hA
  obtain ⟨rfl, rfl, rfl⟩ := trodAll_nil r0
  obtain rfl : args = #[v0] := by cases args; simp_all
  clear hA0 hval0
  try simp only [List.append_nil] at hW'
  refine (walk (enc := enc) W base v0 d0 p0 (hval 0 60 v0 rfl rfl) h0 (fun x hx => hW'.lt x (by simp [hx])) hL hsh).mono fun e W' ⟨he, hb⟩ => ⟨_, he, Fr.post_true_v laidOut (by kernel_rfl) (by kernel_rfl) Tryd.underlying4 (by kernel_rfl) hW' (fun xs ys hx hy => by match xs, ys, hx, hy with | [x0], [y0], _, _ => rfl) hb⟩
theorem said : Rows.FnExactIsProgramSaid :=
  OpenClaim.holds_of_cond 6 Tryd.f6 rfl rfl rfl rfl rfl rfl rfl ⟨rfl, rfl, rfl, rfl, rfl⟩ rfl rfl rfl rfl rfl (by kernel_rfl) Tryd.func6 (by kernel_rfl)
    (of_decide_eq_true (by kernel_rfl)) (by unfold Func.isWrapper; first | (rw [if_pos (by decide +kernel)]; kernel_rfl) | (rw [if_neg (by decide +kernel)]; exact ⟨rfl, rfl⟩))
    (fun os started H enc _ F => by rw [OpenClaim.pre_eq_preRow]; exact lifted os started H enc F)
theorem plain (f : FuncId) (fn : Func) (hf : Tryd.pinned.checked.prog.funcNamed "loop.example/g00843/laws.FnExactIsProgram" = some f) (hfn : Tryd.pinned.checked.prog.funcs[f]? = some fn) :
    true = Tryd.pinned.checked.prog.looks [] ∧ ∀ (j : Nat) t, fn.params[j]? = some t → Tryd.pinned.checked.prog.wantsStandIn t = false := by
  obtain rfl : f = 6 := Option.some.inj ((show Tryd.prog.funcNamed "loop.example/g00843/laws.FnExactIsProgram" = some 6 by kernel_rfl).symm.trans hf) |>.symm
  obtain rfl : fn = Tryd.f6 := (Option.some.inj (Tryd.func6.symm.trans hfn)).symm
  refine ⟨by kernel_rfl, fun j t ht => ?_⟩
  have hall : Tryd.f6.params.toList.all (fun t => !Tryd.prog.wantsStandIn t) = true := by kernel_rfl
  have := List.all_eq_true.1 hall t (by simpa using Array.mem_of_getElem? ht)
  show Tryd.prog.wantsStandIn t = false
  simpa using this
theorem card : Rows.FnExactIsProgramCardSaid :=
  Claim7.holds_tied_plain_at .later [] _ _ _ _ said (fun _ h => by cases h) (by kernel_rfl) (fun _ h => by cases h) fnExactIsProgram_row_tie rfl ⟨rfl, rfl⟩ (by kernel_rfl) rfl plain (by kernel_rfl)
#print axioms card
end Go.Proofs.YtodecmdgcopkiaaDoor.fnExactIsProgram
